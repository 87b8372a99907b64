/-
  The law answers true at every input, and leaves its arguments as they were: a part of the proof. CONDITIONS: the package-level tables start as the program's text lays them (the card ties them).
-/
import Derived.Test.YtkpghlnegbimdaaGreatDoorZad
import Derived.Test.YtkpghlnegbimdaaGreatDoorTie
import Derived.Test.YtkpghlnegbimdaaGreatDoorCards
set_option linter.unusedVariables false
set_option linter.unusedSimpArgs false
set_option maxHeartbeats 16000000
set_option maxRecDepth 100000
namespace Go.Proofs.YtkpghlnegbimdaaGreatDoor
open Go.RowKit
attribute [local irreducible] lo hs sm s64 c64 d64 b64 mh ml pd pc qd qc val hiB str cmpI srD lz nb zl zh zs fe klT ordZ
/-- The builder at b holds l. -/
def Bd8 (B b : Nat) (l : List UInt8) (w : World) : Prop := Lib.IsBuilderF 100 5 B b (Lib.byteCells l) w
theorem Bd8.below {B b : Nat} {l : List UInt8} {w w' : World} (h : Bd8 B b l w) (hb : Below w.heap.size w w') : Bd8 B b l w' := bf_below h hb
theorem Bd8.fresh (w : World) : Bd8 w.heap.size w.heap.size [] (w.alloc (.cells #[.pointer none, .slice none 0 0] 100)) := Lib.IsBuilderF.of (Lib.fresh_isBuilder _ _ w)
theorem ws8_any (B b : Nat) (l m : List UInt8) (w : World) (h : Bd8 B b l w) (hlen : l.length + m.length ≤ 140737488355328) (hBw : B ≤ w.heap.size) :
  Calls Tryz.prog 53 #[.pointer (some ⟨b, 0, none⟩), .string ⟨m.toArray⟩] w fun e w' => (∃ v, e = .returned v) ∧ Bd8 B b (l ++ m) w' ∧ Below B w w' ∧ Lib.OthersKept 5 (some b) w w' := by
 refine (write_any B b (Lib.byteCells l) ⟨m.toArray⟩ w h (by rw [Lib.byteCells_length]; exact hlen) hBw).mono ?_
 rintro e w' ⟨rfl, h1, h2, h3⟩
 refine ⟨⟨_, rfl⟩, ?_, h2, h3⟩
 unfold Bd8
 rw [Lib.byteCells_append]; exact h1
abbrev joinS (l : List ByteArray) : List UInt8 := Lib.join (l.map (·.data.toList)) [42]
/-- The text of the first k terms. -/
def txK (fl : Nat × Nat × Rat → List ByteArray) (P : TL) : Nat → List UInt8
 | 0 => []
 | k + 1 => txK fl P k ++ (match P[k]? with | some t => sgL (decide (sgnQ t.2.2 < 0)) (((k : Nat) : Int) == 0) ++ joinS (fl t) | none => [])
theorem sgL_len (a b : Bool) : (sgL a b).length ≤ 3 := by cases a <;> cases b <;> decide
theorem txK_len (fl : Nat × Nat × Rat → List ByteArray) (P : TL) (M : Nat) (h : ∀ t ∈ P, (joinS (fl t)).length ≤ M) : ∀ k, (txK fl P k).length ≤ k * (M + 3)
 | 0 => by simp [txK]
 | k + 1 => by
  have h1 := txK_len fl P M h k
  unfold txK
  rw [List.length_append, Nat.succ_mul]
  split
  ·next t ht =>
   have h2 := h t (List.mem_of_getElem? ht)
   have h3 := sgL_len (decide (sgnQ t.2.2 < 0)) (((k : Nat) : Int) == 0)
   rw [List.length_append]; omega
  ·simp; omega
theorem ptext_nil (l : List TI) (ao : Option Addr) (n c : Nat)
  (HN : ∀ w : World, PT w (.slice ao n c) l → Calls Tryz.prog 52 #[.slice ao n c] w fun xe w' => ∃ v', xe = .returned v' ∧ PT w' v' (ofL []) ∧ Below w.heap.size w w')
  (w : World) (hq : PT w (.slice ao n c) l) :
  Calls Tryz.prog 13 #[.slice ao n c] w fun xe w' => xe = .returned (.string ⟨#[48]⟩) ∧ Below w.heap.size w w' := by
 replace HN := Lib.hid HN
 replace hq := Lib.hid hq
 go_enter Tryz.func13, Tryz.ntmps13
 go_wp2_with fail
 with_reducible refine Calls.mono (HN.out w hq.out) ?_
 rintro e y1 ⟨v, rfl, hpt, hb⟩
 obtain ⟨a2, n2, c2, rfl, hn2⟩ := pt_form hpt
 obtain rfl : n2 = 0 := by rw [hn2]; rfl
 replace hb := Lib.hid hb
 clear hn2 hpt
 go_wp2_with fail
 exact bodyPost_ret (v := .string ⟨#[48]⟩) (by simp [results, Tryz.results13, go_sem]) rfl ⟨rfl, hb.out⟩
theorem ptext_w (l : List TI) (P : TL) (fl : Nat × Nat × Rat → List ByteArray) (ao : Option Addr) (n c : Nat) (hPl : P.length ≤ 10000) (hP0 : 0 < P.length)
  (hf0 : ∀ t ∈ P, 0 < (fl t).length ∧ (fl t).length ≤ 1000) (hfb : ∀ t ∈ P, (joinS (fl t)).length ≤ 1000000)
  (HN : ∀ w : World, PT w (.slice ao n c) l → Calls Tryz.prog 52 #[.slice ao n c] w fun xe w' => ∃ v', xe = .returned v' ∧ PT w' v' (ofL P) ∧ Below w.heap.size w w')
  (HF : ∀ t ∈ P, ∀ w : World, Tab w → Calls Tryz.prog 57 #[tmV t.1 t.2.1 t.2.2] w fun xe w' => ∃ v n, xe = .returned v ∧ OwnS w' w.heap.size v n (fl t) ∧ Below w.heap.size w w')
  (w : World) (hq : PT w (.slice ao n c) l) (ht : Tab w) :
  Calls Tryz.prog 13 #[.slice ao n c] w fun xe w' => xe = .returned (.string ⟨(txK fl P P.length).toArray⟩) ∧ Below w.heap.size w w' := by
 have hlen := txK_len fl P 1000000 hfb
 replace HN := Lib.hid HN
 replace HF := Lib.hid HF
 replace hq := Lib.hid hq
 replace ht := Lib.hid ht
 replace hf0 := Lib.hid hf0
 replace hfb := Lib.hid hfb
 replace hlen := Lib.hid hlen
 go_enter Tryz.func13, Tryz.ntmps13
 go_wp2_with fail
 with_reducible refine Calls.mono (HN.out w hq.out) ?_
 rintro e y1 ⟨v, rfl, hpt, hb⟩
 obtain ⟨a2, n2, c2, rfl, hn2⟩ := pt_form hpt
 have hpp := Lib.hid (pt_parts hpt).2
 have hnl : n2 = P.length := by rw [hn2]; exact ofL_length P
 have hn0 : 0 < n2 := by omega
 have hnb : n2 ≤ 10000 := by omega
 have k0 : ¬ ((n2 : Int) = 0) := by omega
 replace hnl := Lib.hid hnl
 replace hb := Lib.hid hb
 clear hn2 hpt hPl hP0
 have hBd := Lib.hid (Bd8.fresh y1)
 have hB2 := Lib.hid ((Below.refl y1.heap.size y1).alloc (Nat.le_refl _) (.cells #[.pointer none, .slice none 0 0] 100))
 generalize hweq : y1.alloc (.cells #[.pointer none, .slice none 0 0] 100) = y2 at hBd hB2
 go_wp2_with fail
 simp only [show ((n2 : Int) == 0) = false from beq_eq_false_iff_ne.2 k0]
 clear hweq
 obtain ⟨b, hbb⟩ : ∃ b, b = y1.heap.size := ⟨_, rfl⟩
 rw [← hbb] at hBd hB2 ⊢
 have hbw : w.heap.size ≤ b := by rw [hbb]; exact hb.out.size
 replace hbb := Lib.hid hbb
 replace hbw := Lib.hid hbw
 go_loopg [13] n2 (fun gk iv wr => ∃ (k : Nat) (zi : Int), k + gk = n2 ∧ iv = .int .i64 zi ∧ zi = (k : Int) ∧ Bd8 b b (txK fl P k) wr ∧ Below b y1 wr)
 case atStart => exact ⟨0, 0, Nat.zero_add n2, by first | rfl | go_num, rfl, hBd.out, hB2.out⟩
 case round =>
  clear hBd hB2
  obtain ⟨k, zi, hik, rfl, hzi, hBd, hB⟩ := hrel
  replace hBd := Lib.hid hBd
  have hBs : b ≤ wr.heap.size := Nat.le_trans (Nat.le_of_eq hbb.out) hB.size
  rcases Nat.lt_or_ge k n2 with hin | hin
  ·subst hzi
   have hkP : k < P.length := by rw [← hnl.out]; exact hin
   have hko : k < (ofL P).length := by rw [ofL_length]; exact hkP
   obtain ⟨g, rfl, hts⟩ := hpp.out (by omega)
   have hf := (hts.below (hbb.out ▸ hB)).cell k hko
   have k1 : (k : Int) < (n2 : Int) := by omega
   have k2 : (0 : Int) ≤ (k : Int) := Int.natCast_nonneg _
   obtain ⟨an, bn, q, hPk⟩ : ∃ a b q, P[k] = (a, b, q) := ⟨_, _, _, rfl⟩
   rw [ofL_get hkP hko hPk] at hf
   simp only at hf
   have hmem : (an, bn, q) ∈ P := by rw [← hPk]; exact List.getElem_mem hkP
   have hx : txK fl P (k + 1) = txK fl P k ++ (sgL (decide (sgnQ q < 0)) ((k : Int) == 0) ++ joinS (fl (an, bn, q))) := by
    conv => lhs; unfold txK
    rw [List.getElem?_eq_getElem hkP, hPk]
   have hl1 := hlen.out k
   have hl2 := hfb.out _ hmem
   have hl3 := hf0.out _ hmem
   have hl4 := sgL_len (decide (sgnQ q < 0)) ((k : Int) == 0)
   have HF1 := HF.out _ hmem
   generalize fl (an, bn, q) = fs at hx hl2 hl3 HF1
   simp only at HF1
   obtain ⟨tk, htk⟩ : ∃ tk, tk = txK fl P k := ⟨_, rfl⟩
   rw [← htk] at hx hBd hl1
   replace HF1 := Lib.hid HF1
   obtain ⟨sg, hsg⟩ : ∃ sg, sg = sgnQ q := ⟨_, rfl⟩
   have HS := Lib.hid (signF q)
   rw [← hsg] at hx hl4 HS
   have hl5 : k * (1000000 + 3) ≤ 10000 * (1000000 + 3) := Nat.mul_le_mul_right _ (by omega)
   clear hts
   obtain ⟨f0, f1, f2, f3, f4, f5, f6⟩ := hf
   replace hx := Lib.hid hx
   replace hl1 := Lib.hid hl1
   replace hl2 := Lib.hid hl2
   replace hl3 := Lib.hid hl3
   replace hl4 := Lib.hid hl4
   replace hl5 := Lib.hid hl5
   replace htk := Lib.hid htk
   replace hsg := Lib.hid hsg
   replace hPk := Lib.hid hPk
   have hE0 := heap_alloc_new wr (.cells #[.int .i64 (an : Int), .int .i64 (bn : Int), .int .u64 ((zl q.num : Nat) : Int), .string (zh q.num), .bool (zs q.num), .int .u64 ((lo (fe q) : Nat) : Int), .string (hs (fe q))] 84)
   have hA : Below wr.heap.size wr (wr.alloc (.cells #[.int .i64 (an : Int), .int .i64 (bn : Int), .int .u64 ((zl q.num : Nat) : Int), .string (zh q.num), .bool (zs q.num), .int .u64 ((lo (fe q) : Nat) : Int), .string (hs (fe q))] 84)) := (Below.refl _ _).alloc (Nat.le_refl _) _
   have hL0 : GL wr wr [] := GL.start wr
   replace hL0 := hL0.new rfl [.int .i64 (an : Int), .int .i64 (bn : Int), .int .u64 ((zl q.num : Nat) : Int), .string (zh q.num), .bool (zs q.num), .int .u64 ((lo (fe q) : Nat) : Int), .string (hs (fe q))] 84
   generalize hweq : wr.alloc (.cells #[.int .i64 (an : Int), .int .i64 (bn : Int), .int .u64 ((zl q.num : Nat) : Int), .string (zh q.num), .bool (zs q.num), .int .u64 ((lo (fe q) : Nat) : Int), .string (hs (fe q))] 84) = y5 at hL0 hE0 hA
   have hN0 := cells_of _ 0 [] rfl (hL0.get _ _ mZ)
   simp only [zF, Nat.reduceAdd] at hN0
   have hBd5 := Lib.hid (hBd.out.below hA)
   have hB5 := Lib.hid (hB.trans (hA.mono hBs))
   have hlt5 : wr.heap.size < y5.heap.size := (Array.getElem?_eq_some_iff.1 hE0).1
   replace hE0 := Lib.hid hE0
   clear hA hL0 hBd hB
   go_wp2_with fail
   with_reducible refine Calls.mono (HS.out _) ?_
   rintro e y6 ⟨rfl, hb6⟩
   have hE6 := (hb6.block _ hlt5).trans hE0.out
   have hBd6 := Lib.hid (hBd5.out.below hb6)
   have hB6 := Lib.hid (hB5.out.trans (hb6.mono (by omega)))
   have hlt6 : wr.heap.size < y6.heap.size := Nat.lt_of_lt_of_le hlt5 hb6.size
   clear hb6 hE0 hBd5 hB5 hN0 hweq f0 f1 f2 f3 f4 f5 f6
   replace hE6 := Lib.hid hE6
   go_wp2_with fail
   with_reducible refine Calls.mono (sign8_any _ _ _) ?_
   rintro e y7 ⟨rfl, hb7⟩
   have hE7 := (hb7.block _ hlt6).trans hE6.out
   have hBd7 := Lib.hid (hBd6.out.below hb7)
   have hB7 := Lib.hid (hB6.out.trans (hb7.mono (by omega)))
   have hlt7 : wr.heap.size < y7.heap.size := Nat.lt_of_lt_of_le hlt6 hb7.size
   clear hb7 hE6 hBd6 hB6
   replace hE7 := Lib.hid hE7
   have hb7s : b ≤ y7.heap.size := by omega
   go_wp2_with fail
   refine (ws8_any b b tk (sgL (decide (sg < 0)) ((k : Int) == 0)) y7 hBd7.out (by have := hl1.out; have := hl4.out; have := hl5.out; omega) hb7s).mono ?_
   rintro e y8 ⟨⟨v8, rfl⟩, hBd8, hbb8, hk8⟩
   have hwb : wr.heap.size ≠ b := fun hh => by
    have h1 := hBd7.out
    rcases h1 with h1 | h1
    ·obtain ⟨_, _, h2, _⟩ := h1
     rw [← hh, hE7.out] at h2; cases h2
    ·obtain ⟨_, _, h2, _⟩ := h1
     rw [← hh, hE7.out] at h2; cases h2
   have hE8 : y8.heap[wr.heap.size]? = _ := hk8 wr.heap.size _ hE7.out (fun hh => hwb (Option.some.inj hh)) (fun c fz hh => by simp at hh)
   have g0 : y8.cell? ⟨wr.heap.size, 0, none⟩ = some (.int .i64 (an : Int)) := by rw [Lib.cell_of_heap hE8]; rfl
   have g1 : y8.cell? ⟨wr.heap.size, 1, none⟩ = some (.int .i64 (bn : Int)) := by rw [Lib.cell_of_heap hE8]; rfl
   have g2 : y8.cell? ⟨wr.heap.size, 2, none⟩ = some (.int .u64 ((zl q.num : Nat) : Int)) := by rw [Lib.cell_of_heap hE8]; rfl
   have g3 : y8.cell? ⟨wr.heap.size, 3, none⟩ = some (.string (zh q.num)) := by rw [Lib.cell_of_heap hE8]; rfl
   have g4 : y8.cell? ⟨wr.heap.size, 4, none⟩ = some (.bool (zs q.num)) := by rw [Lib.cell_of_heap hE8]; rfl
   have g5 : y8.cell? ⟨wr.heap.size, 5, none⟩ = some (.int .u64 ((lo (fe q) : Nat) : Int)) := by rw [Lib.cell_of_heap hE8]; rfl
   have g6 : y8.cell? ⟨wr.heap.size, 6, none⟩ = some (.string (hs (fe q))) := by rw [Lib.cell_of_heap hE8]; rfl
   have hB8 := Lib.hid (hB7.out.trans hbb8)
   have ht8 := Lib.hid (ht.out.below (hb.out.trans (hB8.out.mono hbw.out)))
   replace hBd8 := Lib.hid hBd8
   have hb8s : b ≤ y8.heap.size := Nat.le_trans hb7s hbb8.size
   clear hk8 hE8 hbb8 hE7 hBd7 hB7
   go_wp2_with fail
   with_reducible refine Calls.mono (HF1.out _ ht8.out) ?_
   rintro e y9 ⟨v9, n9, rfl, hown9, hb9⟩
   obtain ⟨g9, c9, rfl, hc9, hg9, hce9⟩ := ownS_cells hown9 hl3.out.1
   have hBd9 := Lib.hid (hBd8.out.below hb9)
   have hB9 := Lib.hid (hB8.out.trans (hb9.mono hb8s))
   have hb9s : b ≤ y9.heap.size := Nat.le_trans hb8s hb9.size
   have HJ := Lib.hid (Tryz.strings_Join g9 0 c9 fs ⟨#[42]⟩ y9 hce9 hg9 (by have := hl3.out; omega) hc9 (by have := hl2.out; unfold joinS at this; exact Nat.le_trans this (by decide)))
   clear hb9 hown9 hc9 hg9 hce9 hBd8 hB8 ht8 g0 g1 g2 g3 g4 g5 g6
   generalize hfl : fs.length = m9 at HJ ⊢
   replace hfl := Lib.hid hfl
   go_wp2_with fail
   refine HJ.out.mono ?_
   rintro e y10 ⟨rfl, hb10⟩
   have hBd10 := Lib.hid (hBd9.out.below hb10)
   have hB10 := Lib.hid (hB9.out.trans (hb10.mono hb9s))
   have hb10s : b ≤ y10.heap.size := Nat.le_trans hb9s hb10.size
   clear HJ hb10 hBd9 hB9
   go_wp2_with fail
   refine (ws8_any b b _ (joinS fs) y10 hBd10.out (by rw [List.length_append]; have := hl1.out; have := hl2.out; have := hl4.out; have := hl5.out; omega) hb10s).mono ?_
   rintro e y11 ⟨⟨v11, rfl⟩, hBd11, hbb11, hk11⟩
   rw [List.append_assoc, ← hx.out] at hBd11
   have hB11 := Lib.hid (hB10.out.trans hbb11)
   replace hBd11 := Lib.hid hBd11
   clear hbb11 hk11 hBd10 hB10
   go_wp2_with fail
   go_roundg (n2 - (k + 1))
   case measure => omega
   case rel => exact ⟨k + 1, _, by omega, by first | rfl | go_num, by omega, hBd11.out, hB11.out⟩
  ·obtain rfl : k = n2 := by omega
   subst hzi
   obtain ⟨fin, hf⟩ : ∃ f, f = txK fl P k := ⟨_, rfl⟩
   rw [← hf] at hBd
   replace hf := Lib.hid hf
   go_wp2_with fail
   refine (Tryz.Builder_String_any_k _ _ fin _ hBd.out hBs).mono ?_
   rintro e y12 ⟨rfl, h1, h2, h3⟩
   have hB12 := Lib.hid (hb.out.trans ((hB.trans h2).mono hbw.out))
   clear h1 h2 h3
   go_wp2_with fail
   exact bodyPost_ret (v := .string ⟨fin.toArray⟩) (by simp [results, Tryz.results13, go_sem]) rfl ⟨by rw [hf.out, ← hnl.out], hB12.out⟩
end Go.Proofs.YtkpghlnegbimdaaGreatDoor
namespace Go.Proofs.YtkpghlnegbimdaaGreatDoor
open Go.RowKit
attribute [local irreducible] lo hs sm s64 c64 d64 b64 mh ml pd pc qd qc val hiB str cmpI srD lz nb zl zh zs fe klT ordZ
def conN (c : Rat) : TL := nfL [(0, 0, c)]
theorem lin_con (c : Rat) : linN 0 0 c = conN c := nf_uniq (nfL_nf _) (nfL_nf _) ((nfL_eqv _).trans (Eqv.trans (fun F => by
 show pair [(1, 0, 0), (0, 1, 0), (0, 0, c)] F = pair [(0, 0, c)] F
 simp only [pair, Rat.zero_mul, Rat.zero_add]) (nfL_eqv _).symm))
theorem GP.con {c : Rat} {k : Nat} (h : Sz c k) : GP (conN c) 0 k := ⟨nfL_nf _, tb_nfL (fun t ht => by rw [List.mem_singleton.1 ht]; exact Nat.le_refl _), (SzL.one h).nf⟩
theorem sz_i8 {i : Int} (h0 : -1000 ≤ i) (h1 : i ≤ 1000) : Sz (i : Rat) 1 := Sz.int (by
 unfold dI
 exact digs_length_iff.2 (by unfold Bs; omega)) (by omega)
theorem sz_0 {k : Nat} (h : 0 < k) : Sz (0 : Rat) k := (sz_i8 (i := 0) (by omega) (by omega)).mono h
theorem int0 (w : World) : Calls Tryz.prog 35 #[.int .i64 0] w fun xe w' => xe = .returned (fracV (0 : Rat)) ∧ Below w.heap.size w w' := intF 0 (by decide) (by decide) w
theorem int1 (w : World) : Calls Tryz.prog 35 #[.int .i64 1] w fun xe w' => xe = .returned (fracV (1 : Rat)) ∧ Below w.heap.size w w' := intF 1 (by decide) (by decide) w
theorem conG {c : Rat} {k : Nat} (hc : Sz c k) (h0 : 0 < k) (hk : k ≤ 30000) (w : World) : Calls Tryz.prog 34 #[fracV c] w fun xe w' => ∃ v', xe = .returned v' ∧ PT w' v' (ofL (conN c)) ∧ Below w.heap.size w w' := by
 refine pconst_w 0 c (ofL (conN c)) int0 (fun w => ?_) w
 have := linG (sz_0 h0) (sz_0 h0) hc hk w
 rwa [lin_con] at this
theorem xG (w : World) : Calls Tryz.prog 44 #[] w fun xe w' => ∃ v', xe = .returned v' ∧ PT w' v' (ofL (linN 1 0 0)) ∧ Below w.heap.size w w' :=
 px_w 0 1 (ofL (linN 1 0 0)) int0 int1 (fun w => linG (k := 1) (sz_i8 (i := 1) (by omega) (by omega)) (sz_0 (by omega)) (sz_0 (by omega)) (by omega) w) w
theorem yG (w : World) : Calls Tryz.prog 45 #[] w fun xe w' => ∃ v', xe = .returned v' ∧ PT w' v' (ofL (linN 0 1 0)) ∧ Below w.heap.size w w' :=
 py_w 0 1 (ofL (linN 0 1 0)) int0 int1 (fun w => linG (k := 1) (sz_0 (by omega)) (sz_i8 (i := 1) (by omega) (by omega)) (sz_0 (by omega)) (by omega) w) w
def powN (p : TL) : Nat → TL
 | 0 => conN 1
 | k + 1 => mulN (powN p k) p
theorem GP.pow {p : TL} {d K : Nat} (h : GP p d K) : ∀ k, GP (powN p k) (k * d) (k * K + 1)
 | 0 => (GP.con (sz_i8 (i := 1) (by omega) (by omega))).mono (by omega) (by omega)
 | k + 1 => ((h.pow k).mul h).mono (by rw [Nat.succ_mul]; exact Nat.le_refl _) (by rw [Nat.succ_mul]; omega)
section
variable {p q : TL} {d K e M : Nat}
theorem powG (h : GP p d K) (n : Nat) (hn : n ≤ 12) (hdn : n * d ≤ 12) (hd : d ≤ 12) (hK : K ≤ 5000) (w : World) (v : Value) (hv : PT w v (ofL p)) :
  Calls Tryz.prog 40 #[v, .int .i64 (n : Int)] w fun xe w' => ∃ v', xe = .returned (.tuple #[v', .int .i64 0]) ∧ PT w' v' (ofL (powN p n)) ∧ Below w.heap.size w w' := by
 obtain ⟨ao, m, c, rfl, -⟩ := pt_form hv
 have h1 : degI p ≤ (d : Int) := degI_le h.tb
 have h2 := degI_ge p
 have h3 : (n : Int) * degI p ≤ (n : Int) * (d : Int) := Int.mul_le_mul_of_nonneg_left h1 (by omega)
 have h4 : (n : Int) * (-1) ≤ (n : Int) * degI p := Int.mul_le_mul_of_nonneg_left h2 (by omega)
 have h5 : (n : Int) * (d : Int) ≤ 12 := by exact_mod_cast hdn
 generalize hs : (n : Int) * degI p = s at h3 h4
 refine ppow_w (ofL p) n (fun k => ofL (powN p k)) (degI p) s 1 ao m c hn (by rw [hs]; simp [IntKind.wrap, IntKind.bits, IntKind.signed]; omega) (by rw [hs]; simp [wrap64]; omega) (by omega) (fun w hq => degG h hd (by omega) w _ hq) int1 (fun w => conG (k := 1) (sz_i8 (i := 1) (by omega) (by omega)) (by omega) (by omega) w) (fun k hk v w hv hq => ?_) w hv
 have h6 : (k + 1) * d ≤ n * d := Nat.mul_le_mul_right _ (by omega)
 rw [Nat.succ_mul] at h6
 have h7 : k * K ≤ 12 * 5000 := Nat.mul_le_mul (by omega) (by omega)
 exact prodG (h.pow k) h (by omega) (by omega) w v _ hv hq
theorem coef_sz (h : GP p d K) (h0 : 0 < K) (i j : Int) : Sz (coefZ p i j) K := by
 unfold coefZ
 split
 ·exact sz_0 h0
 ·next t ht => exact h.sz.mem (List.mem_of_find?_eq_some ht)
/-- Horner's scheme with k of D coefficients. -/
def hornN (D : Nat) (u : TL) (co : Nat → TL) : Nat → TL
 | 0 => []
 | k + 1 => addN (mulN (hornN D u co k) u) (co (D - 1 - k))
theorem GP.horn {D U C : Nat} {u : TL} {co : Nat → TL} (hu : GP u 1 U) (hc : ∀ i, i < D → GP (co (D - 1 - i)) (i + 1) C) : ∀ k, k ≤ D → GP (hornN D u co k) k (k * (U + C + 1) + 1)
 | 0, _ => GP.nil.mono (by omega) (by omega)
 | k + 1, hk => (((GP.horn hu hc k (by omega)).mul hu).add (hc k (by omega))).mono (by omega) (by rw [Nat.succ_mul]; omega)
def topD (p : TL) : Nat := (degI p + 1).toNat
theorem topD_eq (p : TL) : degI p = (topD p : Int) - 1 := by
 have := degI_ge p
 unfold topD
 omega
theorem topD_le (h : TB p d) : topD p ≤ d + 1 := by
 have := degI_le h
 unfold topD
 omega
def shiftN (p u v : TL) : TL := hornN (topD p) u (fun i => hornN (topD p - i) v (fun j => conN (coefZ p (i : Int) (j : Int))) (topD p - i)) (topD p)
theorem hornInG (h : GP p d K) (h0 : 0 < K) (hd : d ≤ 11) (hK : K ≤ 3000) {u : TL} {U : Nat} (hu : GP u 1 U) (hU : U ≤ 3000) (i : Nat) (hi : i < topD p) (d0 : Int) (hd0 : d0 = ((topD p - i : Nat) : Int) - 1) (pv : Value) (kp ki : Nat) (uv : Value) (w : World)
  (h1 : Hd w kp [pv]) (h2 : Hd w ki [.int .i64 (i : Int)]) (hp : PT w pv (ofL p)) (hv : PT w uv (ofL u)) :
  Calls Tryz.prog 83 #[.int .i64 d0, uv, .func (.func 85) #[] #[.pointer (some ⟨kp, 0, none⟩), .pointer (some ⟨ki, 0, none⟩)]] w fun xe w' => ∃ v', xe = .returned v' ∧ PT w' v' (ofL (hornN (topD p - i) u (fun j => conN (coefZ p (i : Int) (j : Int))) (topD p - i))) ∧ Below w.heap.size w w' := by
 obtain ⟨ao, m, c, rfl, -⟩ := pt_form hv
 have ht := topD_le h.tb
 generalize hD : topD p - i = D at *
 have hco : ∀ k, k < D → GP (conN (coefZ p (i : Int) ((D - 1 - k : Nat) : Int))) (k + 1) K := fun k _ => (GP.con (coef_sz h h0 _ _)).mono (by omega) (by omega)
 have hg := GP.horn (co := fun j => conN (coefZ p (i : Int) (j : Int))) hu hco
 refine phorn2_w 85 kp ki D d0 (ofL u) (fun k => ofL (mulN (hornN D u (fun j => conN (coefZ p (i : Int) (j : Int))) k) u)) (fun k => ofL (hornN D u (fun j => conN (coefZ p (i : Int) (j : Int))) k)) (fun k => ofL (conN (coefZ p (i : Int) ((D - 1 - k : Nat) : Int)))) ao m c (by omega) hd0 rfl (fun w => Hd w kp [pv] ∧ Hd w ki [.int .i64 (i : Int)] ∧ PT w pv (ofL p)) (fun _ _ hb ⟨a, b, c⟩ => ⟨a.below hb, b.below hb, c.below hb⟩) (enters_of Tryz.func85 (by kernel_rfl) rfl) (fun k hk v w hv hq => ?_) (fun k hk e w he hw => ?_) (fun k hk v u' w hv hu' => ?_) w hv ⟨h1, h2, hp⟩
 ·have hs : k * (U + K + 1) ≤ 13 * 6001 := Nat.mul_le_mul (by omega) (by omega)
  exact prodG (hg k (by omega)) hu (by omega) (by omega) w v _ hv hq
 ·have he2 : e = ((D - 1 - k : Nat) : Int) := by omega
  rw [he2]
  exact pshift11_w (ofL p) _ _ _ (coefZ p (i : Int) ((D - 1 - k : Nat) : Int)) pv kp ki (fun w hp => coefG h (by omega) (by omega) _ _ w _ hp) (fun w => conG (coef_sz h h0 _ _) h0 (by omega) w) w hw.1 hw.2.1 hw.2.2
 ·have hs : k * (U + K + 1) ≤ 13 * 6001 := Nat.mul_le_mul (by omega) (by omega)
  exact addG ((hg k (by omega)).mul hu) (hco k hk) (by omega) (by omega) (by omega) w v u' hv hu'
theorem shiftGB (D : Nat) {ax bx cx ay b2 cy : Rat} {k : Nat} (h : GP p d K) (h0 : 0 < K) (hd : d ≤ 11) (hK : K ≤ 3000) (hD : d + 1 ≤ D) (hS : D * (3 * k + 2 + (D * (3 * k + 2 + K + 1) + 1) + 1) ≤ 90000) (hS2 : D * (3 * k + 2 + K + 1) ≤ 9000) (s1 : Sz ax k) (s2 : Sz bx k) (s3 : Sz cx k) (s4 : Sz ay k) (s5 : Sz b2 k) (s6 : Sz cy k) (hk : k ≤ 20) (w : World) (v : Value) (hv : PT w v (ofL p)) :
  Calls Tryz.prog 37 #[v, fracV ax, fracV bx, fracV cx, fracV ay, fracV b2, fracV cy] w fun xe w' => ∃ v', xe = .returned v' ∧ PT w' v' (ofL (shiftN p (linN ax bx cx) (linN ay b2 cy))) ∧ Below w.heap.size w w' := by
 have hu := GP.lin s1 s2 s3
 have hw' := GP.lin s4 s5 s6
 have ht := topD_le h.tb
 have hin : ∀ i, i < topD p → GP (hornN (topD p - i) (linN ay b2 cy) (fun j => conN (coefZ p (i : Int) (j : Int))) (topD p - i)) (topD p - i) (D * (3 * k + 2 + K + 1) + 1) := fun i hi =>
  (GP.horn (C := K) (D := topD p - i) (co := fun j => conN (coefZ p (i : Int) (j : Int))) hw' (fun k _ => (GP.con (coef_sz h h0 _ _)).mono (by omega) (by omega)) (topD p - i) (Nat.le_refl _)).mono (Nat.le_refl _) (by have := Nat.mul_le_mul_right (3 * k + 2 + K + 1) (show topD p - i ≤ D by omega); omega)
 have hin2 : ∀ i, i < topD p → GP ((fun i => hornN (topD p - i) (linN ay b2 cy) (fun j => conN (coefZ p (i : Int) (j : Int))) (topD p - i)) (topD p - 1 - i)) (i + 1) (D * (3 * k + 2 + K + 1) + 1) := fun i hi => (hin (topD p - 1 - i) (by omega)).mono (by omega) (Nat.le_refl _)
 have hg := GP.horn (D := topD p) (co := fun i => hornN (topD p - i) (linN ay b2 cy) (fun j => conN (coefZ p (i : Int) (j : Int))) (topD p - i)) hu hin2
 refine pshift_w (ofL p) (ofL p) (ofL (linN ax bx cx)) (ofL (linN ay b2 cy)) _ (degI p) ax bx cx ay b2 cy (fun v w hv => normG h (by omega) (by omega) w v hv) (fun v w hv => degG h (by omega) (by omega) w v hv) (fun w => linG s1 s2 s3 (by omega) w) (fun w => linG s4 s5 s6 (by omega) w) (fun kd ku kp pv uv vv w h1 h2 h3 hp hu1 hv1 => ?_) v w hv
 obtain ⟨ao, m, c, rfl, -⟩ := pt_form hu1
 refine phorn3_w 84 kd ku kp (topD p) (degI p) (ofL (linN ax bx cx)) (fun n => ofL (mulN (hornN (topD p) (linN ax bx cx) (fun i => hornN (topD p - i) (linN ay b2 cy) (fun j => conN (coefZ p (i : Int) (j : Int))) (topD p - i)) n) (linN ax bx cx))) (fun n => ofL (hornN (topD p) (linN ax bx cx) (fun i => hornN (topD p - i) (linN ay b2 cy) (fun j => conN (coefZ p (i : Int) (j : Int))) (topD p - i)) n)) (fun n => ofL ((fun i => hornN (topD p - i) (linN ay b2 cy) (fun j => conN (coefZ p (i : Int) (j : Int))) (topD p - i)) (topD p - 1 - n))) ao m c (by omega) (topD_eq p) rfl (fun w => Hd w kd [.int .i64 (degI p)] ∧ Hd w ku [vv] ∧ Hd w kp [pv] ∧ PT w pv (ofL p) ∧ PT w vv (ofL (linN ay b2 cy))) (fun _ _ hb ⟨a, b, c, d, e⟩ => ⟨a.below hb, b.below hb, c.below hb, d.below hb, e.below hb⟩) (enters_of Tryz.func84 (by kernel_rfl) rfl) (fun n hn v w hv hq => ?_) (fun n hn e w he hw => ?_) (fun n hn v u' w hv hu' => ?_) w hu1 ⟨h1, h2, h3, hp, hv1⟩
 ·have hs := Nat.mul_le_mul_right (3 * k + 2 + (D * (3 * k + 2 + K + 1) + 1) + 1) (show n ≤ D by omega)
  exact prodG (hg n (by omega)) hu (by omega) (by omega) w v _ hv hq
 ·have he2 : e = ((topD p - 1 - n : Nat) : Int) := by have := topD_eq p; omega
  rw [he2]
  obtain ⟨e0, he0⟩ : ∃ e0, e0 = degI p - ((topD p - 1 - n : Nat) : Int) := ⟨_, rfl⟩
  have hteq := topD_eq p
  refine pshift1_w (ofL p) (ofL (linN ay b2 cy)) _ _ (degI p) e0 pv vv kd ku kp (by rw [← he0]; simp [IntKind.wrap, IntKind.bits, IntKind.signed]; omega) (by rw [← he0]; simp [wrap64]; omega) (fun ki w h1 h2 h3 h4 => ?_) w hw.1 hw.2.1 hw.2.2.1 hw.2.2.2.1 hw.2.2.2.2
  exact hornInG h h0 hd (by omega) hw' (by omega) (topD p - 1 - n) (by omega) e0 (by omega) pv kp ki vv w h1 h2 h3 h4
 ·have hs := Nat.mul_le_mul_right (3 * k + 2 + (D * (3 * k + 2 + K + 1) + 1) + 1) (show n ≤ D by omega)
  exact addG ((hg n (by omega)).mul hu) (hin2 n hn) (by omega) (by omega) (by omega) w v u' hv hu'
theorem shiftG (h : GP p d K) (h0 : 0 < K) (hd : d ≤ 11) (hK : K ≤ 100) {ax bx cx ay b2 cy : Rat} {k : Nat} (s1 : Sz ax k) (s2 : Sz bx k) (s3 : Sz cx k) (s4 : Sz ay k) (s5 : Sz b2 k) (s6 : Sz cy k) (hk : k ≤ 20) (w : World) (v : Value) (hv : PT w v (ofL p)) :
  Calls Tryz.prog 37 #[v, fracV ax, fracV bx, fracV cx, fracV ay, fracV b2, fracV cy] w fun xe w' => ∃ v', xe = .returned v' ∧ PT w' v' (ofL (shiftN p (linN ax bx cx) (linN ay b2 cy))) ∧ Below w.heap.size w w' :=
 shiftGB 13 h h0 hd (by omega) (by omega) (by omega) (by omega) s1 s2 s3 s4 s5 s6 hk w v hv
end
end Go.Proofs.YtkpghlnegbimdaaGreatDoor
namespace Go.Proofs.YtkpghlnegbimdaaGreatDoor
open Go.RowKit
attribute [local irreducible] lo hs sm s64 c64 d64 b64 mh ml pd pc qd qc val hiB str cmpI srD lz nb zl zh zs fe klT ordZ
theorem lread_w (l r : List TI) (e0 : Int) (HO : ∀ (v : Value) (w : World), PT w v l → Calls Tryz.prog 10 #[v] w fun xe w' => ∃ v', xe = .returned (.tuple #[v', .int .i64 e0]) ∧ PT w' v' r ∧ Below w.heap.size w w') (v : Value) (w : World) (hv : PT w v l) :
  Calls Tryz.prog 42 #[v] w fun xe w' => ∃ v', xe = .returned v' ∧ PT w' v' r ∧ Below w.heap.size w w' := by
 obtain ⟨ao, n, c, rfl, -⟩ := pt_form hv
 replace HO := Lib.hid HO
 replace hv := Lib.hid hv
 go_enter Tryz.func42, Tryz.ntmps42
 go_wp2_with fail
 with_reducible refine Calls.mono (HO.out _ w hv.out) ?_
 rintro e y1 ⟨v', rfl, hp, hb⟩
 obtain ⟨a2, n2, c2, rfl, -⟩ := pt_form hp
 replace hp := Lib.hid hp
 replace hb := Lib.hid hb
 go_wp2_with fail
 exact bodyPost_ret (v := .slice a2 n2 c2) (by simp [results, Tryz.results42, go_sem]) rfl ⟨_, rfl, hp.out, hb.out⟩
theorem readG (l : List TI) (K : Nat) (hs : VdL l → SzL (toL l) K) (hK : K ≤ 1000000) (hl : l.length ≤ 10000) (w : World) (v : Value) (h : PT w v l) :
  Calls Tryz.prog 42 #[v] w fun xe w' => ∃ v', xe = .returned v' ∧ PT w' v' (ofL (nrm l)) ∧ Below w.heap.size w w' :=
 lread_w l _ (errL l) (fun v w hv => ofP l K hs hK hl w v hv) v w h
theorem termG (n i j : Int) (h1 : -9223372036854775808 ≤ n) (h2 : n < 9223372036854775808) (w : World) : Calls Tryz.prog 43 #[.int .i64 n, .int .i64 i, .int .i64 j] w fun xe w' => xe = .returned (tmV i j (n : Rat)) ∧ Below w.heap.size w w' :=
 pterm_w n i j (n : Rat) (fun w => intF n h1 h2 w) w
theorem degI_last {p : TL} (h0 : p ≠ []) : degI p = (((p.getLast h0).1 : Nat) : Int) + (((p.getLast h0).2.1 : Nat) : Int) := by
 unfold degI
 rw [List.getLast?_eq_some_getLast h0]
theorem degI_top {p : TL} (hp : NF p) : ∀ t ∈ p, ((t.1 : Nat) : Int) + ((t.2.1 : Nat) : Int) ≤ degI p := by
 intro t ht
 have h0 : p ≠ [] := List.ne_nil_of_mem ht
 have := (nf_top hp h0).2 t ht
 rw [degI_last h0]
 rcases Nat.lt_or_ge ((p.getLast h0).1 + (p.getLast h0).2.1) (t.1 + t.2.1) with h | h
 ·exact absurd (Or.inl h) this
 ·omega
theorem qsum_fold (l : List Rat) : ∀ s : Rat, l.foldl (· + ·) s = s + qsum l := by
 induction l with
 | nil => intro s; exact (Rat.add_zero s).symm
 | cons a l ih =>
  intro s
  simp only [List.foldl_cons, qsum] at ih ⊢
  rw [ih (s + a), ih (0 + a), Rat.zero_add, Rat.add_assoc]
theorem qsum_at (p : TL) (x y : Rat) : qsum (p.map fun t => t.2.2 * (x ^ t.1 * y ^ t.2.1)) = atL p x y := by
 unfold atL
 induction p with
 | nil => rfl
 | cons t p ih =>
  rw [List.map_cons, pair, ← ih]
  unfold qsum
  rw [List.foldl_cons, qsum_fold, Rat.zero_add]
  rfl
theorem sumG (qs : List Rat) (k : Nat) (hk : k ≤ 5000) (hl : qs.length ≤ 1000) (hs : ∀ q ∈ qs, Sz q k) (v : Value) (w : World) (h : SlQ w v qs) :
  Calls Tryz.prog 38 #[v] w fun xe w' => xe = .returned (fracV (qsum qs)) ∧ Below w.heap.size w w' := by
 obtain ⟨ao, n, c, rfl⟩ := slq_form8 h
 have hp := slq_parts' h (by omega)
 refine sum_w ao n c qs hp.2.2 (fun w0 t hn w hG => each_add w0 t ao n c qs 0 rfl hn (fun q a i ha hq w hG => total_add w0 t q a (q + a) (fun w => addF q a 9000000 ?_ ((hs a ha).mono (by omega)) (by omega) w) w hG) w hG) w hp
 rw [hq]
 have hz := qsum_sz (qs.take i) 1 0 (sz_0 (by omega)) (fun q hq => hs q (List.mem_of_mem_take hq))
 refine hz.mono ?_
 rw [List.length_take]
 have h1 : min i qs.length * (k + 1) ≤ 1000 * 5001 := Nat.mul_le_mul (by omega) (by omega)
 omega
theorem pwsG (x : Rat) (k : Nat) (hx : Sz x k) (hk : k ≤ 1000) (m : Int) (N : Nat) (hm : m = (N : Int) ∨ (m = -1 ∧ N = 0)) (hN : N ≤ 12) (w : World) :
  Calls Tryz.prog 68 #[fracV x, .int .i64 m] w fun xe w' => ∃ v, xe = .returned v ∧ SlQ w' v (pws x N) ∧ Below w.heap.size w w' :=
 ppows_w x 1 m N rfl hm (by omega) int1 (fun i hi w => by
  have h1 := hx.pow i
  have h2 : k * i ≤ 1000 * 12 := Nat.mul_le_mul hk (by omega)
  have := mulF (x ^ i) x 20000 (h1.mono (by omega)) (hx.mono (by omega)) (by omega) w
  rwa [← Rat.pow_succ] at this) w
section
variable {p : TL} {d K : Nat}
theorem atG (h : GP p d K) (hd : d ≤ 12) (hK : K ≤ 2000) {x y : Rat} {k : Nat} (hx : Sz x k) (hy : Sz y k) (hk : k ≤ 100) (w : World) (v : Value) (hv : PT w v (ofL p)) :
  Calls Tryz.prog 27 #[v, fracV x, fracV y] w fun xe w' => xe = .returned (fracV (atL p x y)) ∧ Below w.heap.size w w' := by
 obtain ⟨ao, n, c, rfl, -⟩ := pt_form hv
 have hl := h.len hd
 have h1 := degI_le h.tb
 have h2 := degI_ge p
 have hN : ∀ t ∈ p, t.1 ≤ (degI p).toNat ∧ t.2.1 ≤ (degI p).toNat := fun t ht => by
  have := degI_top h.nf t ht
  omega
 have sx : ∀ i, i ≤ 12 → Sz (x ^ i) 1201 := fun i hi => (hx.pow i).mono (by have : k * i ≤ 100 * 12 := Nat.mul_le_mul hk hi; omega)
 have sy : ∀ i, i ≤ 12 → Sz (y ^ i) 1201 := fun i hi => (hy.pow i).mono (by have : k * i ≤ 100 * 12 := Nat.mul_le_mul hk hi; omega)
 have hb : ∀ t ∈ p, t.1 ≤ 12 ∧ t.2.1 ≤ 12 := fun t ht => by have := h.tb t ht; omega
 rw [← qsum_at]
 exact pat_w (ofL p) p x y _ (degI p) (degI p).toNat ao n c (by omega) hN (fun w hq => normG h hd (by omega) w _ hq) (fun v w hv => degG h hd (by omega) w v hv) (fun w => pwsG x k hx (by omega) _ _ (by omega) (by omega) w) (fun w => pwsG y k hy (by omega) _ _ (by omega) (by omega) w)
  (fun t ht w => mulF _ _ 1201 (sx _ (hb t ht).1) (sy _ (hb t ht).2) (by omega) w)
  (fun t ht w => mulF _ _ 2402 ((h.sz.mem ht).mono (by omega)) ((sx _ (hb t ht).1).mul (sy _ (hb t ht).2)) (by omega) w)
  (fun v w hv => sumG _ 4402 (by omega) (by rw [List.length_map]; omega) (fun q hq => by
   obtain ⟨t, ht, rfl⟩ := List.mem_map.1 hq
   exact ((h.sz.mem ht).mul ((sx _ (hb t ht).1).mul (sy _ (hb t ht).2))).mono (by omega)) v w hv) w hv
def facS (t : Nat × Nat × Rat) : List ByteArray := facK (if absQ t.2.2 = 1 ∧ t.1 + t.2.1 ≠ 0 then [] else [qtxt (absQ t.2.2)]) t.1 t.2.1 2
theorem sz_abs8 {q : Rat} {k : Nat} (h : Sz q k) : Sz (absQ q) k := by
 unfold absQ
 split
 ·exact h.neg
 ·exact h
theorem facG {i j : Nat} {q : Rat} (hi : i + j ≤ 12) {k : Nat} (hq : Sz q k) (hk : k ≤ 1000) (w : World) (ht : Tab w) :
  Calls Tryz.prog 57 #[tmV (i : Int) (j : Int) q] w fun xe w' => ∃ v n, xe = .returned v ∧ OwnS w' w.heap.size v n (facS (i, j, q)) ∧ Below w.heap.size w w' := by
 have hT := fun w h => textF (absQ q) k (sz_abs8 hq) (by omega) w h
 unfold facS
 simp only
 by_cases hc : absQ q = 1
 ·by_cases hz : i + j = 0
  ·rw [if_neg (fun h => h.2 hz)]
   exact fac_zero i j q (absQ q) 1 _ (by omega) (by omega) (fun w => absF q w) int1 hT (decide_eq_true hc).symm hz w ht
  ·rw [if_pos ⟨hc, hz⟩]
   exact fac_skip i j q (absQ q) 1 (qtxt (absQ q)) (by omega) (by omega) (fun w => absF q w) int1 hT (decide_eq_true hc).symm hz w ht
 ·rw [if_neg (fun h => hc h.1)]
  exact fac_neq i j q (absQ q) 1 _ (by omega) (by omega) (fun w => absF q w) int1 hT (decide_eq_false hc).symm w ht
theorem facS_len (t : Nat × Nat × Rat) : 0 < (facS t).length ∧ (facS t).length ≤ 1000 := by
 unfold facS
 constructor
 ·split
  ·next h =>
   simp only [facK, nkF, List.length_append, List.nil_append, Nat.reduceAdd]
   rcases Nat.eq_zero_or_pos t.1 with g | g
   ·have : 0 < t.2.1 := by omega
    simp [this]
   ·simp [g]; omega
  ·simp only [facK, List.length_append, List.length_singleton]; omega
 ·refine Nat.le_trans (facK_len _ _ _ 2) ?_
  split <;> simp
theorem pwL_len {c : UInt8} {n : Nat} (h : n ≤ 12) : (pwL c n).length ≤ 4 := by
 have := dec_len8 (n := n) (by omega)
 unfold pwL
 split <;> simp <;> omega
theorem qtxt_small {q : Rat} {k : Nat} (h0 : 0 < k) (h : Sz q k) : (qtxt q).size ≤ 40 * k + 2 := by
 have h1 := ztxt_small h0 h.1
 have h2 := txt_small (n := q.den) h0 h.2
 unfold qtxt
 split
 ·omega
 ·rw [ByteArray.size_append, ByteArray.size_append]
  have : (ByteArray.mk #[47]).size = 1 := rfl
  omega
theorem facS_sz {t : Nat × Nat × Rat} (ht : t.1 + t.2.1 ≤ 12) {k : Nat} (h0 : 0 < k) (hk : k ≤ 1000) (hq : Sz t.2.2 k) : ∀ x ∈ facS t, (x.data.toList).length ≤ 50000 := by
 have hp : ∀ (c : UInt8) (n : Nat), n ≤ 12 → ((⟨(pwL c n).toArray⟩ : ByteArray).data.toList).length ≤ 50000 := fun c n hn => by
  have := pwL_len (c := c) hn
  simp; omega
 intro x hx
 unfold facS at hx
 simp only [facK, List.mem_append] at hx
 rcases hx with (hx | hx) | hx
 ·split at hx
  ·cases hx
  ·rw [List.mem_singleton.1 hx]
   have := qtxt_small h0 (sz_abs8 hq)
   have e : (qtxt (absQ t.2.2)).size = ((qtxt (absQ t.2.2)).data.toList).length := by rw [Array.length_toList]; rfl
   omega
 ·split at hx
  ·rw [List.mem_singleton.1 hx]; exact hp _ _ (by unfold nkF; split <;> omega)
  ·cases hx
 ·split at hx
  ·rw [List.mem_singleton.1 hx]; exact hp _ _ (by unfold nkF; split <;> omega)
  ·cases hx
theorem tail_len (M : Nat) : ∀ l : List (List UInt8), (∀ x ∈ l, x.length ≤ M) → (Lib.joinTail [42] l).length ≤ l.length * (M + 1)
 | [], _ => by simp [Lib.joinTail]
 | x :: l, h => by
  have h1 := tail_len M l (fun y hy => h y (mK hy))
  have h2 := h x mZ
  simp only [Lib.joinTail, List.map_cons, List.flatten_cons, List.length_append, List.length_cons, List.length_nil] at h1 ⊢
  rw [Nat.succ_mul]; omega
theorem join_len {M : Nat} {l : List (List UInt8)} (h : ∀ x ∈ l, x.length ≤ M) : (Lib.join l [42]).length ≤ l.length * (M + 1) := by
 match l, h with
 | [], _ => simp [Lib.join_nil]
 | x :: l, h =>
  rw [Lib.join_cons, List.length_append, List.length_cons, Nat.succ_mul]
  have h1 := tail_len M l (fun y hy => h y (mK hy))
  have h2 := h x mZ
  omega
theorem facS_join {t : Nat × Nat × Rat} (ht : t.1 + t.2.1 ≤ 12) {k : Nat} (h0 : 0 < k) (hk : k ≤ 1000) (hq : Sz t.2.2 k) : (joinS (facS t)).length ≤ 1000000 := by
 have h1 := join_len (M := 50000) (l := (facS t).map (·.data.toList)) (fun x hx => by
  obtain ⟨y, hy, rfl⟩ := List.mem_map.1 hx
  exact facS_sz ht h0 hk hq y hy)
 have h2 : (facS t).length ≤ 3 := by
  unfold facS
  refine Nat.le_trans (facK_len _ _ _ 2) ?_
  split <;> simp
 rw [List.length_map] at h1
 show (Lib.join ((facS t).map (·.data.toList)) [42]).length ≤ 1000000
 omega
/-- The text of a normal form. -/
def textV (p : TL) : List UInt8 := if p = [] then [48] else txK facS p p.length
theorem textG (h : GP p d K) (hd : d ≤ 12) (h0 : 0 < K) (hK : K ≤ 1000) (w : World) (ht : Tab w) (v : Value) (hv : PT w v (ofL p)) :
  Calls Tryz.prog 13 #[v] w fun xe w' => xe = .returned (.string ⟨(textV p).toArray⟩) ∧ Below w.heap.size w w' := by
 obtain ⟨ao, n, c, rfl, -⟩ := pt_form hv
 have hl := h.len hd
 by_cases hp : p = []
 ·subst hp
  exact ptext_nil _ ao n c (fun w hq => normG h hd (by omega) w _ hq) w hv
 ·unfold textV
  rw [if_neg hp]
  have hb : ∀ t ∈ p, t.1 + t.2.1 ≤ 12 := fun t ht => Nat.le_trans (h.tb t ht) hd
  exact ptext_w (ofL p) p facS ao n c (by omega) (List.length_pos_iff.2 hp) (fun t _ => facS_len t) (fun t ht => facS_join (hb t ht) h0 hK (h.sz.mem ht)) (fun w hq => normG h hd (by omega) w _ hq) (fun t ht w htab => facG (hb t ht) (h.sz.mem ht) hK w htab) w hv ht
end
end Go.Proofs.YtkpghlnegbimdaaGreatDoor
namespace Go.Proofs.YtkpghlnegbimdaaGreatDoor
open Go.RowKit
attribute [local irreducible] lo hs sm s64 c64 d64 b64 mh ml pd pc qd qc val hiB str cmpI srD lz nb zl zh zs fe klT ordZ
theorem lworks_w (hf ha qa c0 c1 c2 c3 c5 m1 m3 : Rat) (pa pb pc pd pf pg pi pk pl pm pn po pp pq ps pu pvv pw px py pz p6 p7 : List TI) (HOh : ∀ w, Calls Tryz.prog 41 #[.int .i64 (-1), .int .i64 2] w fun xe w' => xe = .returned (.tuple #[fracV hf, .int .i64 0]) ∧ Below w.heap.size w w') (HT0 : ∀ w, Calls Tryz.prog 43 #[.int .i64 1, .int .i64 1, .int .i64 0] w fun xe w' => xe = .returned (.agg #[.int .i64 1, .int .i64 0, .int .u64 ((zl c1.num : Nat) : Int), .string (zh c1.num), .bool (zs c1.num), .int .u64 ((lo (fe c1) : Nat) : Int), .string (hs (fe c1))]) ∧ Below w.heap.size w w') (HT1 : ∀ w, Calls Tryz.prog 43 #[.int .i64 (-3), .int .i64 1, .int .i64 2] w fun xe w' => xe = .returned (.agg #[.int .i64 1, .int .i64 2, .int .u64 ((zl m3.num : Nat) : Int), .string (zh m3.num), .bool (zs m3.num), .int .u64 ((lo (fe m3) : Nat) : Int), .string (hs (fe m3))]) ∧ Below w.heap.size w w') (HT2 : ∀ w, Calls Tryz.prog 43 #[.int .i64 1, .int .i64 2, .int .i64 0] w fun xe w' => xe = .returned (.agg #[.int .i64 2, .int .i64 0, .int .u64 ((zl c1.num : Nat) : Int), .string (zh c1.num), .bool (zs c1.num), .int .u64 ((lo (fe c1) : Nat) : Int), .string (hs (fe c1))]) ∧ Below w.heap.size w w') (HT3 : ∀ w, Calls Tryz.prog 43 #[.int .i64 2, .int .i64 1, .int .i64 1] w fun xe w' => xe = .returned (.agg #[.int .i64 1, .int .i64 1, .int .u64 ((zl c2.num : Nat) : Int), .string (zh c2.num), .bool (zs c2.num), .int .u64 ((lo (fe c2) : Nat) : Int), .string (hs (fe c2))]) ∧ Below w.heap.size w w') (HT4 : ∀ w, Calls Tryz.prog 43 #[.int .i64 (-1), .int .i64 2, .int .i64 0] w fun xe w' => xe = .returned (.agg #[.int .i64 2, .int .i64 0, .int .u64 ((zl m1.num : Nat) : Int), .string (zh m1.num), .bool (zs m1.num), .int .u64 ((lo (fe m1) : Nat) : Int), .string (hs (fe m1))]) ∧ Below w.heap.size w w') (HT5 : ∀ w, Calls Tryz.prog 43 #[.int .i64 1, .int .i64 (-1), .int .i64 0] w fun xe w' => xe = .returned (.agg #[.int .i64 (-1), .int .i64 0, .int .u64 ((zl c1.num : Nat) : Int), .string (zh c1.num), .bool (zs c1.num), .int .u64 ((lo (fe c1) : Nat) : Int), .string (hs (fe c1))]) ∧ Below w.heap.size w w') (HT6 : ∀ w, Calls Tryz.prog 43 #[.int .i64 0, .int .i64 13, .int .i64 0] w fun xe w' => xe = .returned (.agg #[.int .i64 13, .int .i64 0, .int .u64 ((zl c0.num : Nat) : Int), .string (zh c0.num), .bool (zs c0.num), .int .u64 ((lo (fe c0) : Nat) : Int), .string (hs (fe c0))]) ∧ Below w.heap.size w w') (HT7 : ∀ w, Calls Tryz.prog 43 #[.int .i64 1, .int .i64 7, .int .i64 0] w fun xe w' => xe = .returned (.agg #[.int .i64 7, .int .i64 0, .int .u64 ((zl c1.num : Nat) : Int), .string (zh c1.num), .bool (zs c1.num), .int .u64 ((lo (fe c1) : Nat) : Int), .string (hs (fe c1))]) ∧ Below w.heap.size w w') (HT8 : ∀ w, Calls Tryz.prog 43 #[.int .i64 1, .int .i64 0, .int .i64 6] w fun xe w' => xe = .returned (.agg #[.int .i64 0, .int .i64 6, .int .u64 ((zl c1.num : Nat) : Int), .string (zh c1.num), .bool (zs c1.num), .int .u64 ((lo (fe c1) : Nat) : Int), .string (hs (fe c1))]) ∧ Below w.heap.size w w') (HT9 : ∀ w, Calls Tryz.prog 43 #[.int .i64 1, .int .i64 1, .int .i64 1] w fun xe w' => xe = .returned (.agg #[.int .i64 1, .int .i64 1, .int .u64 ((zl c1.num : Nat) : Int), .string (zh c1.num), .bool (zs c1.num), .int .u64 ((lo (fe c1) : Nat) : Int), .string (hs (fe c1))]) ∧ Below w.heap.size w w') (HT10 : ∀ w, Calls Tryz.prog 43 #[.int .i64 1, .int .i64 2, .int .i64 1] w fun xe w' => xe = .returned (.agg #[.int .i64 2, .int .i64 1, .int .u64 ((zl c1.num : Nat) : Int), .string (zh c1.num), .bool (zs c1.num), .int .u64 ((lo (fe c1) : Nat) : Int), .string (hs (fe c1))]) ∧ Below w.heap.size w w') (HT11 : ∀ w, Calls Tryz.prog 43 #[.int .i64 1, .int .i64 3, .int .i64 0] w fun xe w' => xe = .returned (.agg #[.int .i64 3, .int .i64 0, .int .u64 ((zl c1.num : Nat) : Int), .string (zh c1.num), .bool (zs c1.num), .int .u64 ((lo (fe c1) : Nat) : Int), .string (hs (fe c1))]) ∧ Below w.heap.size w w') (HT12 : ∀ w, Calls Tryz.prog 43 #[.int .i64 1, .int .i64 0, .int .i64 2] w fun xe w' => xe = .returned (.agg #[.int .i64 0, .int .i64 2, .int .u64 ((zl c1.num : Nat) : Int), .string (zh c1.num), .bool (zs c1.num), .int .u64 ((lo (fe c1) : Nat) : Int), .string (hs (fe c1))]) ∧ Below w.heap.size w w') (HT13 : ∀ w, Calls Tryz.prog 43 #[.int .i64 5, .int .i64 0, .int .i64 0] w fun xe w' => xe = .returned (.agg #[.int .i64 0, .int .i64 0, .int .u64 ((zl c5.num : Nat) : Int), .string (zh c5.num), .bool (zs c5.num), .int .u64 ((lo (fe c5) : Nat) : Int), .string (hs (fe c5))]) ∧ Below w.heap.size w w') (HT14 : ∀ w, Calls Tryz.prog 43 #[.int .i64 1, .int .i64 0, .int .i64 1] w fun xe w' => xe = .returned (.agg #[.int .i64 0, .int .i64 1, .int .u64 ((zl c1.num : Nat) : Int), .string (zh c1.num), .bool (zs c1.num), .int .u64 ((lo (fe c1) : Nat) : Int), .string (hs (fe c1))]) ∧ Below w.heap.size w w') (HI0 : ∀ w, Calls Tryz.prog 35 #[.int .i64 0] w fun xe w' => xe = .returned (fracV c0) ∧ Below w.heap.size w w') (HI1 : ∀ w, Calls Tryz.prog 35 #[.int .i64 1] w fun xe w' => xe = .returned (fracV c1) ∧ Below w.heap.size w w') (HI2 : ∀ w, Calls Tryz.prog 35 #[.int .i64 2] w fun xe w' => xe = .returned (fracV c2) ∧ Below w.heap.size w w') (HI3 : ∀ w, Calls Tryz.prog 35 #[.int .i64 3] w fun xe w' => xe = .returned (fracV c3) ∧ Below w.heap.size w w') (HRpa : ∀ (p0 : Value) (w : World), PT w p0 ([(0, 0, hf), (1, 0, c1), (1, 2, m3)]) → Calls Tryz.prog 42 #[p0] w fun e w' => ∃ pv, e = .returned pv ∧ PT w' pv pa ∧ Below w.heap.size w w') (HRp7 : ∀ (p0 : Value) (w : World), PT w p0 ([(7, 0, c1)]) → Calls Tryz.prog 42 #[p0] w fun e w' => ∃ pv, e = .returned pv ∧ PT w' pv p7 ∧ Below w.heap.size w w') (HRp6 : ∀ (p0 : Value) (w : World), PT w p0 ([(0, 6, c1)]) → Calls Tryz.prog 42 #[p0] w fun e w' => ∃ pv, e = .returned pv ∧ PT w' pv p6 ∧ Below w.heap.size w w') (HRpu : ∀ (p0 : Value) (w : World), PT w p0 ([(1, 1, c1)]) → Calls Tryz.prog 42 #[p0] w fun e w' => ∃ pv, e = .returned pv ∧ PT w' pv pu ∧ Below w.heap.size w w') (HRpm : ∀ (p0 : Value) (w : World), PT w p0 ([(2, 1, c1)]) → Calls Tryz.prog 42 #[p0] w fun e w' => ∃ pv, e = .returned pv ∧ PT w' pv pm ∧ Below w.heap.size w w') (HRpo : ∀ (p0 : Value) (w : World), PT w p0 ([(3, 0, c1), (0, 2, c1)]) → Calls Tryz.prog 42 #[p0] w fun e w' => ∃ pv, e = .returned pv ∧ PT w' pv po ∧ Below w.heap.size w w') (HRpq : ∀ (p0 : Value) (w : World), PT w p0 ([(0, 0, c5), (1, 0, c1)]) → Calls Tryz.prog 42 #[p0] w fun e w' => ∃ pv, e = .returned pv ∧ PT w' pv pq ∧ Below w.heap.size w w') (HRpi : ∀ (p0 : Value) (w : World), PT w p0 ([(2, 0, c1), (0, 1, c1)]) → Calls Tryz.prog 42 #[p0] w fun e w' => ∃ pv, e = .returned pv ∧ PT w' pv pi ∧ Below w.heap.size w w') (HO1 : ∀ (p0 : Value) (w : World), PT w p0 ([(2, 0, c1), (1, 1, c2), (2, 0, m1)]) → Calls Tryz.prog 10 #[p0] w fun e w' => ∃ pv, e = .returned (.tuple #[pv, .int .i64 0]) ∧ PT w' pv pb ∧ Below w.heap.size w w') (HO2 : ∀ (p0 : Value) (w : World), PT w p0 ([(-1, 0, c1)]) → Calls Tryz.prog 10 #[p0] w fun e w' => ∃ pv, e = .returned (.tuple #[pv, .int .i64 1]) ∧ PT w' pv pf ∧ Below w.heap.size w w') (HO3 : ∀ (p0 : Value) (w : World), PT w p0 ([(13, 0, c0)]) → Calls Tryz.prog 10 #[p0] w fun e w' => ∃ pv, e = .returned (.tuple #[pv, .int .i64 9]) ∧ PT w' pv pg ∧ Below w.heap.size w w') (HX : ∀ (w : World), Calls Tryz.prog 44 #[] w fun e w' => ∃ pv, e = .returned pv ∧ PT w' pv px ∧ Below w.heap.size w w') (HY : ∀ (w : World), Calls Tryz.prog 45 #[] w fun e w' => ∃ pv, e = .returned pv ∧ PT w' pv py ∧ Below w.heap.size w w') (HA1 : ∀ (p0 p1 : Value) (w : World), PT w p0 px → PT w p1 py → Calls Tryz.prog 24 #[p0, p1] w fun e w' => ∃ pv, e = .returned pv ∧ PT w' pv ps ∧ Below w.heap.size w w') (HS1 : ∀ (p0 p1 : Value) (w : World), PT w p0 px → PT w p1 py → Calls Tryz.prog 25 #[p0, p1] w fun e w' => ∃ pv, e = .returned pv ∧ PT w' pv pd ∧ Below w.heap.size w w') (HM1 : ∀ (p0 p1 : Value) (w : World), PT w p0 ps → PT w p1 pd → Calls Tryz.prog 23 #[p0, p1] w fun e w' => ∃ pv, e = .returned (.tuple #[pv, .int .i64 0]) ∧ PT w' pv pc ∧ Below w.heap.size w w') (HK : ∀ (w : World), Calls Tryz.prog 34 #[fracV c1] w fun e w' => ∃ pv, e = .returned pv ∧ PT w' pv pk ∧ Below w.heap.size w w') (HA2 : ∀ (p0 p1 : Value) (w : World), PT w p0 px → PT w p1 pk → Calls Tryz.prog 24 #[p0, p1] w fun e w' => ∃ pv, e = .returned pv ∧ PT w' pv pl ∧ Below w.heap.size w w') (HP : ∀ (p0 : Value) (w : World), PT w p0 pl → Calls Tryz.prog 40 #[p0, .int .i64 3] w fun e w' => ∃ pv, e = .returned (.tuple #[pv, .int .i64 0]) ∧ PT w' pv pw ∧ Below w.heap.size w w') (HM2 : ∀ (p0 p1 : Value) (w : World), PT w p0 p7 → PT w p1 p6 → Calls Tryz.prog 23 #[p0, p1] w fun e w' => ∃ pv, e = .returned (.tuple #[pv, .int .i64 9]) ∧ PT w' pv pz ∧ Below w.heap.size w w') (HSh : ∀ (p0 : Value) (w : World), PT w p0 pu → Calls Tryz.prog 37 #[p0, fracV c0, fracV c1, fracV c0, fracV c1, fracV c0, fracV c2] w fun e w' => ∃ pv, e = .returned pv ∧ PT w' pv pvv ∧ Below w.heap.size w w') (HDx : ∀ (p0 : Value) (w : World), PT w p0 pm → Calls Tryz.prog 32 #[p0] w fun e w' => ∃ pv, e = .returned pv ∧ PT w' pv pn ∧ Below w.heap.size w w') (HL : ∀ (p0 : Value) (w : World), PT w p0 po → Calls Tryz.prog 36 #[p0] w fun e w' => ∃ pv, e = .returned pv ∧ PT w' pv pp ∧ Below w.heap.size w w') (HDn : ∀ (p0 : Value) (w : World), PT w p0 ([]) → Calls Tryz.prog 15 #[p0] w fun e w' => e = .returned (.int .i64 (-1)) ∧ Below w.heap.size w w') (HC : ∀ (p0 : Value) (w : World), PT w p0 pq → Calls Tryz.prog 20 #[p0, .int .i64 1, .int .i64 0] w fun e w' => e = .returned (fracV c1) ∧ Below w.heap.size w w') (HAb : ∀ w, Calls Tryz.prog 47 #[fracV hf] w fun xe w' => xe = .returned (fracV ha) ∧ Below w.heap.size w w') (HAt : ∀ (p0 : Value) (w : World), PT w p0 pi → Calls Tryz.prog 27 #[p0, fracV ha, fracV c3] w fun e w' => e = .returned (fracV qa) ∧ Below w.heap.size w w') (KT : World → Prop) (hKT : Keeps KT) (HTxpa : ∀ (p0 : Value) (w : World), KT w → PT w p0 pa → Calls Tryz.prog 13 #[p0] w fun e w' => e = .returned (.string (ByteArray.mk #[45, 49, 47, 50, 32, 43, 32, 120, 32, 45, 32, 51, 42, 120, 42, 121, 94, 50])) ∧ Below w.heap.size w w') (HTxpb : ∀ (p0 : Value) (w : World), KT w → PT w p0 pb → Calls Tryz.prog 13 #[p0] w fun e w' => e = .returned (.string (ByteArray.mk #[50, 42, 120, 42, 121])) ∧ Below w.heap.size w w') (HTxpc : ∀ (p0 : Value) (w : World), KT w → PT w p0 pc → Calls Tryz.prog 13 #[p0] w fun e w' => e = .returned (.string (ByteArray.mk #[120, 94, 50, 32, 45, 32, 121, 94, 50])) ∧ Below w.heap.size w w') (HTxpw : ∀ (p0 : Value) (w : World), KT w → PT w p0 pw → Calls Tryz.prog 13 #[p0] w fun e w' => e = .returned (.string (ByteArray.mk #[49, 32, 43, 32, 51, 42, 120, 32, 43, 32, 51, 42, 120, 94, 50, 32, 43, 32, 120, 94, 51])) ∧ Below w.heap.size w w') (HTxpn : ∀ (p0 : Value) (w : World), KT w → PT w p0 pn → Calls Tryz.prog 13 #[p0] w fun e w' => e = .returned (.string (ByteArray.mk #[50, 42, 120, 42, 121])) ∧ Below w.heap.size w w') (HTxpp : ∀ (p0 : Value) (w : World), KT w → PT w p0 pp → Calls Tryz.prog 13 #[p0] w fun e w' => e = .returned (.string (ByteArray.mk #[50, 32, 43, 32, 54, 42, 120])) ∧ Below w.heap.size w w') (HTxpvv : ∀ (p0 : Value) (w : World), KT w → PT w p0 pvv → Calls Tryz.prog 13 #[p0] w fun e w' => e = .returned (.string (ByteArray.mk #[50, 42, 121, 32, 43, 32, 120, 42, 121])) ∧ Below w.heap.size w w') (HTq : ∀ w, KT w → Calls Tryz.prog 46 #[fracV qa] w fun xe w' => xe = .returned (.string (ByteArray.mk #[49, 51, 47, 52])) ∧ Below w.heap.size w w') (w : World) (kKT : KT w) :
  Calls Tryz.prog 8 #[] w fun e w' => e = .returned (.bool true) ∧ Below w.heap.size w w' := by
 replace HOh := Lib.hid HOh
 replace HT0 := Lib.hid HT0
 replace HT1 := Lib.hid HT1
 replace HT2 := Lib.hid HT2
 replace HT3 := Lib.hid HT3
 replace HT4 := Lib.hid HT4
 replace HT5 := Lib.hid HT5
 replace HT6 := Lib.hid HT6
 replace HT7 := Lib.hid HT7
 replace HT8 := Lib.hid HT8
 replace HT9 := Lib.hid HT9
 replace HT10 := Lib.hid HT10
 replace HT11 := Lib.hid HT11
 replace HT12 := Lib.hid HT12
 replace HT13 := Lib.hid HT13
 replace HT14 := Lib.hid HT14
 replace HI0 := Lib.hid HI0
 replace HI1 := Lib.hid HI1
 replace HI2 := Lib.hid HI2
 replace HI3 := Lib.hid HI3
 replace HRpa := Lib.hid HRpa
 replace HRp7 := Lib.hid HRp7
 replace HRp6 := Lib.hid HRp6
 replace HRpu := Lib.hid HRpu
 replace HRpm := Lib.hid HRpm
 replace HRpo := Lib.hid HRpo
 replace HRpq := Lib.hid HRpq
 replace HRpi := Lib.hid HRpi
 replace HO1 := Lib.hid HO1
 replace HO2 := Lib.hid HO2
 replace HO3 := Lib.hid HO3
 replace HX := Lib.hid HX
 replace HY := Lib.hid HY
 replace HA1 := Lib.hid HA1
 replace HS1 := Lib.hid HS1
 replace HM1 := Lib.hid HM1
 replace HK := Lib.hid HK
 replace HA2 := Lib.hid HA2
 replace HP := Lib.hid HP
 replace HM2 := Lib.hid HM2
 replace HSh := Lib.hid HSh
 replace HDx := Lib.hid HDx
 replace HL := Lib.hid HL
 replace HDn := Lib.hid HDn
 replace HC := Lib.hid HC
 replace HAb := Lib.hid HAb
 replace HAt := Lib.hid HAt
 replace hKT := Lib.hid hKT
 replace HTxpa := Lib.hid HTxpa
 replace HTxpb := Lib.hid HTxpb
 replace HTxpc := Lib.hid HTxpc
 replace HTxpw := Lib.hid HTxpw
 replace HTxpn := Lib.hid HTxpn
 replace HTxpp := Lib.hid HTxpp
 replace HTxpvv := Lib.hid HTxpvv
 replace HTq := Lib.hid HTq
 have hL0 : GL w w [] := GL.start w
 have hT : PTs w [] := PTs.nil w
 go_enter Tryz.func8, Tryz.ntmps8
 go_wp2_with fail
 with_reducible refine Calls.mono (HOh.out _) ?_
 rintro e x1 ⟨rfl, hb⟩
 replace hL0 := hL0.call hb
 replace hT := hT.call hb
 clear hb
 replace hT := (hT.new (.cells #[.int .u64 ((zl hf.num : Nat) : Int), .string (zh hf.num), .bool (zs hf.num), .int .u64 ((lo (fe hf) : Nat) : Int), .string (hs (fe hf))] 47))
 replace hL0 := (hL0.new rfl [.int .u64 ((zl hf.num : Nat) : Int), .string (zh hf.num), .bool (zs hf.num), .int .u64 ((lo (fe hf) : Nat) : Int), .string (hs (fe hf))] 47)
 generalize hweq : (x1.alloc (.cells #[.int .u64 ((zl hf.num : Nat) : Int), .string (zh hf.num), .bool (zs hf.num), .int .u64 ((lo (fe hf) : Nat) : Int), .string (hs (fe hf))] 47)) = x2 at hL0 hT
 go_upto_region 2 with fail
 clear hweq
 refine region_tl 7 [EV (.agg #[.int .u64 ((zl hf.num : Nat) : Int), .string (zh hf.num), .bool (zs hf.num), .int .u64 ((lo (fe hf) : Nat) : Int), .string (hs (fe hf))]), EV (.agg #[.int .i64 0, .int .i64 0, .int .u64 ((zl hf.num : Nat) : Int), .string (zh hf.num), .bool (zs hf.num), .int .u64 ((lo (fe hf) : Nat) : Int), .string (hs (fe hf))]), EV (.agg #[.int .i64 1, .int .i64 0, .int .u64 ((zl c1.num : Nat) : Int), .string (zh c1.num), .bool (zs c1.num), .int .u64 ((lo (fe c1) : Nat) : Int), .string (hs (fe c1))]), EV (.agg #[.int .i64 1, .int .i64 2, .int .u64 ((zl m3.num : Nat) : Int), .string (zh m3.num), .bool (zs m3.num), .int .u64 ((lo (fe m3) : Nat) : Int), .string (hs (fe m3))]), PP [(0, 0, hf), (1, 0, c1), (1, 2, m3)], PP pa, PP pa] (by kernel_rfl) (by kernel_rfl) ?_ ?_ ?_
 ·repeat' first | exact stays_nil | apply stays_cons | exact stays_eq _ | exact stays_pt _
 ·simp only [List.take_succ_cons, List.take_zero, hopsR, and_true]
  refine ⟨?_, ?_, ?_, ?_, ?_, ?_, ?_⟩ <;> intro fv w1 hb1 hp
  all_goals (have hc := (hL0.call (below_drew hb1)).fc; simp only [zF, Nat.reduceAdd] at hc; simp only [putsV, Act.put, zP, Nat.zero_add, Nat.reduceAdd])
  ·refine tyAt_none rfl ?_
   simp [tyUpon, execOp, go_sem, Act.eval, hc, Below.refl]
  ·have h0 : EV _ (fv 0) w1 := hp 0 (LC (by kernel_rfl))
   refine tyAt_none rfl ?_
   simp [tyUpon, execOp, go_sem, Act.eval, h0, Below.refl]
  ·refine tyAt_none rfl ?_
   refine ty_call (f := 43) (args := #[.int .i64 1, .int .i64 1, .int .i64 0]) (by simp [execOp, go_sem, Act.eval]) ?_
   exact (HT0.out w1).mono fun e w2 ⟨h1, h2⟩ => ⟨_, h1, rfl, h2⟩
  ·refine tyAt_none rfl ?_
   refine ty_call (f := 43) (args := #[.int .i64 (-3), .int .i64 1, .int .i64 2]) (by simp [execOp, go_sem, Act.eval]) ?_
   exact (HT1.out w1).mono fun e w2 ⟨h1, h2⟩ => ⟨_, h1, rfl, h2⟩
  ·have h1 : EV _ (fv 1) w1 := hp 1 (LC (by kernel_rfl))
   have h2 : EV _ (fv 2) w1 := hp 2 (LC (by kernel_rfl))
   have h3 : EV _ (fv 3) w1 := hp 3 (LC (by kernel_rfl))
   refine tyAt_none rfl ?_
   refine ty_val8 (u := .slice (some ⟨w1.heap.size, 0, none⟩) 3 3) (w' := w1.alloc (.cells #[.int .i64 0, .int .i64 0, .int .u64 ((zl hf.num : Nat) : Int), .string (zh hf.num), .bool (zs hf.num), .int .u64 ((lo (fe hf) : Nat) : Int), .string (hs (fe hf)), .int .i64 1, .int .i64 0, .int .u64 ((zl c1.num : Nat) : Int), .string (zh c1.num), .bool (zs c1.num), .int .u64 ((lo (fe c1) : Nat) : Int), .string (hs (fe c1)), .int .i64 1, .int .i64 2, .int .u64 ((zl m3.num : Nat) : Int), .string (zh m3.num), .bool (zs m3.num), .int .u64 ((lo (fe m3) : Nat) : Int), .string (hs (fe m3))] 84)) (by simp [execOp, go_sem, Act.eval, h1, h2, h3]) ((Below.refl _ _).alloc (Nat.le_refl _) _) (pt_of_hd (l := [(0, 0, hf), (1, 0, c1), (1, 2, m3)]) (hd_new w1 (tmCs [(0, 0, hf), (1, 0, c1), (1, 2, m3)]) _) rfl)
  ·have h4 : (PP [(0, 0, hf), (1, 0, c1), (1, 2, m3)]) (fv 4) w1 := hp 4 (LC (by kernel_rfl))
   refine tyAt_none rfl ?_
   refine ty_call (f := 42) (args := #[fv 4]) (by simp [execOp, go_sem, Act.eval]) ?_
   exact (HRpa.out (fv 4) w1 h4).mono fun e w2 ⟨pv, h1, h2, h3⟩ => ⟨pv, h1, h2, h3⟩
  ·have h5 : (PP pa) (fv 5) w1 := hp 5 (LC (by kernel_rfl))
   refine tyAt_none rfl ?_
   simp [tyUpon, execOp, go_sem, Act.eval, Below.refl]
   exact h5
 ·intro fv x3 hb1 hv
  have e0 : fv 0 = _ := hv 0 (by omega)
  have e1 : fv 1 = _ := hv 1 (by omega)
  have e2 : fv 2 = _ := hv 2 (by omega)
  have e3 : fv 3 = _ := hv 3 (by omega)
  have q4 : PT x3 (fv 4) ([(0, 0, hf), (1, 0, c1), (1, 2, m3)]) := hv 4 (by omega)
  obtain ⟨g1, d1, g1c, e4, -⟩ := pt_form q4
  rw [e4] at q4
  have q5 : PT x3 (fv 5) pa := hv 5 (by omega)
  obtain ⟨g2, d2, g2c, e5, -⟩ := pt_form q5
  rw [e5] at q5
  have q6 : PT x3 (fv 6) pa := hv 6 (by omega)
  obtain ⟨g3, d3, g3c, e6, -⟩ := pt_form q6
  rw [e6] at q6
  simp only [List.take_succ_cons, List.take_zero, putsV, Act.put, zP, List.drop_succ_cons, List.drop_zero, Nat.zero_add, Nat.reduceAdd, e0, e1, e2, e3, e4, e5, e6]
  replace hL0 := hL0.call (below_drew hb1)
  replace hT := hT.call (below_drew hb1)
  replace hT := hT.cons q4
  replace hT := hT.cons q5
  replace hT := hT.cons q6
  clear e0 e1 e2 e3 e4 e5 e6 hb1 hv q4 q5 q6 fv
  go_wp2_with fail
  with_reducible refine Calls.mono (HT2.out _) ?_
  rintro e x4 ⟨rfl, hb⟩
  replace hL0 := hL0.call hb
  replace hT := hT.call hb
  clear hb
  go_wp2_with fail
  with_reducible refine Calls.mono (HT3.out _) ?_
  rintro e x5 ⟨rfl, hb⟩
  replace hL0 := hL0.call hb
  replace hT := hT.call hb
  clear hb
  go_wp2_with fail
  with_reducible refine Calls.mono (HT4.out _) ?_
  rintro e x6 ⟨rfl, hb⟩
  replace hL0 := hL0.call hb
  replace hT := hT.call hb
  clear hb
  replace hT := (hT.new (.cells #[.int .i64 2, .int .i64 0, .int .u64 ((zl c1.num : Nat) : Int), .string (zh c1.num), .bool (zs c1.num), .int .u64 ((lo (fe c1) : Nat) : Int), .string (hs (fe c1)), .int .i64 1, .int .i64 1, .int .u64 ((zl c2.num : Nat) : Int), .string (zh c2.num), .bool (zs c2.num), .int .u64 ((lo (fe c2) : Nat) : Int), .string (hs (fe c2)), .int .i64 2, .int .i64 0, .int .u64 ((zl m1.num : Nat) : Int), .string (zh m1.num), .bool (zs m1.num), .int .u64 ((lo (fe m1) : Nat) : Int), .string (hs (fe m1))] 84))
  replace hL0 := (hL0.new rfl [.int .i64 2, .int .i64 0, .int .u64 ((zl c1.num : Nat) : Int), .string (zh c1.num), .bool (zs c1.num), .int .u64 ((lo (fe c1) : Nat) : Int), .string (hs (fe c1)), .int .i64 1, .int .i64 1, .int .u64 ((zl c2.num : Nat) : Int), .string (zh c2.num), .bool (zs c2.num), .int .u64 ((lo (fe c2) : Nat) : Int), .string (hs (fe c2)), .int .i64 2, .int .i64 0, .int .u64 ((zl m1.num : Nat) : Int), .string (zh m1.num), .bool (zs m1.num), .int .u64 ((lo (fe m1) : Nat) : Int), .string (hs (fe m1))] 84)
  generalize hweq : (x6.alloc (.cells #[.int .i64 2, .int .i64 0, .int .u64 ((zl c1.num : Nat) : Int), .string (zh c1.num), .bool (zs c1.num), .int .u64 ((lo (fe c1) : Nat) : Int), .string (hs (fe c1)), .int .i64 1, .int .i64 1, .int .u64 ((zl c2.num : Nat) : Int), .string (zh c2.num), .bool (zs c2.num), .int .u64 ((lo (fe c2) : Nat) : Int), .string (hs (fe c2)), .int .i64 2, .int .i64 0, .int .u64 ((zl m1.num : Nat) : Int), .string (zh m1.num), .bool (zs m1.num), .int .u64 ((lo (fe m1) : Nat) : Int), .string (hs (fe m1))] 84)) = x7 at hL0 hT
  have hbp1 : PT x7 (.slice (some ⟨x6.heap.size, 0, none⟩) 3 3) [(2, 0, c1), (1, 1, c2), (2, 0, m1)] := pt_of_hd (hL0.get _ _ mZ) rfl
  replace hbp1 := Lib.hid hbp1
  go_wp2_with fail
  with_reducible refine Calls.mono (HO1.out (.slice (some ⟨x6.heap.size, 0, none⟩) 3 3) _ hbp1.out) ?_
  rintro e x8 ⟨v0, rfl, q0, hb⟩
  replace hL0 := hL0.call hb
  replace hT := hT.call hb
  clear hb hweq
  obtain ⟨g4, d4, g4c, rfl, -⟩ := pt_form q0
  replace hT := hT.cons q0
  clear q0
  go_wp2_with fail
  with_reducible refine Calls.mono (HT5.out _) ?_
  rintro e x9 ⟨rfl, hb⟩
  replace hL0 := hL0.call hb
  replace hT := hT.call hb
  clear hb
  replace hT := (hT.new (.cells #[.int .i64 (-1), .int .i64 0, .int .u64 ((zl c1.num : Nat) : Int), .string (zh c1.num), .bool (zs c1.num), .int .u64 ((lo (fe c1) : Nat) : Int), .string (hs (fe c1))] 84))
  replace hL0 := (hL0.new rfl [.int .i64 (-1), .int .i64 0, .int .u64 ((zl c1.num : Nat) : Int), .string (zh c1.num), .bool (zs c1.num), .int .u64 ((lo (fe c1) : Nat) : Int), .string (hs (fe c1))] 84)
  generalize hweq : (x9.alloc (.cells #[.int .i64 (-1), .int .i64 0, .int .u64 ((zl c1.num : Nat) : Int), .string (zh c1.num), .bool (zs c1.num), .int .u64 ((lo (fe c1) : Nat) : Int), .string (hs (fe c1))] 84)) = x10 at hL0 hT
  have hbp2 : PT x10 (.slice (some ⟨x9.heap.size, 0, none⟩) 1 1) [(-1, 0, c1)] := pt_of_hd (hL0.get _ _ mZ) rfl
  replace hbp2 := Lib.hid hbp2
  go_wp2_with fail
  with_reducible refine Calls.mono (HO2.out (.slice (some ⟨x9.heap.size, 0, none⟩) 1 1) _ hbp2.out) ?_
  rintro e x11 ⟨v0, rfl, q0, hb⟩
  replace hL0 := hL0.call hb
  replace hT := hT.call hb
  clear hb hweq
  obtain ⟨g5, d5, g5c, rfl, -⟩ := pt_form q0
  replace hT := hT.cons q0
  clear q0
  go_wp2_with fail
  with_reducible refine Calls.mono (HT6.out _) ?_
  rintro e x12 ⟨rfl, hb⟩
  replace hL0 := hL0.call hb
  replace hT := hT.call hb
  clear hb
  replace hT := (hT.new (.cells #[.int .i64 13, .int .i64 0, .int .u64 ((zl c0.num : Nat) : Int), .string (zh c0.num), .bool (zs c0.num), .int .u64 ((lo (fe c0) : Nat) : Int), .string (hs (fe c0))] 84))
  replace hL0 := (hL0.new rfl [.int .i64 13, .int .i64 0, .int .u64 ((zl c0.num : Nat) : Int), .string (zh c0.num), .bool (zs c0.num), .int .u64 ((lo (fe c0) : Nat) : Int), .string (hs (fe c0))] 84)
  generalize hweq : (x12.alloc (.cells #[.int .i64 13, .int .i64 0, .int .u64 ((zl c0.num : Nat) : Int), .string (zh c0.num), .bool (zs c0.num), .int .u64 ((lo (fe c0) : Nat) : Int), .string (hs (fe c0))] 84)) = x13 at hL0 hT
  have hbp3 : PT x13 (.slice (some ⟨x12.heap.size, 0, none⟩) 1 1) [(13, 0, c0)] := pt_of_hd (hL0.get _ _ mZ) rfl
  replace hbp3 := Lib.hid hbp3
  go_wp2_with fail
  with_reducible refine Calls.mono (HO3.out (.slice (some ⟨x12.heap.size, 0, none⟩) 1 1) _ hbp3.out) ?_
  rintro e x14 ⟨v0, rfl, q0, hb⟩
  replace hL0 := hL0.call hb
  replace hT := hT.call hb
  clear hb hweq
  obtain ⟨g6, d6, g6c, rfl, -⟩ := pt_form q0
  replace hT := hT.cons q0
  clear q0
  go_wp2_with fail
  with_reducible refine Calls.mono (HX.out _) ?_
  rintro e x15 ⟨v0, rfl, q0, hb⟩
  replace hL0 := hL0.call hb
  replace hT := hT.call hb
  clear hb
  obtain ⟨g7, d7, g7c, rfl, -⟩ := pt_form q0
  replace hT := hT.cons q0
  clear q0
  go_wp2_with fail
  with_reducible refine Calls.mono (HY.out _) ?_
  rintro e x16 ⟨v0, rfl, q0, hb⟩
  replace hL0 := hL0.call hb
  replace hT := hT.call hb
  clear hb
  obtain ⟨g8, d8, g8c, rfl, -⟩ := pt_form q0
  replace hT := hT.cons q0
  clear q0
  go_wp2_with fail
  with_reducible refine Calls.mono (HA1.out (.slice g7 d7 g7c) (.slice g8 d8 g8c) _ (hT.get (mK mZ)) (hT.get mZ)) ?_
  rintro e x17 ⟨v0, rfl, q0, hb⟩
  replace hL0 := hL0.call hb
  replace hT := hT.call hb
  clear hb
  obtain ⟨g9, d9, g9c, rfl, -⟩ := pt_form q0
  replace hT := hT.cons q0
  clear q0
  go_wp2_with fail
  with_reducible refine Calls.mono (HX.out _) ?_
  rintro e x18 ⟨v0, rfl, q0, hb⟩
  replace hL0 := hL0.call hb
  replace hT := hT.call hb
  clear hb
  obtain ⟨g10, d10, g10c, rfl, -⟩ := pt_form q0
  replace hT := hT.cons q0
  clear q0
  go_wp2_with fail
  with_reducible refine Calls.mono (HY.out _) ?_
  rintro e x19 ⟨v0, rfl, q0, hb⟩
  replace hL0 := hL0.call hb
  replace hT := hT.call hb
  clear hb
  obtain ⟨g11, d11, g11c, rfl, -⟩ := pt_form q0
  replace hT := hT.cons q0
  clear q0
  go_wp2_with fail
  with_reducible refine Calls.mono (HS1.out (.slice g10 d10 g10c) (.slice g11 d11 g11c) _ (hT.get (mK mZ)) (hT.get mZ)) ?_
  rintro e x20 ⟨v0, rfl, q0, hb⟩
  replace hL0 := hL0.call hb
  replace hT := hT.call hb
  clear hb
  obtain ⟨g12, d12, g12c, rfl, -⟩ := pt_form q0
  replace hT := hT.cons q0
  clear q0
  go_wp2_with fail
  with_reducible refine Calls.mono (HM1.out (.slice g9 d9 g9c) (.slice g12 d12 g12c) _ (hT.get (mK (mK (mK mZ)))) (hT.get mZ)) ?_
  rintro e x21 ⟨v0, rfl, q0, hb⟩
  replace hL0 := hL0.call hb
  replace hT := hT.call hb
  clear hb
  obtain ⟨g13, d13, g13c, rfl, -⟩ := pt_form q0
  replace hT := hT.cons q0
  clear q0
  go_wp2_with fail
  with_reducible refine Calls.mono (HX.out _) ?_
  rintro e x22 ⟨v0, rfl, q0, hb⟩
  replace hL0 := hL0.call hb
  replace hT := hT.call hb
  clear hb
  obtain ⟨g14, d14, g14c, rfl, -⟩ := pt_form q0
  replace hT := hT.cons q0
  clear q0
  go_wp2_with fail
  with_reducible refine Calls.mono (HI1.out _) ?_
  rintro e x23 ⟨rfl, hb⟩
  replace hL0 := hL0.call hb
  replace hT := hT.call hb
  clear hb
  go_wp2_with fail
  with_reducible refine Calls.mono (HK.out _) ?_
  rintro e x24 ⟨v0, rfl, q0, hb⟩
  replace hL0 := hL0.call hb
  replace hT := hT.call hb
  clear hb
  obtain ⟨g15, d15, g15c, rfl, -⟩ := pt_form q0
  replace hT := hT.cons q0
  clear q0
  go_wp2_with fail
  with_reducible refine Calls.mono (HA2.out (.slice g14 d14 g14c) (.slice g15 d15 g15c) _ (hT.get (mK mZ)) (hT.get mZ)) ?_
  rintro e x25 ⟨v0, rfl, q0, hb⟩
  replace hL0 := hL0.call hb
  replace hT := hT.call hb
  clear hb
  obtain ⟨g16, d16, g16c, rfl, -⟩ := pt_form q0
  replace hT := hT.cons q0
  clear q0
  go_wp2_with fail
  with_reducible refine Calls.mono (HP.out (.slice g16 d16 g16c) _ (hT.get mZ)) ?_
  rintro e x26 ⟨v0, rfl, q0, hb⟩
  replace hL0 := hL0.call hb
  replace hT := hT.call hb
  clear hb
  obtain ⟨g17, d17, g17c, rfl, -⟩ := pt_form q0
  replace hT := hT.cons q0
  clear q0
  go_wp2_with fail
  with_reducible refine Calls.mono (HT7.out _) ?_
  rintro e x27 ⟨rfl, hb⟩
  replace hL0 := hL0.call hb
  replace hT := hT.call hb
  clear hb
  replace hT := (hT.new (.cells #[.int .i64 7, .int .i64 0, .int .u64 ((zl c1.num : Nat) : Int), .string (zh c1.num), .bool (zs c1.num), .int .u64 ((lo (fe c1) : Nat) : Int), .string (hs (fe c1))] 84))
  replace hL0 := (hL0.new rfl [.int .i64 7, .int .i64 0, .int .u64 ((zl c1.num : Nat) : Int), .string (zh c1.num), .bool (zs c1.num), .int .u64 ((lo (fe c1) : Nat) : Int), .string (hs (fe c1))] 84)
  generalize hweq : (x27.alloc (.cells #[.int .i64 7, .int .i64 0, .int .u64 ((zl c1.num : Nat) : Int), .string (zh c1.num), .bool (zs c1.num), .int .u64 ((lo (fe c1) : Nat) : Int), .string (hs (fe c1))] 84)) = x28 at hL0 hT
  have hbp4 : PT x28 (.slice (some ⟨x27.heap.size, 0, none⟩) 1 1) [(7, 0, c1)] := pt_of_hd (hL0.get _ _ mZ) rfl
  replace hbp4 := Lib.hid hbp4
  go_wp2_with fail
  with_reducible refine Calls.mono (HRp7.out (.slice (some ⟨x27.heap.size, 0, none⟩) 1 1) _ hbp4.out) ?_
  rintro e x29 ⟨v0, rfl, q0, hb⟩
  replace hL0 := hL0.call hb
  replace hT := hT.call hb
  clear hb hweq
  obtain ⟨g18, d18, g18c, rfl, -⟩ := pt_form q0
  replace hT := hT.cons q0
  clear q0
  go_wp2_with fail
  with_reducible refine Calls.mono (HT8.out _) ?_
  rintro e x30 ⟨rfl, hb⟩
  replace hL0 := hL0.call hb
  replace hT := hT.call hb
  clear hb
  replace hT := (hT.new (.cells #[.int .i64 0, .int .i64 6, .int .u64 ((zl c1.num : Nat) : Int), .string (zh c1.num), .bool (zs c1.num), .int .u64 ((lo (fe c1) : Nat) : Int), .string (hs (fe c1))] 84))
  replace hL0 := (hL0.new rfl [.int .i64 0, .int .i64 6, .int .u64 ((zl c1.num : Nat) : Int), .string (zh c1.num), .bool (zs c1.num), .int .u64 ((lo (fe c1) : Nat) : Int), .string (hs (fe c1))] 84)
  generalize hweq : (x30.alloc (.cells #[.int .i64 0, .int .i64 6, .int .u64 ((zl c1.num : Nat) : Int), .string (zh c1.num), .bool (zs c1.num), .int .u64 ((lo (fe c1) : Nat) : Int), .string (hs (fe c1))] 84)) = x31 at hL0 hT
  have hbp5 : PT x31 (.slice (some ⟨x30.heap.size, 0, none⟩) 1 1) [(0, 6, c1)] := pt_of_hd (hL0.get _ _ mZ) rfl
  replace hbp5 := Lib.hid hbp5
  go_wp2_with fail
  with_reducible refine Calls.mono (HRp6.out (.slice (some ⟨x30.heap.size, 0, none⟩) 1 1) _ hbp5.out) ?_
  rintro e x32 ⟨v0, rfl, q0, hb⟩
  replace hL0 := hL0.call hb
  replace hT := hT.call hb
  clear hb hweq
  obtain ⟨g19, d19, g19c, rfl, -⟩ := pt_form q0
  replace hT := hT.cons q0
  clear q0
  go_wp2_with fail
  with_reducible refine Calls.mono (HM2.out (.slice g18 d18 g18c) (.slice g19 d19 g19c) _ (hT.get (mK mZ)) (hT.get mZ)) ?_
  rintro e x33 ⟨v0, rfl, q0, hb⟩
  replace hL0 := hL0.call hb
  replace hT := hT.call hb
  clear hb
  obtain ⟨g20, d20, g20c, rfl, -⟩ := pt_form q0
  replace hT := hT.cons q0
  clear q0
  go_wp2_with fail
  with_reducible refine Calls.mono (HTxpa.out (.slice g3 d3 g3c) _ (hKT.out.at (hL0.bl) kKT) (hT.get (mK (mK (mK (mK (mK (mK (mK (mK (mK (mK (mK (mK (mK (mK (mK (mK (mK mZ))))))))))))))))))) ?_
  rintro e x34 ⟨rfl, hb⟩
  replace hL0 := hL0.call hb
  replace hT := hT.call hb
  clear hb
  go_wp2_with fail
  with_reducible refine Calls.mono (HTxpb.out (.slice g4 d4 g4c) _ (hKT.out.at (hL0.bl) kKT) (hT.get (mK (mK (mK (mK (mK (mK (mK (mK (mK (mK (mK (mK (mK (mK (mK (mK mZ)))))))))))))))))) ?_
  rintro e x35 ⟨rfl, hb⟩
  replace hL0 := hL0.call hb
  replace hT := hT.call hb
  clear hb
  go_wp2_with fail
  with_reducible refine Calls.mono (HTxpc.out (.slice g13 d13 g13c) _ (hKT.out.at (hL0.bl) kKT) (hT.get (mK (mK (mK (mK (mK (mK (mK mZ))))))))) ?_
  rintro e x36 ⟨rfl, hb⟩
  replace hL0 := hL0.call hb
  replace hT := hT.call hb
  clear hb
  go_wp2_with fail
  with_reducible refine Calls.mono (HTxpw.out (.slice g17 d17 g17c) _ (hKT.out.at (hL0.bl) kKT) (hT.get (mK (mK (mK mZ))))) ?_
  rintro e x37 ⟨rfl, hb⟩
  replace hL0 := hL0.call hb
  replace hT := hT.call hb
  clear hb
  go_wp2_with fail
  with_reducible refine Calls.mono (HI1.out _) ?_
  rintro e x38 ⟨rfl, hb⟩
  replace hL0 := hL0.call hb
  replace hT := hT.call hb
  clear hb
  go_wp2_with fail
  with_reducible refine Calls.mono (HI0.out _) ?_
  rintro e x39 ⟨rfl, hb⟩
  replace hL0 := hL0.call hb
  replace hT := hT.call hb
  clear hb
  go_wp2_with fail
  with_reducible refine Calls.mono (HI2.out _) ?_
  rintro e x40 ⟨rfl, hb⟩
  replace hL0 := hL0.call hb
  replace hT := hT.call hb
  clear hb
  replace hT := (((hT.new (.cells #[.int .u64 ((zl c1.num : Nat) : Int), .string (zh c1.num), .bool (zs c1.num), .int .u64 ((lo (fe c1) : Nat) : Int), .string (hs (fe c1))] 47)).new (.cells #[.int .u64 ((zl c0.num : Nat) : Int), .string (zh c0.num), .bool (zs c0.num), .int .u64 ((lo (fe c0) : Nat) : Int), .string (hs (fe c0))] 47)).new (.cells #[.int .u64 ((zl c2.num : Nat) : Int), .string (zh c2.num), .bool (zs c2.num), .int .u64 ((lo (fe c2) : Nat) : Int), .string (hs (fe c2))] 47))
  replace hL0 := (((hL0.new rfl [.int .u64 ((zl c1.num : Nat) : Int), .string (zh c1.num), .bool (zs c1.num), .int .u64 ((lo (fe c1) : Nat) : Int), .string (hs (fe c1))] 47).new (K := x40.heap.size + 1) (szA _ _) [.int .u64 ((zl c0.num : Nat) : Int), .string (zh c0.num), .bool (zs c0.num), .int .u64 ((lo (fe c0) : Nat) : Int), .string (hs (fe c0))] 47).new (K := x40.heap.size + 1 + 1) (by simp only [World.size_alloc]) [.int .u64 ((zl c2.num : Nat) : Int), .string (zh c2.num), .bool (zs c2.num), .int .u64 ((lo (fe c2) : Nat) : Int), .string (hs (fe c2))] 47)
  generalize hweq : (((x40.alloc (.cells #[.int .u64 ((zl c1.num : Nat) : Int), .string (zh c1.num), .bool (zs c1.num), .int .u64 ((lo (fe c1) : Nat) : Int), .string (hs (fe c1))] 47)).alloc (.cells #[.int .u64 ((zl c0.num : Nat) : Int), .string (zh c0.num), .bool (zs c0.num), .int .u64 ((lo (fe c0) : Nat) : Int), .string (hs (fe c0))] 47)).alloc (.cells #[.int .u64 ((zl c2.num : Nat) : Int), .string (zh c2.num), .bool (zs c2.num), .int .u64 ((lo (fe c2) : Nat) : Int), .string (hs (fe c2))] 47)) = x41 at hL0 hT
  go_upto_region 12 with fail
  clear hweq
  refine region_tl 11 [EV (.agg #[.int .i64 1, .int .i64 1, .int .u64 ((zl c1.num : Nat) : Int), .string (zh c1.num), .bool (zs c1.num), .int .u64 ((lo (fe c1) : Nat) : Int), .string (hs (fe c1))]), PP [(1, 1, c1)], PP pu, EV (.agg #[.int .u64 ((zl c0.num : Nat) : Int), .string (zh c0.num), .bool (zs c0.num), .int .u64 ((lo (fe c0) : Nat) : Int), .string (hs (fe c0))]), EV (.agg #[.int .u64 ((zl c1.num : Nat) : Int), .string (zh c1.num), .bool (zs c1.num), .int .u64 ((lo (fe c1) : Nat) : Int), .string (hs (fe c1))]), EV (.agg #[.int .u64 ((zl c0.num : Nat) : Int), .string (zh c0.num), .bool (zs c0.num), .int .u64 ((lo (fe c0) : Nat) : Int), .string (hs (fe c0))]), EV (.agg #[.int .u64 ((zl c1.num : Nat) : Int), .string (zh c1.num), .bool (zs c1.num), .int .u64 ((lo (fe c1) : Nat) : Int), .string (hs (fe c1))]), EV (.agg #[.int .u64 ((zl c0.num : Nat) : Int), .string (zh c0.num), .bool (zs c0.num), .int .u64 ((lo (fe c0) : Nat) : Int), .string (hs (fe c0))]), EV (.agg #[.int .u64 ((zl c2.num : Nat) : Int), .string (zh c2.num), .bool (zs c2.num), .int .u64 ((lo (fe c2) : Nat) : Int), .string (hs (fe c2))]), PP pvv, PP pvv] (by kernel_rfl) (by kernel_rfl) ?_ ?_ ?_
  ·repeat' first | exact stays_nil | apply stays_cons | exact stays_eq _ | exact stays_pt _
  ·simp only [List.take_succ_cons, List.take_zero, hopsR, and_true]
   refine ⟨?_, ?_, ?_, ?_, ?_, ?_, ?_, ?_, ?_, ?_, ?_⟩ <;> intro fv w1 hb1 hp
   all_goals (have hc := (hL0.call (below_drew hb1)).fc; simp only [zF, Nat.reduceAdd] at hc; simp only [putsV, Act.put, zP, Nat.zero_add, Nat.reduceAdd])
   ·refine tyAt_none rfl ?_
    refine ty_call (f := 43) (args := #[.int .i64 1, .int .i64 1, .int .i64 1]) (by simp [execOp, go_sem, Act.eval]) ?_
    exact (HT9.out w1).mono fun e w2 ⟨h1, h2⟩ => ⟨_, h1, rfl, h2⟩
   ·have h0 : EV _ (fv 0) w1 := hp 0 (LC (by kernel_rfl))
    refine tyAt_none rfl ?_
    refine ty_val8 (u := .slice (some ⟨w1.heap.size, 0, none⟩) 1 1) (w' := w1.alloc (.cells #[.int .i64 1, .int .i64 1, .int .u64 ((zl c1.num : Nat) : Int), .string (zh c1.num), .bool (zs c1.num), .int .u64 ((lo (fe c1) : Nat) : Int), .string (hs (fe c1))] 84)) (by simp [execOp, go_sem, Act.eval, h0]) ((Below.refl _ _).alloc (Nat.le_refl _) _) (pt_of_hd (l := [(1, 1, c1)]) (hd_new w1 (tmCs [(1, 1, c1)]) _) rfl)
   ·have h1 : (PP [(1, 1, c1)]) (fv 1) w1 := hp 1 (LC (by kernel_rfl))
    refine tyAt_none rfl ?_
    refine ty_call (f := 42) (args := #[fv 1]) (by simp [execOp, go_sem, Act.eval]) ?_
    exact (HRpu.out (fv 1) w1 h1).mono fun e w2 ⟨pv, h1, h2, h3⟩ => ⟨pv, h1, h2, h3⟩
   ·refine tyAt_none rfl ?_
    simp [tyUpon, execOp, go_sem, Act.eval, hc, Below.refl]
   ·refine tyAt_none rfl ?_
    simp [tyUpon, execOp, go_sem, Act.eval, hc, Below.refl]
   ·refine tyAt_none rfl ?_
    simp [tyUpon, execOp, go_sem, Act.eval, hc, Below.refl]
   ·refine tyAt_none rfl ?_
    simp [tyUpon, execOp, go_sem, Act.eval, hc, Below.refl]
   ·refine tyAt_none rfl ?_
    simp [tyUpon, execOp, go_sem, Act.eval, hc, Below.refl]
   ·refine tyAt_none rfl ?_
    simp [tyUpon, execOp, go_sem, Act.eval, hc, Below.refl]
   ·have h2 : (PP pu) (fv 2) w1 := hp 2 (LC (by kernel_rfl))
    have h3 : EV _ (fv 3) w1 := hp 3 (LC (by kernel_rfl))
    have h4 : EV _ (fv 4) w1 := hp 4 (LC (by kernel_rfl))
    have h5 : EV _ (fv 5) w1 := hp 5 (LC (by kernel_rfl))
    have h6 : EV _ (fv 6) w1 := hp 6 (LC (by kernel_rfl))
    have h7 : EV _ (fv 7) w1 := hp 7 (LC (by kernel_rfl))
    have h8 : EV _ (fv 8) w1 := hp 8 (LC (by kernel_rfl))
    refine tyAt_none rfl ?_
    refine ty_call (f := 37) (args := #[fv 2, .agg #[.int .u64 ((zl c0.num : Nat) : Int), .string (zh c0.num), .bool (zs c0.num), .int .u64 ((lo (fe c0) : Nat) : Int), .string (hs (fe c0))], .agg #[.int .u64 ((zl c1.num : Nat) : Int), .string (zh c1.num), .bool (zs c1.num), .int .u64 ((lo (fe c1) : Nat) : Int), .string (hs (fe c1))], .agg #[.int .u64 ((zl c0.num : Nat) : Int), .string (zh c0.num), .bool (zs c0.num), .int .u64 ((lo (fe c0) : Nat) : Int), .string (hs (fe c0))], .agg #[.int .u64 ((zl c1.num : Nat) : Int), .string (zh c1.num), .bool (zs c1.num), .int .u64 ((lo (fe c1) : Nat) : Int), .string (hs (fe c1))], .agg #[.int .u64 ((zl c0.num : Nat) : Int), .string (zh c0.num), .bool (zs c0.num), .int .u64 ((lo (fe c0) : Nat) : Int), .string (hs (fe c0))], .agg #[.int .u64 ((zl c2.num : Nat) : Int), .string (zh c2.num), .bool (zs c2.num), .int .u64 ((lo (fe c2) : Nat) : Int), .string (hs (fe c2))]]) (by simp [execOp, go_sem, Act.eval, h3, h4, h5, h6, h7, h8]) ?_
    exact (HSh.out (fv 2) w1 h2).mono fun e w2 ⟨pv, h1, h2, h3⟩ => ⟨pv, h1, h2, h3⟩
   ·have h9 : (PP pvv) (fv 9) w1 := hp 9 (LC (by kernel_rfl))
    refine tyAt_none rfl ?_
    simp [tyUpon, execOp, go_sem, Act.eval, Below.refl]
    exact h9
  ·intro fv x42 hb1 hv
   have e0 : fv 0 = _ := hv 0 (by omega)
   have q1 : PT x42 (fv 1) ([(1, 1, c1)]) := hv 1 (by omega)
   obtain ⟨g21, d21, g21c, e1, -⟩ := pt_form q1
   rw [e1] at q1
   have q2 : PT x42 (fv 2) pu := hv 2 (by omega)
   obtain ⟨g22, d22, g22c, e2, -⟩ := pt_form q2
   rw [e2] at q2
   have e3 : fv 3 = _ := hv 3 (by omega)
   have e4 : fv 4 = _ := hv 4 (by omega)
   have e5 : fv 5 = _ := hv 5 (by omega)
   have e6 : fv 6 = _ := hv 6 (by omega)
   have e7 : fv 7 = _ := hv 7 (by omega)
   have e8 : fv 8 = _ := hv 8 (by omega)
   have q9 : PT x42 (fv 9) pvv := hv 9 (by omega)
   obtain ⟨g23, d23, g23c, e9, -⟩ := pt_form q9
   rw [e9] at q9
   have q10 : PT x42 (fv 10) pvv := hv 10 (by omega)
   obtain ⟨g24, d24, g24c, e10, -⟩ := pt_form q10
   rw [e10] at q10
   simp only [List.take_succ_cons, List.take_zero, putsV, Act.put, zP, List.drop_succ_cons, List.drop_zero, Nat.zero_add, Nat.reduceAdd, e0, e1, e2, e3, e4, e5, e6, e7, e8, e9, e10]
   replace hL0 := hL0.call (below_drew hb1)
   replace hT := hT.call (below_drew hb1)
   replace hT := hT.cons q1
   replace hT := hT.cons q2
   replace hT := hT.cons q9
   replace hT := hT.cons q10
   clear e0 e1 e2 e3 e4 e5 e6 e7 e8 e9 e10 hb1 hv q1 q2 q9 q10 fv
   go_upto_region 13 with fail
   refine region_tl 33 [EV (.agg #[.int .i64 2, .int .i64 1, .int .u64 ((zl c1.num : Nat) : Int), .string (zh c1.num), .bool (zs c1.num), .int .u64 ((lo (fe c1) : Nat) : Int), .string (hs (fe c1))]), PP [(2, 1, c1)], PP pm, PP pn, EV (.string (ByteArray.mk #[50, 42, 120, 42, 121])), EV (.bool false), EV (.bool false), EV (.agg #[.int .i64 3, .int .i64 0, .int .u64 ((zl c1.num : Nat) : Int), .string (zh c1.num), .bool (zs c1.num), .int .u64 ((lo (fe c1) : Nat) : Int), .string (hs (fe c1))]), EV (.agg #[.int .i64 0, .int .i64 2, .int .u64 ((zl c1.num : Nat) : Int), .string (zh c1.num), .bool (zs c1.num), .int .u64 ((lo (fe c1) : Nat) : Int), .string (hs (fe c1))]), PP [(3, 0, c1), (0, 2, c1)], PP po, PP pp, EV (.string (ByteArray.mk #[50, 32, 43, 32, 54, 42, 120])), EV (.bool false), EV (.bool false), EV (.bool false), EV (.slice g24 d24 g24c), EV (.string (ByteArray.mk #[50, 42, 121, 32, 43, 32, 120, 42, 121])), EV (.bool false), EV (.bool false), EV (.bool false), EV (.int .i64 (-1)), EV (.bool false), EV (.bool false), EV (.bool false), EV (.agg #[.int .i64 0, .int .i64 0, .int .u64 ((zl c5.num : Nat) : Int), .string (zh c5.num), .bool (zs c5.num), .int .u64 ((lo (fe c5) : Nat) : Int), .string (hs (fe c5))]), EV (.agg #[.int .i64 1, .int .i64 0, .int .u64 ((zl c1.num : Nat) : Int), .string (zh c1.num), .bool (zs c1.num), .int .u64 ((lo (fe c1) : Nat) : Int), .string (hs (fe c1))]), PP [(0, 0, c5), (1, 0, c1)], PP pq, EV (.agg #[.int .u64 ((zl c1.num : Nat) : Int), .string (zh c1.num), .bool (zs c1.num), .int .u64 ((lo (fe c1) : Nat) : Int), .string (hs (fe c1))]), EV (.agg #[.int .u64 ((zl c1.num : Nat) : Int), .string (zh c1.num), .bool (zs c1.num), .int .u64 ((lo (fe c1) : Nat) : Int), .string (hs (fe c1))]), EV (.bool false), EV (.bool false)] (by kernel_rfl) (by kernel_rfl) ?_ ?_ ?_
   ·repeat' first | exact stays_nil | apply stays_cons | exact stays_eq _ | exact stays_pt _
   ·simp only [List.take_succ_cons, List.take_zero, hopsR, and_true]
    refine ⟨?_, ?_, ?_, ?_, ?_, ?_, ?_, ?_, ?_, ?_, ?_, ?_, ?_, ?_, ?_, ?_, ?_, ?_, ?_, ?_, ?_, ?_, ?_, ?_, ?_, ?_, ?_, ?_, ?_, ?_, ?_, ?_, ?_⟩ <;> intro fv w1 hb1 hp
    all_goals (have hc := (hL0.call (below_drew hb1)).fc; simp only [zF, Nat.reduceAdd] at hc; simp only [putsV, Act.put, zP, Nat.zero_add, Nat.reduceAdd])
    ·refine tyAt_none rfl ?_
     refine ty_call (f := 43) (args := #[.int .i64 1, .int .i64 2, .int .i64 1]) (by simp [execOp, go_sem, Act.eval]) ?_
     exact (HT10.out w1).mono fun e w2 ⟨h1, h2⟩ => ⟨_, h1, rfl, h2⟩
    ·have h0 : EV _ (fv 0) w1 := hp 0 (LC (by kernel_rfl))
     refine tyAt_none rfl ?_
     refine ty_val8 (u := .slice (some ⟨w1.heap.size, 0, none⟩) 1 1) (w' := w1.alloc (.cells #[.int .i64 2, .int .i64 1, .int .u64 ((zl c1.num : Nat) : Int), .string (zh c1.num), .bool (zs c1.num), .int .u64 ((lo (fe c1) : Nat) : Int), .string (hs (fe c1))] 84)) (by simp [execOp, go_sem, Act.eval, h0]) ((Below.refl _ _).alloc (Nat.le_refl _) _) (pt_of_hd (l := [(2, 1, c1)]) (hd_new w1 (tmCs [(2, 1, c1)]) _) rfl)
    ·have h1 : (PP [(2, 1, c1)]) (fv 1) w1 := hp 1 (LC (by kernel_rfl))
     refine tyAt_none rfl ?_
     refine ty_call (f := 42) (args := #[fv 1]) (by simp [execOp, go_sem, Act.eval]) ?_
     exact (HRpm.out (fv 1) w1 h1).mono fun e w2 ⟨pv, h1, h2, h3⟩ => ⟨pv, h1, h2, h3⟩
    ·have h2 : (PP pm) (fv 2) w1 := hp 2 (LC (by kernel_rfl))
     refine tyAt_none rfl ?_
     refine ty_call (f := 32) (args := #[fv 2]) (by simp [execOp, go_sem, Act.eval]) ?_
     exact (HDx.out (fv 2) w1 h2).mono fun e w2 ⟨pv, h1, h2, h3⟩ => ⟨pv, h1, h2, h3⟩
    ·have h3 : (PP pn) (fv 3) w1 := hp 3 (LC (by kernel_rfl))
     refine tyAt_none rfl ?_
     refine ty_call (f := 13) (args := #[fv 3]) (by simp [execOp, go_sem, Act.eval]) ?_
     exact (HTxpn.out (fv 3) w1 (hKT.out.at ((hL0.call (below_drew hb1)).bl) kKT) h3).mono fun e w2 ⟨h1, h2⟩ => ⟨_, h1, rfl, h2⟩
    ·have h4 : EV _ (fv 4) w1 := hp 4 (LC (by kernel_rfl))
     refine tyAt_none rfl ?_
     simp [tyUpon, execOp, go_sem, Act.eval, h4, Below.refl]
    ·have h5 : EV _ (fv 5) w1 := hp 5 (LC (by kernel_rfl))
     refine tyAt_none rfl ?_
     simp [tyUpon, execOp, go_sem, Act.eval, h5, Below.refl]
    ·have h6 : EV _ (fv 6) w1 := hp 6 (LC (by kernel_rfl))
     refine tyAt_yes (by simp [Region.wanted, yielded, h6]) ?_
     refine ty_call (f := 43) (args := #[.int .i64 1, .int .i64 3, .int .i64 0]) (by simp [execOp, go_sem, Act.eval, h6]) ?_
     exact (HT11.out w1).mono fun e w2 ⟨h1, h2⟩ => ⟨_, h1, rfl, h2⟩
    ·have h6 : EV _ (fv 6) w1 := hp 6 (LC (by kernel_rfl))
     refine tyAt_yes (by simp [Region.wanted, yielded, h6]) ?_
     refine ty_call (f := 43) (args := #[.int .i64 1, .int .i64 0, .int .i64 2]) (by simp [execOp, go_sem, Act.eval, h6]) ?_
     exact (HT12.out w1).mono fun e w2 ⟨h1, h2⟩ => ⟨_, h1, rfl, h2⟩
    ·have h7 : EV _ (fv 7) w1 := hp 7 (LC (by kernel_rfl))
     have h8 : EV _ (fv 8) w1 := hp 8 (LC (by kernel_rfl))
     have h6 : EV _ (fv 6) w1 := hp 6 (LC (by kernel_rfl))
     refine tyAt_yes (by simp [Region.wanted, yielded, h7, h8, h6]) ?_
     refine ty_val8 (u := .slice (some ⟨w1.heap.size, 0, none⟩) 2 2) (w' := w1.alloc (.cells #[.int .i64 3, .int .i64 0, .int .u64 ((zl c1.num : Nat) : Int), .string (zh c1.num), .bool (zs c1.num), .int .u64 ((lo (fe c1) : Nat) : Int), .string (hs (fe c1)), .int .i64 0, .int .i64 2, .int .u64 ((zl c1.num : Nat) : Int), .string (zh c1.num), .bool (zs c1.num), .int .u64 ((lo (fe c1) : Nat) : Int), .string (hs (fe c1))] 84)) (by simp [execOp, go_sem, Act.eval, h7, h8, h6]) ((Below.refl _ _).alloc (Nat.le_refl _) _) (pt_of_hd (l := [(3, 0, c1), (0, 2, c1)]) (hd_new w1 (tmCs [(3, 0, c1), (0, 2, c1)]) _) rfl)
    ·have h9 : (PP [(3, 0, c1), (0, 2, c1)]) (fv 9) w1 := hp 9 (LC (by kernel_rfl))
     have h6 : EV _ (fv 6) w1 := hp 6 (LC (by kernel_rfl))
     refine tyAt_yes (by simp [Region.wanted, yielded, h6]) ?_
     refine ty_call (f := 42) (args := #[fv 9]) (by simp [execOp, go_sem, Act.eval, h6]) ?_
     exact (HRpo.out (fv 9) w1 h9).mono fun e w2 ⟨pv, h1, h2, h3⟩ => ⟨pv, h1, h2, h3⟩
    ·have h10 : (PP po) (fv 10) w1 := hp 10 (LC (by kernel_rfl))
     have h6 : EV _ (fv 6) w1 := hp 6 (LC (by kernel_rfl))
     refine tyAt_yes (by simp [Region.wanted, yielded, h6]) ?_
     refine ty_call (f := 36) (args := #[fv 10]) (by simp [execOp, go_sem, Act.eval, h6]) ?_
     exact (HL.out (fv 10) w1 h10).mono fun e w2 ⟨pv, h1, h2, h3⟩ => ⟨pv, h1, h2, h3⟩
    ·have h11 : (PP pp) (fv 11) w1 := hp 11 (LC (by kernel_rfl))
     have h6 : EV _ (fv 6) w1 := hp 6 (LC (by kernel_rfl))
     refine tyAt_yes (by simp [Region.wanted, yielded, h6]) ?_
     refine ty_call (f := 13) (args := #[fv 11]) (by simp [execOp, go_sem, Act.eval, h6]) ?_
     exact (HTxpp.out (fv 11) w1 (hKT.out.at ((hL0.call (below_drew hb1)).bl) kKT) h11).mono fun e w2 ⟨h1, h2⟩ => ⟨_, h1, rfl, h2⟩
    ·have h12 : EV _ (fv 12) w1 := hp 12 (LC (by kernel_rfl))
     have h6 : EV _ (fv 6) w1 := hp 6 (LC (by kernel_rfl))
     refine tyAt_yes (by simp [Region.wanted, yielded, h12, h6]) ?_
     simp [tyUpon, execOp, go_sem, Act.eval, h12, h6, Below.refl]
    ·have h6 : EV _ (fv 6) w1 := hp 6 (LC (by kernel_rfl))
     have h13 : EV _ (fv 13) w1 := hp 13 (LC (by kernel_rfl))
     refine tyAt_none rfl ?_
     simp [tyUpon, execOp, go_sem, Act.eval, h6, h13, Below.refl]
    ·have h14 : EV _ (fv 14) w1 := hp 14 (LC (by kernel_rfl))
     refine tyAt_none rfl ?_
     simp [tyUpon, execOp, go_sem, Act.eval, h14, Below.refl]
    ·have h15 : EV _ (fv 15) w1 := hp 15 (LC (by kernel_rfl))
     refine tyAt_yes (by simp [Region.wanted, yielded, h15]) ?_
     simp [tyUpon, execOp, go_sem, Act.eval, h15, Below.refl]
    ·have h16 : EV _ (fv 16) w1 := hp 16 (LC (by kernel_rfl))
     have h15 : EV _ (fv 15) w1 := hp 15 (LC (by kernel_rfl))
     refine tyAt_yes (by simp [Region.wanted, yielded, h16, h15]) ?_
     refine ty_call (f := 13) (args := #[.slice g24 d24 g24c]) (by simp [execOp, go_sem, Act.eval, h16, h15]) ?_
     exact (HTxpvv.out (.slice g24 d24 g24c) w1 (hKT.out.at ((hL0.call (below_drew hb1)).bl) kKT) (PT.below (hT.get mZ) (below_drew hb1))).mono fun e w2 ⟨h1, h2⟩ => ⟨_, h1, rfl, h2⟩
    ·have h17 : EV _ (fv 17) w1 := hp 17 (LC (by kernel_rfl))
     have h15 : EV _ (fv 15) w1 := hp 15 (LC (by kernel_rfl))
     refine tyAt_yes (by simp [Region.wanted, yielded, h17, h15]) ?_
     simp [tyUpon, execOp, go_sem, Act.eval, h17, h15, Below.refl]
    ·have h15 : EV _ (fv 15) w1 := hp 15 (LC (by kernel_rfl))
     have h18 : EV _ (fv 18) w1 := hp 18 (LC (by kernel_rfl))
     refine tyAt_none rfl ?_
     simp [tyUpon, execOp, go_sem, Act.eval, h15, h18, Below.refl]
    ·have h19 : EV _ (fv 19) w1 := hp 19 (LC (by kernel_rfl))
     refine tyAt_none rfl ?_
     simp [tyUpon, execOp, go_sem, Act.eval, h19, Below.refl]
    ·have h20 : EV _ (fv 20) w1 := hp 20 (LC (by kernel_rfl))
     refine tyAt_yes (by simp [Region.wanted, yielded, h20]) ?_
     refine ty_call (f := 15) (args := #[.slice none 0 0]) (by simp [execOp, go_sem, Act.eval, h20]) ?_
     exact (HDn.out (.slice none 0 0) w1 (pt_nil _)).mono fun e w2 ⟨h1, h2⟩ => ⟨_, h1, rfl, h2⟩
    ·have h21 : EV _ (fv 21) w1 := hp 21 (LC (by kernel_rfl))
     have h20 : EV _ (fv 20) w1 := hp 20 (LC (by kernel_rfl))
     refine tyAt_yes (by simp [Region.wanted, yielded, h21, h20]) ?_
     simp [tyUpon, execOp, go_sem, Act.eval, h21, h20, Below.refl]
    ·have h20 : EV _ (fv 20) w1 := hp 20 (LC (by kernel_rfl))
     have h22 : EV _ (fv 22) w1 := hp 22 (LC (by kernel_rfl))
     refine tyAt_none rfl ?_
     simp [tyUpon, execOp, go_sem, Act.eval, h20, h22, Below.refl]
    ·have h23 : EV _ (fv 23) w1 := hp 23 (LC (by kernel_rfl))
     refine tyAt_none rfl ?_
     simp [tyUpon, execOp, go_sem, Act.eval, h23, Below.refl]
    ·have h24 : EV _ (fv 24) w1 := hp 24 (LC (by kernel_rfl))
     refine tyAt_yes (by simp [Region.wanted, yielded, h24]) ?_
     refine ty_call (f := 43) (args := #[.int .i64 5, .int .i64 0, .int .i64 0]) (by simp [execOp, go_sem, Act.eval, h24]) ?_
     exact (HT13.out w1).mono fun e w2 ⟨h1, h2⟩ => ⟨_, h1, rfl, h2⟩
    ·have h24 : EV _ (fv 24) w1 := hp 24 (LC (by kernel_rfl))
     refine tyAt_yes (by simp [Region.wanted, yielded, h24]) ?_
     refine ty_call (f := 43) (args := #[.int .i64 1, .int .i64 1, .int .i64 0]) (by simp [execOp, go_sem, Act.eval, h24]) ?_
     exact (HT0.out w1).mono fun e w2 ⟨h1, h2⟩ => ⟨_, h1, rfl, h2⟩
    ·have h25 : EV _ (fv 25) w1 := hp 25 (LC (by kernel_rfl))
     have h26 : EV _ (fv 26) w1 := hp 26 (LC (by kernel_rfl))
     have h24 : EV _ (fv 24) w1 := hp 24 (LC (by kernel_rfl))
     refine tyAt_yes (by simp [Region.wanted, yielded, h25, h26, h24]) ?_
     refine ty_val8 (u := .slice (some ⟨w1.heap.size, 0, none⟩) 2 2) (w' := w1.alloc (.cells #[.int .i64 0, .int .i64 0, .int .u64 ((zl c5.num : Nat) : Int), .string (zh c5.num), .bool (zs c5.num), .int .u64 ((lo (fe c5) : Nat) : Int), .string (hs (fe c5)), .int .i64 1, .int .i64 0, .int .u64 ((zl c1.num : Nat) : Int), .string (zh c1.num), .bool (zs c1.num), .int .u64 ((lo (fe c1) : Nat) : Int), .string (hs (fe c1))] 84)) (by simp [execOp, go_sem, Act.eval, h25, h26, h24]) ((Below.refl _ _).alloc (Nat.le_refl _) _) (pt_of_hd (l := [(0, 0, c5), (1, 0, c1)]) (hd_new w1 (tmCs [(0, 0, c5), (1, 0, c1)]) _) rfl)
    ·have h27 : (PP [(0, 0, c5), (1, 0, c1)]) (fv 27) w1 := hp 27 (LC (by kernel_rfl))
     have h24 : EV _ (fv 24) w1 := hp 24 (LC (by kernel_rfl))
     refine tyAt_yes (by simp [Region.wanted, yielded, h24]) ?_
     refine ty_call (f := 42) (args := #[fv 27]) (by simp [execOp, go_sem, Act.eval, h24]) ?_
     exact (HRpq.out (fv 27) w1 h27).mono fun e w2 ⟨pv, h1, h2, h3⟩ => ⟨pv, h1, h2, h3⟩
    ·have h28 : (PP pq) (fv 28) w1 := hp 28 (LC (by kernel_rfl))
     have h24 : EV _ (fv 24) w1 := hp 24 (LC (by kernel_rfl))
     refine tyAt_yes (by simp [Region.wanted, yielded, h24]) ?_
     refine ty_call (f := 20) (args := #[fv 28, .int .i64 1, .int .i64 0]) (by simp [execOp, go_sem, Act.eval, h24]) ?_
     exact (HC.out (fv 28) w1 h28).mono fun e w2 ⟨h1, h2⟩ => ⟨_, h1, rfl, h2⟩
    ·have h24 : EV _ (fv 24) w1 := hp 24 (LC (by kernel_rfl))
     refine tyAt_yes (by simp [Region.wanted, yielded, h24]) ?_
     simp [tyUpon, execOp, go_sem, Act.eval, hc, h24, Below.refl]
    ·have h29 : EV _ (fv 29) w1 := hp 29 (LC (by kernel_rfl))
     have h30 : EV _ (fv 30) w1 := hp 30 (LC (by kernel_rfl))
     have h24 : EV _ (fv 24) w1 := hp 24 (LC (by kernel_rfl))
     refine tyAt_yes (by simp [Region.wanted, yielded, h29, h30, h24]) ?_
     simp [tyUpon, execOp, go_sem, Act.eval, h29, h30, h24, Below.refl]
    ·have h24 : EV _ (fv 24) w1 := hp 24 (LC (by kernel_rfl))
     have h31 : EV _ (fv 31) w1 := hp 31 (LC (by kernel_rfl))
     refine tyAt_none rfl ?_
     simp [tyUpon, execOp, go_sem, Act.eval, h24, h31, Below.refl]
   ·intro fv x43 hb1 hv
    have e0 : fv 0 = _ := hv 0 (by omega)
    have q1 : PT x43 (fv 1) ([(2, 1, c1)]) := hv 1 (by omega)
    obtain ⟨g25, d25, g25c, e1, -⟩ := pt_form q1
    rw [e1] at q1
    have q2 : PT x43 (fv 2) pm := hv 2 (by omega)
    obtain ⟨g26, d26, g26c, e2, -⟩ := pt_form q2
    rw [e2] at q2
    have q3 : PT x43 (fv 3) pn := hv 3 (by omega)
    obtain ⟨g27, d27, g27c, e3, -⟩ := pt_form q3
    rw [e3] at q3
    have e4 : fv 4 = _ := hv 4 (by omega)
    have e5 : fv 5 = _ := hv 5 (by omega)
    have e6 : fv 6 = _ := hv 6 (by omega)
    have e7 : fv 7 = _ := hv 7 (by omega)
    have e8 : fv 8 = _ := hv 8 (by omega)
    have q9 : PT x43 (fv 9) ([(3, 0, c1), (0, 2, c1)]) := hv 9 (by omega)
    obtain ⟨g28, d28, g28c, e9, -⟩ := pt_form q9
    rw [e9] at q9
    have q10 : PT x43 (fv 10) po := hv 10 (by omega)
    obtain ⟨g29, d29, g29c, e10, -⟩ := pt_form q10
    rw [e10] at q10
    have q11 : PT x43 (fv 11) pp := hv 11 (by omega)
    obtain ⟨g30, d30, g30c, e11, -⟩ := pt_form q11
    rw [e11] at q11
    have e12 : fv 12 = _ := hv 12 (by omega)
    have e13 : fv 13 = _ := hv 13 (by omega)
    have e14 : fv 14 = _ := hv 14 (by omega)
    have e15 : fv 15 = _ := hv 15 (by omega)
    have e16 : fv 16 = _ := hv 16 (by omega)
    have e17 : fv 17 = _ := hv 17 (by omega)
    have e18 : fv 18 = _ := hv 18 (by omega)
    have e19 : fv 19 = _ := hv 19 (by omega)
    have e20 : fv 20 = _ := hv 20 (by omega)
    have e21 : fv 21 = _ := hv 21 (by omega)
    have e22 : fv 22 = _ := hv 22 (by omega)
    have e23 : fv 23 = _ := hv 23 (by omega)
    have e24 : fv 24 = _ := hv 24 (by omega)
    have e25 : fv 25 = _ := hv 25 (by omega)
    have e26 : fv 26 = _ := hv 26 (by omega)
    have q27 : PT x43 (fv 27) ([(0, 0, c5), (1, 0, c1)]) := hv 27 (by omega)
    obtain ⟨g31, d31, g31c, e27, -⟩ := pt_form q27
    rw [e27] at q27
    have q28 : PT x43 (fv 28) pq := hv 28 (by omega)
    obtain ⟨g32, d32, g32c, e28, -⟩ := pt_form q28
    rw [e28] at q28
    have e29 : fv 29 = _ := hv 29 (by omega)
    have e30 : fv 30 = _ := hv 30 (by omega)
    have e31 : fv 31 = _ := hv 31 (by omega)
    have e32 : fv 32 = _ := hv 32 (by omega)
    simp only [List.take_succ_cons, List.take_zero, putsV, Act.put, zP, List.drop_succ_cons, List.drop_zero, Nat.zero_add, Nat.reduceAdd, e0, e1, e2, e3, e4, e5, e6, e7, e8, e9, e10, e11, e12, e13, e14, e15, e16, e17, e18, e19, e20, e21, e22, e23, e24, e25, e26, e27, e28, e29, e30, e31, e32]
    replace hL0 := hL0.call (below_drew hb1)
    replace hT := hT.call (below_drew hb1)
    replace hT := hT.cons q1
    replace hT := hT.cons q2
    replace hT := hT.cons q3
    replace hT := hT.cons q9
    replace hT := hT.cons q10
    replace hT := hT.cons q11
    replace hT := hT.cons q27
    replace hT := hT.cons q28
    clear e0 e1 e2 e3 e4 e5 e6 e7 e8 e9 e10 e11 e12 e13 e14 e15 e16 e17 e18 e19 e20 e21 e22 e23 e24 e25 e26 e27 e28 e29 e30 e31 e32 hb1 hv q1 q2 q3 q9 q10 q11 q27 q28 fv
    go_upto_region 15 with fail
    refine region_tl 11 [EV (.agg #[.int .i64 2, .int .i64 0, .int .u64 ((zl c1.num : Nat) : Int), .string (zh c1.num), .bool (zs c1.num), .int .u64 ((lo (fe c1) : Nat) : Int), .string (hs (fe c1))]), EV (.agg #[.int .i64 0, .int .i64 1, .int .u64 ((zl c1.num : Nat) : Int), .string (zh c1.num), .bool (zs c1.num), .int .u64 ((lo (fe c1) : Nat) : Int), .string (hs (fe c1))]), PP [(2, 0, c1), (0, 1, c1)], PP pi, EV (.agg #[.int .u64 ((zl hf.num : Nat) : Int), .string (zh hf.num), .bool (zs hf.num), .int .u64 ((lo (fe hf) : Nat) : Int), .string (hs (fe hf))]), EV (.agg #[.int .u64 ((zl ha.num : Nat) : Int), .string (zh ha.num), .bool (zs ha.num), .int .u64 ((lo (fe ha) : Nat) : Int), .string (hs (fe ha))]), EV (.agg #[.int .u64 ((zl c3.num : Nat) : Int), .string (zh c3.num), .bool (zs c3.num), .int .u64 ((lo (fe c3) : Nat) : Int), .string (hs (fe c3))]), EV (.agg #[.int .u64 ((zl qa.num : Nat) : Int), .string (zh qa.num), .bool (zs qa.num), .int .u64 ((lo (fe qa) : Nat) : Int), .string (hs (fe qa))]), EV (.string (ByteArray.mk #[49, 51, 47, 52])), EV (.bool true), EV (.bool true)] (by kernel_rfl) (by kernel_rfl) ?_ ?_ ?_
    ·repeat' first | exact stays_nil | apply stays_cons | exact stays_eq _ | exact stays_pt _
    ·simp only [List.take_succ_cons, List.take_zero, hopsR, and_true]
     refine ⟨?_, ?_, ?_, ?_, ?_, ?_, ?_, ?_, ?_, ?_, ?_⟩ <;> intro fv w1 hb1 hp
     all_goals (have hc := (hL0.call (below_drew hb1)).fc; simp only [zF, Nat.reduceAdd] at hc; simp only [putsV, Act.put, zP, Nat.zero_add, Nat.reduceAdd])
     ·refine tyAt_none rfl ?_
      refine ty_call (f := 43) (args := #[.int .i64 1, .int .i64 2, .int .i64 0]) (by simp [execOp, go_sem, Act.eval]) ?_
      exact (HT2.out w1).mono fun e w2 ⟨h1, h2⟩ => ⟨_, h1, rfl, h2⟩
     ·refine tyAt_none rfl ?_
      refine ty_call (f := 43) (args := #[.int .i64 1, .int .i64 0, .int .i64 1]) (by simp [execOp, go_sem, Act.eval]) ?_
      exact (HT14.out w1).mono fun e w2 ⟨h1, h2⟩ => ⟨_, h1, rfl, h2⟩
     ·have h0 : EV _ (fv 0) w1 := hp 0 (LC (by kernel_rfl))
      have h1 : EV _ (fv 1) w1 := hp 1 (LC (by kernel_rfl))
      refine tyAt_none rfl ?_
      refine ty_val8 (u := .slice (some ⟨w1.heap.size, 0, none⟩) 2 2) (w' := w1.alloc (.cells #[.int .i64 2, .int .i64 0, .int .u64 ((zl c1.num : Nat) : Int), .string (zh c1.num), .bool (zs c1.num), .int .u64 ((lo (fe c1) : Nat) : Int), .string (hs (fe c1)), .int .i64 0, .int .i64 1, .int .u64 ((zl c1.num : Nat) : Int), .string (zh c1.num), .bool (zs c1.num), .int .u64 ((lo (fe c1) : Nat) : Int), .string (hs (fe c1))] 84)) (by simp [execOp, go_sem, Act.eval, h0, h1]) ((Below.refl _ _).alloc (Nat.le_refl _) _) (pt_of_hd (l := [(2, 0, c1), (0, 1, c1)]) (hd_new w1 (tmCs [(2, 0, c1), (0, 1, c1)]) _) rfl)
     ·have h2 : (PP [(2, 0, c1), (0, 1, c1)]) (fv 2) w1 := hp 2 (LC (by kernel_rfl))
      refine tyAt_none rfl ?_
      refine ty_call (f := 42) (args := #[fv 2]) (by simp [execOp, go_sem, Act.eval]) ?_
      exact (HRpi.out (fv 2) w1 h2).mono fun e w2 ⟨pv, h1, h2, h3⟩ => ⟨pv, h1, h2, h3⟩
     ·refine tyAt_none rfl ?_
      simp [tyUpon, execOp, go_sem, Act.eval, hc, Below.refl]
     ·have h4 : EV _ (fv 4) w1 := hp 4 (LC (by kernel_rfl))
      refine tyAt_none rfl ?_
      refine ty_call (f := 47) (args := #[.agg #[.int .u64 ((zl hf.num : Nat) : Int), .string (zh hf.num), .bool (zs hf.num), .int .u64 ((lo (fe hf) : Nat) : Int), .string (hs (fe hf))]]) (by simp [execOp, go_sem, Act.eval, h4]) ?_
      exact (HAb.out w1).mono fun e w2 ⟨h1, h2⟩ => ⟨_, h1, rfl, h2⟩
     ·refine tyAt_none rfl ?_
      refine ty_call (f := 35) (args := #[.int .i64 3]) (by simp [execOp, go_sem, Act.eval]) ?_
      exact (HI3.out w1).mono fun e w2 ⟨h1, h2⟩ => ⟨_, h1, rfl, h2⟩
     ·have h3 : (PP pi) (fv 3) w1 := hp 3 (LC (by kernel_rfl))
      have h5 : EV _ (fv 5) w1 := hp 5 (LC (by kernel_rfl))
      have h6 : EV _ (fv 6) w1 := hp 6 (LC (by kernel_rfl))
      refine tyAt_none rfl ?_
      refine ty_call (f := 27) (args := #[fv 3, .agg #[.int .u64 ((zl ha.num : Nat) : Int), .string (zh ha.num), .bool (zs ha.num), .int .u64 ((lo (fe ha) : Nat) : Int), .string (hs (fe ha))], .agg #[.int .u64 ((zl c3.num : Nat) : Int), .string (zh c3.num), .bool (zs c3.num), .int .u64 ((lo (fe c3) : Nat) : Int), .string (hs (fe c3))]]) (by simp [execOp, go_sem, Act.eval, h5, h6]) ?_
      exact (HAt.out (fv 3) w1 h3).mono fun e w2 ⟨h1, h2⟩ => ⟨_, h1, rfl, h2⟩
     ·have h7 : EV _ (fv 7) w1 := hp 7 (LC (by kernel_rfl))
      refine tyAt_none rfl ?_
      refine ty_call (f := 46) (args := #[.agg #[.int .u64 ((zl qa.num : Nat) : Int), .string (zh qa.num), .bool (zs qa.num), .int .u64 ((lo (fe qa) : Nat) : Int), .string (hs (fe qa))]]) (by simp [execOp, go_sem, Act.eval, h7]) ?_
      exact (HTq.out w1 (hKT.out.at ((hL0.call (below_drew hb1)).bl) kKT)).mono fun e w2 ⟨h1, h2⟩ => ⟨_, h1, rfl, h2⟩
     ·have h8 : EV _ (fv 8) w1 := hp 8 (LC (by kernel_rfl))
      refine tyAt_none rfl ?_
      simp [tyUpon, execOp, go_sem, Act.eval, h8, Below.refl]
     ·have h9 : EV _ (fv 9) w1 := hp 9 (LC (by kernel_rfl))
      refine tyAt_none rfl ?_
      simp [tyUpon, execOp, go_sem, Act.eval, h9, Below.refl]
    ·intro fv x44 hb1 hv
     have e0 : fv 0 = _ := hv 0 (by omega)
     have e1 : fv 1 = _ := hv 1 (by omega)
     have q2 : PT x44 (fv 2) ([(2, 0, c1), (0, 1, c1)]) := hv 2 (by omega)
     obtain ⟨g33, d33, g33c, e2, -⟩ := pt_form q2
     rw [e2] at q2
     have q3 : PT x44 (fv 3) pi := hv 3 (by omega)
     obtain ⟨g34, d34, g34c, e3, -⟩ := pt_form q3
     rw [e3] at q3
     have e4 : fv 4 = _ := hv 4 (by omega)
     have e5 : fv 5 = _ := hv 5 (by omega)
     have e6 : fv 6 = _ := hv 6 (by omega)
     have e7 : fv 7 = _ := hv 7 (by omega)
     have e8 : fv 8 = _ := hv 8 (by omega)
     have e9 : fv 9 = _ := hv 9 (by omega)
     have e10 : fv 10 = _ := hv 10 (by omega)
     simp only [List.take_succ_cons, List.take_zero, putsV, Act.put, zP, List.drop_succ_cons, List.drop_zero, Nat.zero_add, Nat.reduceAdd, e0, e1, e2, e3, e4, e5, e6, e7, e8, e9, e10]
     replace hL0 := hL0.call (below_drew hb1)
     replace hT := hT.call (below_drew hb1)
     replace hT := hT.cons q2
     replace hT := hT.cons q3
     clear e0 e1 e2 e3 e4 e5 e6 e7 e8 e9 e10 hb1 hv q2 q3 fv
     go_wp2_with fail
     exact bodyPost_ret (v := .bool true) (by simp [results, Tryz.results8, go_sem]) rfl ⟨rfl, hL0.bl⟩
end Go.Proofs.YtkpghlnegbimdaaGreatDoor
namespace Go.Proofs.YtkpghlnegbimdaaGreatDoor
open Go.RowKit
theorem ex_ta : textV (nrm [(0, 0, ((-1 : Rat) / 2)), (1, 0, 1), (1, 2, -3)]) = [45, 49, 47, 50, 32, 43, 32, 120, 32, 45, 32, 51, 42, 120, 42, 121, 94, 50] := by kernel_rfl
theorem ex_tb : textV (nrm [(2, 0, 1), (1, 1, 2), (2, 0, -1)]) = [50, 42, 120, 42, 121] := by kernel_rfl
theorem ex_tc : textV (mulN (addN (linN 1 0 0) (linN 0 1 0)) (addN (linN 1 0 0) (scaleN (-1) (linN 0 1 0)))) = [120, 94, 50, 32, 45, 32, 121, 94, 50] := by kernel_rfl
theorem ex_td : textV (powN (addN (linN 1 0 0) (conN 1)) 3) = [49, 32, 43, 32, 51, 42, 120, 32, 43, 32, 51, 42, 120, 94, 50, 32, 43, 32, 120, 94, 51] := by kernel_rfl
theorem ex_tn : textV (dxN (nrm [(2, 1, 1)])) = [50, 42, 120, 42, 121] := by kernel_rfl
theorem ex_tp : textV (addN (dxN (dxN (nrm [(3, 0, 1), (0, 2, 1)]))) (dyN (dyN (nrm [(3, 0, 1), (0, 2, 1)])))) = [50, 32, 43, 32, 54, 42, 120] := by kernel_rfl
theorem ex_tv : textV (shiftN (nrm [(1, 1, 1)]) (linN 0 1 0) (linN 1 0 2)) = [50, 42, 121, 32, 43, 32, 120, 42, 121] := by kernel_rfl
theorem ex_7 : degI (nrm [(7, 0, 1)]) = 7 := by kernel_rfl
theorem ex_6 : degI (nrm [(0, 6, 1)]) = 6 := by kernel_rfl
theorem ex_co : coefZ (nrm [(0, 0, 5), (1, 0, 1)]) 1 0 = 1 := by kernel_rfl
theorem ex_e1 : errL [(-1, 0, 1)] = 1 := by kernel_rfl
theorem ex_e2 : errL [(13, 0, 0)] = 9 := by kernel_rfl
theorem ex_e0 : errL [(2, 0, 1), (1, 1, 2), (2, 0, -1)] = 0 := by kernel_rfl
end Go.Proofs.YtkpghlnegbimdaaGreatDoor
namespace Go.Proofs.YtkpghlnegbimdaaGreatDoor
open Go.RowKit
attribute [local irreducible] lo hs sm s64 c64 d64 b64 mh ml pd pc qd qc val hiB str cmpI srD lz nb zl zh zs fe klT ordZ
theorem nrm_gp {l : List TI} {d K : Nat} (h : ∀ t ∈ l, 0 ≤ t.1 ∧ 0 ≤ t.2.1 ∧ t.1 + t.2.1 ≤ (d : Int)) (hd : d ≤ 12) (hs : SzL (toL l) K) : GP (nrm l) d K := by
 have hv : VdL l := fun t ht => by
  obtain ⟨a, b, c⟩ := h t ht
  exact ⟨a, b, by omega⟩
 unfold nrm
 rw [if_pos hv]
 refine ⟨nfL_nf _, tb_nfL (fun t ht => ?_), hs.nf⟩
 obtain ⟨u, hu, rfl⟩ := List.mem_map.1 ht
 have := h u hu
 simp [toT]; omega
theorem GP.shift {p u v : TL} {d K U : Nat} (h : GP p d K) (h0 : 0 < K) (hu : GP u 1 U) (hv : GP v 1 U) (hd : d ≤ 12) (D : Nat) (hD : d + 1 ≤ D) : GP (shiftN p u v) (d + 1) (D * (U + (D * (U + K + 1) + 1) + 1) + 1) := by
 have ht := topD_le h.tb
 have hin : ∀ i, i < topD p → GP (hornN (topD p - i) v (fun j => conN (coefZ p (i : Int) (j : Int))) (topD p - i)) (topD p - i) (D * (U + K + 1) + 1) := fun i hi =>
  (GP.horn (C := K) (D := topD p - i) (co := fun j => conN (coefZ p (i : Int) (j : Int))) hv (fun k _ => (GP.con (coef_sz h h0 _ _)).mono (by omega) (by omega)) (topD p - i) (Nat.le_refl _)).mono (Nat.le_refl _) (Nat.succ_le_succ (Nat.mul_le_mul_right (U + K + 1) (show topD p - i ≤ D by omega)))
 have hin2 : ∀ i, i < topD p → GP ((fun i => hornN (topD p - i) v (fun j => conN (coefZ p (i : Int) (j : Int))) (topD p - i)) (topD p - 1 - i)) (i + 1) (D * (U + K + 1) + 1) := fun i hi => (hin (topD p - 1 - i) (by omega)).mono (by omega) (Nat.le_refl _)
 exact (GP.horn (D := topD p) (co := fun i => hornN (topD p - i) v (fun j => conN (coefZ p (i : Int) (j : Int))) (topD p - i)) hu hin2 (topD p) (Nat.le_refl _)).mono (by omega) (Nat.succ_le_succ (Nat.mul_le_mul_right (U + (D * (U + K + 1) + 1) + 1) (show topD p ≤ D by omega)))
abbrev half8 : Rat := (-1 : Rat) / 2
theorem sz_half : Sz half8 1 := ⟨digs_length_iff.2 (by rw [show half8.num.natAbs = 1 from by kernel_rfl]; unfold Bs; decide), digs_length_iff.2 (by rw [show half8.den = 2 from by kernel_rfl]; unfold Bs; decide)⟩
theorem sz1 : Sz (1 : Rat) 1 := sz_i8 (i := 1) (by omega) (by omega)
theorem sz0 : Sz (0 : Rat) 1 := sz_i8 (i := 0) (by omega) (by omega)
theorem sz2 : Sz (2 : Rat) 1 := sz_i8 (i := 2) (by omega) (by omega)
theorem sz3 : Sz (3 : Rat) 1 := sz_i8 (i := 3) (by omega) (by omega)
theorem sz5 : Sz (5 : Rat) 1 := sz_i8 (i := 5) (by omega) (by omega)
theorem szm1 : Sz (-1 : Rat) 1 := sz_i8 (i := -1) (by omega) (by omega)
theorem szm3 : Sz (-3 : Rat) 1 := sz_i8 (i := -3) (by omega) (by omega)
abbrev la8 : List TI := [(0, 0, half8), (1, 0, 1), (1, 2, -3)]
abbrev lb8 : List TI := [(2, 0, 1), (1, 1, 2), (2, 0, -1)]
abbrev l78 : List TI := [(7, 0, 1)]
abbrev l68 : List TI := [(0, 6, 1)]
abbrev lu8 : List TI := [(1, 1, 1)]
abbrev lm8 : List TI := [(2, 1, 1)]
abbrev lo8 : List TI := [(3, 0, 1), (0, 2, 1)]
abbrev lq8 : List TI := [(0, 0, 5), (1, 0, 1)]
abbrev li8 : List TI := [(2, 0, 1), (0, 1, 1)]
theorem sa8 : SzL (toL la8) 5 := by
 show SzL [(0, 0, half8), (1, 0, 1), (1, 2, -3)] 5
 exact SzL.mono (SzL.cons sz_half (SzL.cons sz1 (SzL.one szm3))) (by omega)
theorem sb8 : SzL (toL lb8) 5 := by
 show SzL [(2, 0, 1), (1, 1, 2), (2, 0, -1)] 5
 exact SzL.mono (SzL.cons sz1 (SzL.cons sz2 (SzL.one szm1))) (by omega)
theorem s78 : SzL (toL l78) 1 := SzL.one sz1
theorem s68 : SzL (toL l68) 1 := SzL.one sz1
theorem su8 : SzL (toL lu8) 1 := SzL.one sz1
theorem sm8 : SzL (toL lm8) 1 := SzL.one sz1
theorem so8 : SzL (toL lo8) 3 := by
 show SzL [(3, 0, 1), (0, 2, 1)] 3
 exact SzL.mono (SzL.cons sz1 (SzL.one sz1)) (by omega)
theorem sq8 : SzL (toL lq8) 3 := by
 show SzL [(0, 0, 5), (1, 0, 1)] 3
 exact SzL.mono (SzL.cons sz5 (SzL.one sz1)) (by omega)
theorem si8 : SzL (toL li8) 3 := by
 show SzL [(2, 0, 1), (0, 1, 1)] 3
 exact SzL.mono (SzL.cons sz1 (SzL.one sz1)) (by omega)
theorem ga8 : GP (nrm la8) 3 5 := nrm_gp (by decide) (by omega) sa8
theorem gb8 : GP (nrm lb8) 3 5 := nrm_gp (by decide) (by omega) sb8
theorem g78 : GP (nrm l78) 7 1 := nrm_gp (by decide) (by omega) s78
theorem g68 : GP (nrm l68) 6 1 := nrm_gp (by decide) (by omega) s68
theorem gu8 : GP (nrm lu8) 2 1 := nrm_gp (by decide) (by omega) su8
theorem gm8 : GP (nrm lm8) 3 1 := nrm_gp (by decide) (by omega) sm8
theorem go8 : GP (nrm lo8) 3 3 := nrm_gp (by decide) (by omega) so8
theorem gq8 : GP (nrm lq8) 1 3 := nrm_gp (by decide) (by omega) sq8
theorem gi8 : GP (nrm li8) 2 3 := nrm_gp (by decide) (by omega) si8
theorem gx8 : GP (linN 1 0 0) 1 5 := GP.lin sz1 sz0 sz0
theorem gy8 : GP (linN 0 1 0) 1 5 := GP.lin sz0 sz1 sz0
theorem gz8 : GP (linN 1 0 2) 1 5 := GP.lin sz1 sz0 sz2
theorem gs8 : GP (addN (linN 1 0 0) (linN 0 1 0)) 1 11 := (gx8.add gy8).mono (by decide) (by omega)
theorem gd8 : GP (addN (linN 1 0 0) (scaleN (-1) (linN 0 1 0))) 1 12 := (gx8.add (gy8.scale szm1)).mono (by decide) (by omega)
theorem gl8 : GP (addN (linN 1 0 0) (conN 1)) 1 7 := (gx8.add (GP.con sz1)).mono (by decide) (by omega)
theorem tq8 : qtxt (atL (nrm li8) (absQ half8) 3) = ⟨#[49, 51, 47, 52]⟩ := by kernel_rfl
theorem sh8 : Sz (absQ half8) 1 := sz_abs8 sz_half
theorem sat8 : Sz (atL (nrm li8) (absQ half8) 3) 1 := ⟨digs_length_iff.2 (by rw [show (atL (nrm li8) (absQ half8) 3).num.natAbs = 13 from by kernel_rfl]; unfold Bs; decide), digs_length_iff.2 (by rw [show (atL (nrm li8) (absQ half8) 3).den = 4 from by kernel_rfl]; unfold Bs; decide)⟩
theorem lworks_any (w : World) (ht : Tab w) : Calls Tryz.prog 8 #[] w fun e w' => e = .returned (.bool true) ∧ Below w.heap.size w w' := by
 refine lworks_w half8 (absQ half8) (atL (nrm li8) (absQ half8) 3) 0 1 2 3 5 (-1) (-3)
  (ofL (nrm la8)) (ofL (nrm lb8)) (ofL (mulN (addN (linN 1 0 0) (linN 0 1 0)) (addN (linN 1 0 0) (scaleN (-1) (linN 0 1 0))))) (ofL (addN (linN 1 0 0) (scaleN (-1) (linN 0 1 0)))) (ofL (nrm [(-1, 0, 1)])) (ofL (nrm [(13, 0, 0)])) (ofL (nrm li8)) (ofL (conN 1)) (ofL (addN (linN 1 0 0) (conN 1))) (ofL (nrm lm8)) (ofL (dxN (nrm lm8))) (ofL (nrm lo8)) (ofL (addN (dxN (dxN (nrm lo8))) (dyN (dyN (nrm lo8))))) (ofL (nrm lq8)) (ofL (addN (linN 1 0 0) (linN 0 1 0))) (ofL (nrm lu8)) (ofL (shiftN (nrm lu8) (linN 0 1 0) (linN 1 0 2))) (ofL (powN (addN (linN 1 0 0) (conN 1)) 3)) (ofL (linN 1 0 0)) (ofL (linN 0 1 0)) [] (ofL (nrm l68)) (ofL (nrm l78))
  (fun w => ofF (-1) 2 (by decide) (by decide) (by decide) (by decide) (by decide) w)
  (fun w => termG 1 1 0 (by decide) (by decide) w)
  (fun w => termG (-3) 1 2 (by decide) (by decide) w)
  (fun w => termG 1 2 0 (by decide) (by decide) w)
  (fun w => termG 2 1 1 (by decide) (by decide) w)
  (fun w => termG (-1) 2 0 (by decide) (by decide) w)
  (fun w => termG 1 (-1) 0 (by decide) (by decide) w)
  (fun w => termG 0 13 0 (by decide) (by decide) w)
  (fun w => termG 1 7 0 (by decide) (by decide) w)
  (fun w => termG 1 0 6 (by decide) (by decide) w)
  (fun w => termG 1 1 1 (by decide) (by decide) w)
  (fun w => termG 1 2 1 (by decide) (by decide) w)
  (fun w => termG 1 3 0 (by decide) (by decide) w)
  (fun w => termG 1 0 2 (by decide) (by decide) w)
  (fun w => termG 5 0 0 (by decide) (by decide) w)
  (fun w => termG 1 0 1 (by decide) (by decide) w)
  (fun w => intF 0 (by decide) (by decide) w)
  (fun w => intF 1 (by decide) (by decide) w)
  (fun w => intF 2 (by decide) (by decide) w)
  (fun w => intF 3 (by decide) (by decide) w)
  (fun p w h => readG la8 5 (fun _ => sa8) (by omega) (by decide) w p h)
  (fun p w h => readG l78 1 (fun _ => s78) (by omega) (by decide) w p h)
  (fun p w h => readG l68 1 (fun _ => s68) (by omega) (by decide) w p h)
  (fun p w h => readG lu8 1 (fun _ => su8) (by omega) (by decide) w p h)
  (fun p w h => readG lm8 1 (fun _ => sm8) (by omega) (by decide) w p h)
  (fun p w h => readG lo8 3 (fun _ => so8) (by omega) (by decide) w p h)
  (fun p w h => readG lq8 3 (fun _ => sq8) (by omega) (by decide) w p h)
  (fun p w h => readG li8 3 (fun _ => si8) (by omega) (by decide) w p h)
  (fun p w h => by have := ofP lb8 5 (fun _ => sb8) (by omega) (by decide) w p h; rwa [ex_e0] at this)
  (fun p w h => by have := ofP [(-1, 0, 1)] 1 (fun _ => (SzL.one sz1 : SzL (toL [(-1, 0, 1)]) 1)) (by omega) (by decide) w p h; rwa [ex_e1] at this)
  (fun p w h => by have := ofP [(13, 0, 0)] 1 (fun _ => (SzL.one sz0 : SzL (toL [(13, 0, 0)]) 1)) (by omega) (by decide) w p h; rwa [ex_e2] at this)
  (fun w => xG w)
  (fun w => yG w)
  (fun p q w h g => addG gx8 gy8 (by omega) (by omega) (by omega) w p q h g)
  (fun p q w h g => subG gx8 gy8 (by omega) (by omega) (by omega) w p q h g)
  (fun p q w h g => mulG gs8 gd8 (by omega) (by omega) w p q h g)
  (fun w => conG sz1 (by omega) (by omega) w)
  (fun p q w h g => addG gx8 (GP.con sz1) (by omega) (by omega) (by omega) w p q h g)
  (fun p w h => powG gl8 3 (by omega) (by omega) (by omega) (by omega) w p h)
  (fun p q w h g => pmulo_w (ofL (nrm l78)) (ofL (nrm l68)) 7 6 13 (fun p w h => by have := degG g78 (by omega) (by omega) w p h; rwa [ex_7] at this) (fun p w h => by have := degG g68 (by omega) (by omega) w p h; rwa [ex_6] at this) (by decide) (by simp [wrap64]) (by omega) p q w h g)
  (fun p w h => shiftG gu8 (by omega) (by omega) (by omega) sz0 sz1 sz0 sz1 sz0 sz2 (by omega) w p h)
  (fun p w h => dxG gm8 (by omega) (by omega) w p h)
  (fun p w h => laplG go8 (by omega) (by omega) w p h)
  (fun p w h => degG GP.nil (by omega) (by omega) w p h)
  (fun p w h => by have := coefG gq8 (by omega) (by omega) 1 0 w p h; rwa [ex_co] at this)
  (fun w => absF half8 w)
  (fun p w h => atG gi8 (by omega) (by omega) sh8 sz3 (by omega) w p h)
  Tab Keeps.tab
  (fun p w ht h => by have := textG ga8 (by omega) (by omega) (by omega) w ht p h; rwa [ex_ta] at this)
  (fun p w ht h => by have := textG gb8 (by omega) (by omega) (by omega) w ht p h; rwa [ex_tb] at this)
  (fun p w ht h => by have := textG (gs8.mul gd8) (by omega) (by omega) (by omega) w ht p h; rwa [ex_tc] at this)
  (fun p w ht h => by have := textG (gl8.pow 3) (by omega) (by omega) (by omega) w ht p h; rwa [ex_td] at this)
  (fun p w ht h => by have := textG (gm8.dx (by omega)) (by omega) (by omega) (by omega) w ht p h; rwa [ex_tn] at this)
  (fun p w ht h => by have := textG (((go8.dx (by omega)).dx (by omega)).add ((go8.dy (by omega)).dy (by omega))) (by omega) (by omega) (by omega) w ht p h; rwa [ex_tp] at this)
  (fun p w ht h => by have := textG (gu8.shift (by omega) gy8 gz8 (by omega) 3 (by omega)) (by omega) (by omega) (by omega) w ht p h; rwa [ex_tv] at this)
  (fun w ht => by have := textF (atL (nrm li8) (absQ half8) 3) 1 sat8 (by omega) w ht; rwa [tq8] at this)
  w ht
end Go.Proofs.YtkpghlnegbimdaaGreatDoor
namespace Go.Proofs.YtkpghlnegbimdaaGreatDoor
open Go.RowKit
attribute [local irreducible] lo hs sm s64 c64 d64 b64 mh ml pd pc qd qc val hiB str cmpI srD lz nb zl zh zs
theorem qof_zero (n x c : Int) (f : Nat) (HF : RT 41 #[.int .i64 n, .int .i64 1] (.tuple #[frV x f, .int .i64 c])) (hmx : max (0 : Int) 1 = 1) (w : World) :
  Calls Tryz.prog 26 #[.agg #[.int .i64 n, .int .u32 0]] w fun xe w' => xe = .returned (frV x f) ∧ Below w.heap.size w w' := by
 have hL0 : GL w w [] := GL.start w
 replace HF := Lib.hid HF
 obtain ⟨x1, hweq, hL0⟩ := GL.named ((hL0.new rfl [.int .i64 n, .int .u32 0] 59).new (K := w.heap.size + 1) (szA _ _) [.int .u64 0, .string ⟨#[]⟩, .bool false, .int .u64 0, .string ⟨#[]⟩] 47)
 go_enter Tryz.func26, Tryz.ntmps26
 have hN0 := cells_of _ 0 [] rfl (hL0.get _ _ (mK mZ))
 simp only [zF, Nat.reduceAdd] at hN0
 go_wp2_with fail
 clear hN0
 with_reducible refine Calls.mono (HF.out _) ?_
 rintro e x2 ⟨rfl, hb⟩
 replace hL0 := hL0.call hb
 clear hb hweq
 obtain ⟨x3, hweq, hL0⟩ := GL.named (hL0.new rfl [.int .u64 ((zl x : Nat) : Int), .string (zh x), .bool (zs x), .int .u64 ((lo f : Nat) : Int), .string (hs f)] 47)
 have hA := hL0.fc
 simp only [zF, Nat.reduceAdd] at hA
 obtain ⟨x4, hput1, hP⟩ := GL.named (hL0.put 1 (w.heap.size + 1) _ rfl [.int .u64 ((zl x : Nat) : Int), .string (zh x), .bool (zs x), .int .u64 ((lo f : Nat) : Int), .string (hs f)] rfl)
 simp only [setAll] at hput1
 simp only [List.set_cons_zero, List.set_cons_succ] at hP
 have hB1 := hP.fc
 simp only [zF, Nat.reduceAdd] at hB1
 replace hL0 := hP
 go_wp2_with fail
 exact bodyPost_ret (v := frV x f) (by simp [results, Tryz.results26, go_sem, hB1]) rfl ⟨rfl, hL0.bl⟩
theorem qof_pos (n d x c : Int) (f : Nat) (HF : RT 41 #[.int .i64 n, .int .i64 d] (.tuple #[frV x f, .int .i64 c])) (h1 : max d 1 = d) (hw : IntKind.i64.wrap d = d) (w : World) :
  Calls Tryz.prog 26 #[.agg #[.int .i64 n, .int .u32 d]] w fun xe w' => xe = .returned (frV x f) ∧ Below w.heap.size w w' := by
 have hL0 : GL w w [] := GL.start w
 replace HF := Lib.hid HF
 obtain ⟨x1, hweq, hL0⟩ := GL.named ((hL0.new rfl [.int .i64 n, .int .u32 d] 59).new (K := w.heap.size + 1) (szA _ _) [.int .u64 0, .string ⟨#[]⟩, .bool false, .int .u64 0, .string ⟨#[]⟩] 47)
 go_enter Tryz.func26, Tryz.ntmps26
 have hN0 := cells_of _ 0 [] rfl (hL0.get _ _ (mK mZ))
 simp only [zF, Nat.reduceAdd] at hN0
 go_wp2_with fail
 clear hN0
 with_reducible refine Calls.mono (HF.out _) ?_
 rintro e x2 ⟨rfl, hb⟩
 replace hL0 := hL0.call hb
 clear hb hweq
 obtain ⟨x3, hweq, hL0⟩ := GL.named (hL0.new rfl [.int .u64 ((zl x : Nat) : Int), .string (zh x), .bool (zs x), .int .u64 ((lo f : Nat) : Int), .string (hs f)] 47)
 have hA := hL0.fc
 simp only [zF, Nat.reduceAdd] at hA
 obtain ⟨x4, hput1, hP⟩ := GL.named (hL0.put 1 (w.heap.size + 1) _ rfl [.int .u64 ((zl x : Nat) : Int), .string (zh x), .bool (zs x), .int .u64 ((lo f : Nat) : Int), .string (hs f)] rfl)
 simp only [setAll] at hput1
 simp only [List.set_cons_zero, List.set_cons_succ] at hP
 have hB1 := hP.fc
 simp only [zF, Nat.reduceAdd] at hB1
 replace hL0 := hP
 go_wp2_with fail
 exact bodyPost_ret (v := frV x f) (by simp [results, Tryz.results26, go_sem, hB1]) rfl ⟨rfl, hL0.bl⟩
theorem qof_any (n d : Int) (a1 : -9223372036854775808 ≤ n) (a2 : n < 9223372036854775808) (b1 : 0 ≤ d) (b2 : d < 4294967296) (w : World) :
  Calls Tryz.prog 26 #[.agg #[.int .i64 n, .int .u32 d]] w fun xe w' => xe = .returned (fracV (qmade n d.toNat)) ∧ Below w.heap.size w w' := by
 by_cases h : d = 0
 ·subst h
  have e : (n : Rat) / ((1 : Int) : Rat) = qmade n 0 := by rw [← of_val_q n 1 (by decide)]; rfl
  have hF := fun w => ofF n 1 a1 a2 (by decide) (by decide) (by decide) w
  rw [e] at hF
  exact qof_zero n _ _ _ hF (by decide) w
 ·have e : (n : Rat) / (d : Rat) = qmade n d.toNat := by
   rw [← of_val_q n d h]
   unfold qmade
   rw [if_neg (by omega), if_neg (by omega), show d.natAbs = d.toNat by omega]
  have hF := fun w => ofF n d a1 a2 (by omega) (by omega) h w
  rw [e] at hF
  exact qof_pos n d _ _ _ hF (by omega) (IntWalk.i64_in _ (by omega)) w
end Go.Proofs.YtkpghlnegbimdaaGreatDoor
namespace Go.Proofs.YtkpghlnegbimdaaGreatDoor
open Go.RowKit
attribute [local irreducible] lo hs sm s64 c64 d64 b64 mh ml pd pc qd qc val hiB str cmpI srD lz nb zl zh zs fe klT ordZ
abbrev RI := Int × Int × Int × Int
def rtC (t : RI) : List Value := [.int .i64 t.1, .int .i64 t.2.1, .int .i64 t.2.2.1, .int .u32 t.2.2.2]
/-- The rows l lie at x. -/
def RS (w : World) (x : Addr) (l : List RI) : Prop := ∀ k (h : k < l.length), w.cell? (x.add (k * 4)) = some (.int .i64 l[k].1) ∧ w.cell? ((x.add (k * 4)).add 1) = some (.int .i64 l[k].2.1) ∧ w.cell? ((x.add (k * 4)).add 2) = some (.int .i64 l[k].2.2.1) ∧ w.cell? ((x.add (k * 4)).add 3) = some (.int .u32 l[k].2.2.2)
def RW8 (w : World) (v : Value) (l : List RI) : Prop := ∃ ao n c, v = .slice ao n c ∧ n = l.length ∧ (0 < n → ∃ x : Addr, ao = some x ∧ x.block < w.heap.size ∧ RS w x l)
theorem add_blk8 (a : Addr) (j : Nat) : (a.add j).block = a.block := by
 unfold Addr.add
 split <;> rfl
theorem RS.below {w w' : World} {x : Addr} {l : List RI} (h : RS w x l) (hg : x.block < w.heap.size) (hb : Below w.heap.size w w') : RS w' x l := fun k hk => by
 have e : ∀ a : Addr, a.block = x.block → w'.cell? a = w.cell? a := fun a ha => World.cell?_of_block (a := a) (by rw [ha]; exact hb.block x.block hg)
 rw [e _ (add_blk8 _ _), e _ (by rw [add_blk8, add_blk8]), e _ (by rw [add_blk8, add_blk8]), e _ (by rw [add_blk8, add_blk8])]; exact h k hk
theorem RW8.below {w w' : World} {v : Value} {l : List RI} (h : RW8 w v l) (hb : Below w.heap.size w w') : RW8 w' v l := by
 obtain ⟨ao, n, c, h1, h2, h3⟩ := h
 refine ⟨ao, n, c, h1, h2, fun h0 => ?_⟩
 obtain ⟨g, e, hg, hs⟩ := h3 h0
 exact ⟨g, e, Nat.lt_of_lt_of_le hg hb.size, hs.below hg hb⟩
theorem RW8.nil (w : World) : RW8 w (.slice none 0 0) [] := ⟨_, _, _, rfl, rfl, fun h => absurd h (Nat.lt_irrefl _)⟩
theorem rt_parts {w : World} {ao : Option Addr} {n c : Nat} {l : List RI} (h : RW8 w (.slice ao n c) l) : n = l.length ∧ (0 < n → ∃ x : Addr, ao = some x ∧ x.block < w.heap.size ∧ RS w x l) := by
 obtain ⟨ao2, n2, c2, e, h2, h3⟩ := h
 simp only [Value.slice.injEq] at e
 obtain ⟨rfl, rfl, rfl⟩ := e
 exact ⟨h2, h3⟩
theorem wp_append8 {w : World} {ops : Array Oper} {rest : List Oper} {o : Oper} {a : Act} {Q : Exit → Act → World → Prop} (hgd : o.guard = none) (s x : Operand)
  (ho : o.op = .call { callee := .builtin .append, args := #[s, x], argTypes := #[25, 25] }) (B : Nat) (v : Value) (n : Nat) (L : List TI) (hs : a.eval s = v) (hown : OwnT w B v n L) (g : Nat) (t : TI) (hx : a.eval x = .slice (some ⟨g, 0, none⟩) 1 1) (hH : Hd w g (tmC t))
  (hn : n ≤ 100000) (hbase : B ≤ w.heap.size)
  (h : ∀ v' w', OwnT w' B v' (n + 1) (L ++ [t]) → w.grownBy w' v.ownBlock → (v'.ownBlock = v.ownBlock ∨ v'.ownBlock = some w.heap.size) → wpList Tryz.prog ops Q rest (a.put o.dst v') w') : wpList Tryz.prog ops Q (o :: rest) a w := by
 obtain ⟨i0, hi, hz1, hz2, hz3⟩ := info_parts infoT
 refine wpList_append_own_at w hgd s x 25 ho B 84 i0 (.agg #[.int .i64 0, .int .i64 0, .int .u64 0, .string ⟨#[]⟩, .bool false, .int .u64 0, .string ⟨#[]⟩]) 7 72 Tryz.underlying25 hi hz1 hz2 hz3 rfl (by decide) v n (tmCs L) hs hown ⟨g, 0, none⟩ 1 1 (tmC t) hx rfl (hd_newsH hH) (tmC_one t) (by unfold maxLen; omega) (by omega) hbase ?_
 intro v' w' h1 h2 _ h4
 refine h v' w' ?_ h2 h4
 unfold OwnT
 rw [tmCs_snoc]; exact h1
theorem lraw_w (l : List RI) (q : RI → Rat) (hl : l.length ≤ 1000) (HQ : ∀ t ∈ l, ∀ w : World, Calls Tryz.prog 26 #[.agg #[.int .i64 t.2.2.1, .int .u32 t.2.2.2]] w fun xe w' => xe = .returned (fracV (q t)) ∧ Below w.heap.size w w')
  (ao : Option Addr) (n c : Nat) (w : World) (hv : RW8 w (.slice ao n c) l) :
  Calls Tryz.prog 9 #[.slice ao n c] w fun xe w' => ∃ v', xe = .returned v' ∧ PT w' v' (l.map fun t => (t.1, t.2.1, q t)) ∧ Below w.heap.size w w' := by
 obtain ⟨hnl, hpp⟩ := rt_parts hv
 obtain ⟨R, hR⟩ : ∃ R, R = l.map fun t => (t.1, t.2.1, q t) := ⟨_, rfl⟩
 rw [← hR]
 have hnb : n ≤ 1000 := by omega
 replace hR := Lib.hid hR
 replace HQ := Lib.hid HQ
 replace hpp := Lib.hid hpp
 replace hnl := Lib.hid hnl
 clear hv hl
 go_enter Tryz.func9, Tryz.ntmps9
 go_wp2_with fail
 go_loopg [3, 4] n (fun gk sv iv wr => ∃ (k : Nat) (zi : Int) (vs : Value), k + gk = n ∧ vs = sv ∧ iv = .int .i64 zi ∧ zi = (k : Int) ∧ OwnT wr w.heap.size vs k (R.take k) ∧ Below w.heap.size w wr)
 case atStart => exact ⟨0, 0, _, Nat.zero_add n, rfl, by first | rfl | go_num, rfl, World.ownsRow_nil _ _ _ _, Below.refl _ _⟩
 case round =>
  obtain ⟨k, zi, vs, hik, rfl, rfl, hzi, hown, hB⟩ := hrel
  replace hown := Lib.hid hown
  rcases Nat.lt_or_ge k n with hin | hin
  ·subst hzi
   have hkl : k < l.length := by rw [← hnl.out]; exact hin
   obtain ⟨x0, rfl, hgl, hrs⟩ := hpp.out (by omega)
   have hgw : x0.block < wr.heap.size := Nat.lt_of_lt_of_le hgl hB.size
   replace hrs := hrs.below hgl hB
   replace hgl := hgw
   obtain ⟨gb, gq, gs, hpk⟩ : ∃ a b c, x0.add (k * 4) = ⟨a, b, c⟩ := ⟨_, _, _, rfl⟩
   have k4 : (k : Int) < (n : Int) := by omega
   have k5 : (0 : Int) ≤ (k : Int) := Int.natCast_nonneg _
   have k6 : ¬ (k : Int) < 0 := by omega
   obtain ⟨ti, tj, tn, td, hlk⟩ : ∃ a b c d, l[k] = (a, b, c, d) := ⟨_, _, _, _, rfl⟩
   have HQ1 := HQ.out _ (List.getElem_mem hkl)
   have hRk : R.take (k + 1) = R.take k ++ [(l[k].1, l[k].2.1, q l[k])] := by rw [hR.out, ← List.map_take, ← List.map_take, List.take_succ_eq_append_getElem hkl, List.map_append]; rfl
   rw [hlk] at HQ1 hRk
   simp only at HQ1 hRk
   generalize q (ti, tj, tn, td) = tq at HQ1 hRk
   replace HQ1 := Lib.hid HQ1
   replace hRk := Lib.hid hRk
   replace hkl := Lib.hid hkl
   replace hrs := Lib.hid hrs
   replace hlk := Lib.hid hlk
   replace hgl := Lib.hid hgl
   have hown3 := Lib.hid hown.out
   clear hown hgw
   have hL0 : GL wr wr [] := GL.start wr
   go_upto_region 5 with fail
   have hS : SS wr [] := SS.nil wr
   refine region_tl 19 [EV vs, EV (.slice (some x0) n c), EV (.int .i64 (k : Int)), EV (.pointer (some ⟨gb, gq, gs⟩)), EV (.pointer (some ⟨gb, gq, gs⟩)), EV (.int .i64 ti), EV (.slice (some x0) n c), EV (.int .i64 (k : Int)), EV (.pointer (some ⟨gb, gq, gs⟩)), EV (.pointer (some ⟨gb, gq + 1, none⟩)), EV (.int .i64 tj), EV (.slice (some x0) n c), EV (.int .i64 (k : Int)), EV (.pointer (some ⟨gb, gq, gs⟩)), EV (.pointer (some ⟨gb, gq + 2, none⟩)), EV (.agg #[.int .i64 tn, .int .u32 td]), EV (.agg #[.int .u64 ((zl tq.num : Nat) : Int), .string (zh tq.num), .bool (zs tq.num), .int .u64 ((lo (fe tq) : Nat) : Int), .string (hs (fe tq))]), EV (.agg #[.int .i64 ti, .int .i64 tj, .int .u64 ((zl tq.num : Nat) : Int), .string (zh tq.num), .bool (zs tq.num), .int .u64 ((lo (fe tq) : Nat) : Int), .string (hs (fe tq))]), NewS (wr.heap.size, [.int .i64 ti, .int .i64 tj, .int .u64 ((zl tq.num : Nat) : Int), .string (zh tq.num), .bool (zs tq.num), .int .u64 ((lo (fe tq) : Nat) : Int), .string (hs (fe tq))], 1)] (by kernel_rfl) (by kernel_rfl) ?_ ?_ ?_
   ·repeat' first | exact stays_nil | apply stays_cons | exact stays_eq _ | exact stays_news _
   ·simp only [List.take_succ_cons, List.take_zero, hopsR, and_true]
    refine ⟨?_, ?_, ?_, ?_, ?_, ?_, ?_, ?_, ?_, ?_, ?_, ?_, ?_, ?_, ?_, ?_, ?_, ?_, ?_⟩ <;> intro fv w1 hb1 hp
    all_goals (simp only [putsV, Act.put, zP, Nat.zero_add, Nat.reduceAdd])
    ·refine tyAt_none rfl ?_
     simp [tyUpon, execOp, go_sem, Act.eval, hpk, k4, k5, k6, Below.refl]
    ·refine tyAt_none rfl ?_
     simp [tyUpon, execOp, go_sem, Act.eval, hpk, k4, k5, k6, Below.refl]
    ·refine tyAt_none rfl ?_
     simp [tyUpon, execOp, go_sem, Act.eval, hpk, k4, k5, k6, Below.refl]
    ·have h1 : EV _ (fv 1) w1 := hp 1 (LC (by kernel_rfl))
     have h2 : EV _ (fv 2) w1 := hp 2 (LC (by kernel_rfl))
     refine tyAt_none rfl ?_
     simp [tyUpon, execOp, go_sem, Act.eval, h1, h2, hpk, k4, k5, k6, Below.refl]
    ·have h3 : EV _ (fv 3) w1 := hp 3 (LC (by kernel_rfl))
     refine tyAt_none rfl ?_
     simp [tyUpon, execOp, go_sem, Act.eval, h3, hpk, k4, k5, k6, Below.refl]
    ·have h4 : EV _ (fv 4) w1 := hp 4 (LC (by kernel_rfl))
     refine tyAt_none rfl ?_
     obtain ⟨hx0, hx1, hx2, hx3⟩ := (hrs.out.below hgl.out (below_drew hb1)) k hkl.out
     rw [hpk] at hx0 hx1 hx2 hx3
     rw [hlk.out] at hx0 hx1 hx2 hx3
     replace hx1 : w1.cell? ⟨gb, gq + 1, none⟩ = _ := hx1
     replace hx2 : w1.cell? ⟨gb, gq + 2, none⟩ = _ := hx2
     replace hx3 : w1.cell? ⟨gb, gq + 3, none⟩ = _ := hx3
     simp only at hx0 hx1 hx2 hx3
     simp [tyUpon, execOp, go_sem, Act.eval, h4, hpk, k4, k5, k6, hx0, hx1, hx2, hx3, Below.refl]
    ·refine tyAt_none rfl ?_
     simp [tyUpon, execOp, go_sem, Act.eval, hpk, k4, k5, k6, Below.refl]
    ·refine tyAt_none rfl ?_
     simp [tyUpon, execOp, go_sem, Act.eval, hpk, k4, k5, k6, Below.refl]
    ·have h6 : EV _ (fv 6) w1 := hp 6 (LC (by kernel_rfl))
     have h7 : EV _ (fv 7) w1 := hp 7 (LC (by kernel_rfl))
     refine tyAt_none rfl ?_
     simp [tyUpon, execOp, go_sem, Act.eval, h6, h7, hpk, k4, k5, k6, Below.refl]
    ·have h8 : EV _ (fv 8) w1 := hp 8 (LC (by kernel_rfl))
     refine tyAt_none rfl ?_
     simp [tyUpon, execOp, go_sem, Act.eval, h8, hpk, k4, k5, k6, Below.refl]
    ·have h9 : EV _ (fv 9) w1 := hp 9 (LC (by kernel_rfl))
     refine tyAt_none rfl ?_
     obtain ⟨hx0, hx1, hx2, hx3⟩ := (hrs.out.below hgl.out (below_drew hb1)) k hkl.out
     rw [hpk] at hx0 hx1 hx2 hx3
     rw [hlk.out] at hx0 hx1 hx2 hx3
     replace hx1 : w1.cell? ⟨gb, gq + 1, none⟩ = _ := hx1
     replace hx2 : w1.cell? ⟨gb, gq + 2, none⟩ = _ := hx2
     replace hx3 : w1.cell? ⟨gb, gq + 3, none⟩ = _ := hx3
     simp only at hx0 hx1 hx2 hx3
     simp [tyUpon, execOp, go_sem, Act.eval, h9, hpk, k4, k5, k6, hx0, hx1, hx2, hx3, Below.refl]
    ·refine tyAt_none rfl ?_
     simp [tyUpon, execOp, go_sem, Act.eval, hpk, k4, k5, k6, Below.refl]
    ·refine tyAt_none rfl ?_
     simp [tyUpon, execOp, go_sem, Act.eval, hpk, k4, k5, k6, Below.refl]
    ·have h11 : EV _ (fv 11) w1 := hp 11 (LC (by kernel_rfl))
     have h12 : EV _ (fv 12) w1 := hp 12 (LC (by kernel_rfl))
     refine tyAt_none rfl ?_
     simp [tyUpon, execOp, go_sem, Act.eval, h11, h12, hpk, k4, k5, k6, Below.refl]
    ·have h13 : EV _ (fv 13) w1 := hp 13 (LC (by kernel_rfl))
     refine tyAt_none rfl ?_
     simp [tyUpon, execOp, go_sem, Act.eval, h13, hpk, k4, k5, k6, Below.refl]
    ·have h14 : EV _ (fv 14) w1 := hp 14 (LC (by kernel_rfl))
     refine tyAt_none rfl ?_
     obtain ⟨hx0, hx1, hx2, hx3⟩ := (hrs.out.below hgl.out (below_drew hb1)) k hkl.out
     rw [hpk] at hx0 hx1 hx2 hx3
     rw [hlk.out] at hx0 hx1 hx2 hx3
     replace hx1 : w1.cell? ⟨gb, gq + 1, none⟩ = _ := hx1
     replace hx2 : w1.cell? ⟨gb, gq + 2, none⟩ = _ := hx2
     replace hx3 : w1.cell? ⟨gb, gq + 3, none⟩ = _ := hx3
     simp only at hx0 hx1 hx2 hx3
     simp [tyUpon, execOp, go_sem, Act.eval, h14, hpk, k4, k5, k6, hx0, hx1, hx2, hx3, Below.refl]
    ·have h15 : EV _ (fv 15) w1 := hp 15 (LC (by kernel_rfl))
     refine tyAt_none rfl ?_
     refine ty_call (f := 26) (args := #[.agg #[.int .i64 tn, .int .u32 td]]) (by simp [execOp, go_sem, Act.eval, h15]) ?_
     exact (HQ1.out w1).mono fun e w2 ⟨h1, h2⟩ => ⟨_, h1, rfl, h2⟩
    ·have h5 : EV _ (fv 5) w1 := hp 5 (LC (by kernel_rfl))
     have h10 : EV _ (fv 10) w1 := hp 10 (LC (by kernel_rfl))
     have h16 : EV _ (fv 16) w1 := hp 16 (LC (by kernel_rfl))
     refine tyAt_none rfl ?_
     simp [tyUpon, execOp, go_sem, Act.eval, h5, h10, h16, hpk, k4, k5, k6, Below.refl]
    ·have h17 : EV _ (fv 17) w1 := hp 17 (LC (by kernel_rfl))
     refine tyAt_none rfl ?_
     refine ty_val8 (u := .slice (some ⟨w1.heap.size, 0, none⟩) 1 1) (w' := w1.alloc (.cells #[.int .i64 ti, .int .i64 tj, .int .u64 ((zl tq.num : Nat) : Int), .string (zh tq.num), .bool (zs tq.num), .int .u64 ((lo (fe tq) : Nat) : Int), .string (hs (fe tq))] 84)) (by simp [execOp, go_sem, Act.eval, h17]) ((Below.refl _ _).alloc (Nat.le_refl _) _) (news_mk (below_drew hb1).size)
   ·intro fv x51 hb1 hv
    have e0 : fv 0 = _ := hv 0 (by omega)
    have e1 : fv 1 = _ := hv 1 (by omega)
    have e2 : fv 2 = _ := hv 2 (by omega)
    have e3 : fv 3 = _ := hv 3 (by omega)
    have e4 : fv 4 = _ := hv 4 (by omega)
    have e5 : fv 5 = _ := hv 5 (by omega)
    have e6 : fv 6 = _ := hv 6 (by omega)
    have e7 : fv 7 = _ := hv 7 (by omega)
    have e8 : fv 8 = _ := hv 8 (by omega)
    have e9 : fv 9 = _ := hv 9 (by omega)
    have e10 : fv 10 = _ := hv 10 (by omega)
    have e11 : fv 11 = _ := hv 11 (by omega)
    have e12 : fv 12 = _ := hv 12 (by omega)
    have e13 : fv 13 = _ := hv 13 (by omega)
    have e14 : fv 14 = _ := hv 14 (by omega)
    have e15 : fv 15 = _ := hv 15 (by omega)
    have e16 : fv 16 = _ := hv 16 (by omega)
    have e17 : fv 17 = _ := hv 17 (by omega)
    have q18 : NewS ((wr.heap.size, [.int .i64 ti, .int .i64 tj, .int .u64 ((zl tq.num : Nat) : Int), .string (zh tq.num), .bool (zs tq.num), .int .u64 ((lo (fe tq) : Nat) : Int), .string (hs (fe tq))], 1)) (fv 18) x51 := hv 18 (by omega)
    obtain ⟨g1, e18, ng1, mg1⟩ := news_parts q18
    rw [e18] at q18
    simp only [List.take_succ_cons, List.take_zero, putsV, Act.put, zP, List.drop_succ_cons, List.drop_zero, Nat.zero_add, Nat.reduceAdd, e0, e1, e2, e3, e4, e5, e6, e7, e8, e9, e10, e11, e12, e13, e14, e15, e16, e17, e18]
    replace hL0 := hL0.call (below_drew hb1)
    replace hS := hS.call (below_drew hb1)
    have hown7 := Lib.hid (ownT_below hown3.out (below_drew hb1))
    have hB7 := Lib.hid (hB.trans ((below_drew hb1).mono hB.size))
    clear e0 e1 e2 e3 e4 e5 e6 e7 e8 e9 e10 e11 e12 e13 e14 e15 e16 e17 e18 hb1 hv q18 fv
    have hH := Lib.hid mg1
    go_wp2_with (at_builtin; refine wp_append8 rfl _ _ rfl _ _ _ _ rfl hown7.out _ (ti, tj, tq) rfl hH.out (by omega) hB7.out.size ?_)
    intro v' w8 hown8 hgrow _
    have hB8 := hB7.out.grown hgrow hB7.out.size (fun j hj => (hown7.out.lt j hj).1)
    rw [← hRk.out] at hown8
    replace hown8 := Lib.hid hown8
    clear hgrow hown7 hB7 hH
    go_wp2_with fail
    go_roundg (n - (k + 1))
    case measure => omega
    case rel => exact ⟨k + 1, _, _, by omega, rfl, by first | rfl | go_num, by omega, hown8.out, hB8⟩
  ·obtain rfl : k = n := by omega
   subst hzi
   have hrl : R.length = k := by rw [hR.out, List.length_map]; exact hnl.out.symm
   rw [List.take_of_length_le (Nat.le_of_eq hrl)] at hown
   have hpt := Lib.hid (ownT_pt hown.out hrl.symm)
   clear hown
   go_wp2_with fail
   exact bodyPost_ret (v := vs) (by simp [results, Tryz.results9, go_sem]) rfl ⟨_, rfl, hpt.out, hB⟩
end Go.Proofs.YtkpghlnegbimdaaGreatDoor
namespace Go.Proofs.YtkpghlnegbimdaaGreatDoor
open Go.RowKit
attribute [local irreducible] lo hs sm s64 c64 d64 b64 mh ml pd pc qd qc val hiB str cmpI srD lz nb zl zh zs fe klT ordZ
theorem infoR8 : (Tryz.prog.info? 89).map (fun i => (i.zero, i.size, i.bytes)) = some (some (.agg #[.int .i64 0, .int .i64 0, .int .i64 0, .int .u32 0]), 4, 32) := by kernel_rfl
def rtCs (l : List RI) : List Value := l.flatMap rtC
theorem rtCs_snoc (l : List RI) (t : RI) : rtCs (l ++ [t]) = rtCs l ++ rtC t := by unfold rtCs; rw [List.flatMap_append]; simp
abbrev OwnR (w : World) (B : Nat) (v : Value) (n : Nat) (l : List RI) : Prop := w.ownsRow B 89 4 v n (rtCs l)
theorem rtCs_get : ∀ (l : List RI) (k : Nat) (h : k < l.length) (i : Nat), i < 4 → (rtCs l)[k * 4 + i]? = (rtC l[k])[i]?
 | t :: l, 0, _, i, hi => by
  unfold rtCs
  rw [List.flatMap_cons, List.getElem?_append_left (by simp [rtC]; omega), Nat.zero_mul, Nat.zero_add]
  rfl
 | t :: l, k + 1, h, i, hi => by
  have := rtCs_get l k (by simpa using h) i hi
  unfold rtCs at this ⊢
  rw [List.flatMap_cons, List.getElem?_append_right (by simp [rtC]; omega)]
  rw [show (k + 1) * 4 + i - (rtC t).length = k * 4 + i by simp [rtC]; omega, this]
  rfl
theorem ownR_below {w w' : World} {B n : Nat} {v : Value} {l : List RI} (h : OwnR w B v n l) (hb : Below w.heap.size w w') : OwnR w' B v n l := by
 refine ⟨h.1, ?_⟩
 rcases h.2 with h1 | ⟨g, cap, cur, h1, h2, h3, h4⟩
 ·exact .inl h1
 ·refine .inr ⟨g, cap, cur, h1, h2, ?_, h4⟩
  have hg := (World.ownsRow.lt h g (by rw [h1]; rfl)).2
  rw [hb.block g hg]; exact h3
theorem ownR_rt {w : World} {B n : Nat} {v : Value} {l : List RI} (h : OwnR w B v n l) (hn : n = l.length) : RW8 w v l := by
 rcases h.2 with ⟨h1, h2⟩ | ⟨g, cap, cur, h1, h2, h3, h4, h5, h6, h7⟩
 ·exact ⟨none, 0, 0, h1, by omega, fun h => absurd h (Nat.lt_irrefl _)⟩
 ·refine ⟨_, _, _, h1, hn, fun _ => ⟨⟨g, 0, none⟩, rfl, (World.ownsRow.lt h g (by rw [h1]; rfl)).2, fun k hk => ?_⟩⟩
  have hc : ∀ i, i < 4 → w.cell? ⟨g, k * 4 + i, none⟩ = (rtC l[k])[i]? := fun i hi => by
   rw [cell_of_row _ _ _ _ _ _ h3, ← rtCs_get l k hk i hi, ← h7, List.getElem?_take]
   rw [if_pos (by omega), Array.getElem?_toList]
  rw [add0H]
  exact ⟨hc 0 (by omega), hc 1 (by omega), hc 2 (by omega), hc 3 (by omega)⟩
theorem wp_appendR {w : World} {ops : Array Oper} {rest : List Oper} {o : Oper} {a : Act} {Q : Exit → Act → World → Prop} (hgd : o.guard = none) (s x : Operand)
  (ho : o.op = .call { callee := .builtin .append, args := #[s, x], argTypes := #[22, 22] }) (B : Nat) (v : Value) (n : Nat) (L : List RI) (hs : a.eval s = v) (hown : OwnR w B v n L) (g : Nat) (t : RI) (hx : a.eval x = .slice (some ⟨g, 0, none⟩) 1 1) (hH : Hd w g (rtC t))
  (hn : n ≤ 100000) (hbase : B ≤ w.heap.size)
  (h : ∀ v' w', OwnR w' B v' (n + 1) (L ++ [t]) → w.grownBy w' v.ownBlock → wpList Tryz.prog ops Q rest (a.put o.dst v') w') : wpList Tryz.prog ops Q (o :: rest) a w := by
 obtain ⟨i0, hi, hz1, hz2, hz3⟩ := info_parts infoR8
 refine wpList_append_own w hgd s x 22 ho B 89 i0 (.agg #[.int .i64 0, .int .i64 0, .int .i64 0, .int .u32 0]) 4 32 Tryz.underlying22 hi hz1 hz2 hz3 rfl (by decide) v n (rtCs L) hs hown ⟨g, 0, none⟩ 1 1 (rtC t) hx rfl (hd_newsH hH) (fun u hu => by simp only [rtC, List.mem_cons, List.not_mem_nil, or_false] at hu; rcases hu with rfl | rfl | rfl | rfl <;> rfl) (by unfold maxLen; omega) (by omega) hbase ?_
 intro v' w' h1 h2 _
 refine h v' w' ?_ h2
 unfold OwnR
 rw [rtCs_snoc]; exact h1
/-- The exponents of a term brought to a degree. -/
def upI (D : Nat) (i : Int) : Int := (i % 18446744073709551616) % ((D : Int) + 1)
def brI (D : Nat) (t : RI) : RI := (upI D t.1, (t.2.1 % 18446744073709551616) % ((D : Int) - upI D t.1 + 1), t.2.2)
theorem lbr_w (l : List RI) (D : Nat) (hD : D ≤ 12) (hl : l.length ≤ 1000)
  (ao : Option Addr) (n c : Nat) (w : World) (hv : RW8 w (.slice ao n c) l) :
  Calls Tryz.prog 65 #[.slice ao n c, .int .i64 (D : Int)] w fun xe w' => ∃ v', xe = .returned v' ∧ RW8 w' v' (l.map (brI D)) ∧ Below w.heap.size w w' := by
 obtain ⟨hnl, hpp⟩ := rt_parts hv
 obtain ⟨R, hR⟩ : ∃ R, R = l.map (brI D) := ⟨_, rfl⟩
 rw [← hR]
 have hnb : n ≤ 1000 := by omega
 replace hR := Lib.hid hR
 replace hpp := Lib.hid hpp
 replace hnl := Lib.hid hnl
 have kD : (D : Int) ≤ 12 := by omega
 have kD0 : (0 : Int) ≤ (D : Int) := by omega
 clear hv hl hD
 go_enter Tryz.func65, Tryz.ntmps65
 go_wp2_with fail
 go_loopg [5, 6] n (fun gk sv iv wr => ∃ (k : Nat) (zi : Int) (vs : Value), k + gk = n ∧ vs = sv ∧ iv = .int .i64 zi ∧ zi = (k : Int) ∧ OwnR wr w.heap.size vs k (R.take k) ∧ Below w.heap.size w wr)
 case atStart => exact ⟨0, 0, _, Nat.zero_add n, rfl, by first | rfl | go_num, rfl, World.ownsRow_nil _ _ _ _, Below.refl _ _⟩
 case round =>
  obtain ⟨k, zi, vs, hik, rfl, rfl, hzi, hown, hB⟩ := hrel
  replace hown := Lib.hid hown
  rcases Nat.lt_or_ge k n with hin | hin
  ·subst hzi
   have hkl : k < l.length := by rw [← hnl.out]; exact hin
   obtain ⟨x0, rfl, hgl, hrs⟩ := hpp.out (by omega)
   have hgw : x0.block < wr.heap.size := Nat.lt_of_lt_of_le hgl hB.size
   replace hrs := hrs.below hgl hB
   replace hgl := hgw
   obtain ⟨gb, gq, gs, hpk⟩ : ∃ a b c, x0.add (k * 4) = ⟨a, b, c⟩ := ⟨_, _, _, rfl⟩
   have k4 : (k : Int) < (n : Int) := by omega
   have k5 : (0 : Int) ≤ (k : Int) := Int.natCast_nonneg _
   have k6 : ¬ (k : Int) < 0 := by omega
   obtain ⟨ti, tj, tn, td, hlk⟩ : ∃ a b c d, l[k] = (a, b, c, d) := ⟨_, _, _, _, rfl⟩
   have hRk : R.take (k + 1) = R.take k ++ [brI D l[k]] := by rw [hR.out, ← List.map_take, ← List.map_take, List.take_succ_eq_append_getElem hkl, List.map_append]; rfl
   obtain ⟨hx0, hx1, hx2, hx3⟩ := hrs k hkl
   rw [hpk] at hx0 hx1 hx2 hx3
   rw [hlk] at hx0 hx1 hx2 hx3 hRk
   replace hx1 : wr.cell? ⟨gb, gq + 1, none⟩ = _ := hx1
   replace hx2 : wr.cell? ⟨gb, gq + 2, none⟩ = _ := hx2
   replace hx3 : wr.cell? ⟨gb, gq + 3, none⟩ = _ := hx3
   simp only at hx0 hx1 hx2 hx3
   have a0 : 0 ≤ ti % 18446744073709551616 % ((D : Int) + 1) := Int.emod_nonneg _ (by omega)
   have a1 : ti % 18446744073709551616 % ((D : Int) + 1) < (D : Int) + 1 := Int.emod_lt_of_pos _ (by omega)
   have a2 : wrap64 (ti % 18446744073709551616 % ((D : Int) + 1)) = ti % 18446744073709551616 % ((D : Int) + 1) := by
    generalize ti % 18446744073709551616 % ((D : Int) + 1) = z at a0 a1
    simp [wrap64]; omega
   have a3 : wrap64 ((IntKind.u64.wrap ti).tmod ((D : Int) + 1)) = ti % 18446744073709551616 % ((D : Int) + 1) := by
    have u1 : IntKind.u64.wrap ti = ti % 18446744073709551616 := by simp [IntKind.wrap, IntKind.bits, IntKind.signed]
    rw [u1, Int.tmod_eq_emod_of_nonneg (Int.emod_nonneg _ (by decide)), a2]
   have f12 : IntKind.u64.wrap tj = tj % 18446744073709551616 := by simp [IntKind.wrap, IntKind.bits, IntKind.signed]
   replace a2 := Lib.hid a2
   replace a3 := Lib.hid a3
   replace f12 := Lib.hid f12
   have hown3 := Lib.hid hown.out
   have hL0 : GL wr wr [] := GL.start wr
   replace hkl := Lib.hid hkl
   replace hrs := Lib.hid hrs
   replace hlk := Lib.hid hlk
   replace hgl := Lib.hid hgl
   replace hRk := Lib.hid hRk
   clear hown hgw
   go_upto_region 6 with fail
   first | rw [a3.out] | rw [a2.out] | skip
   replace f12 := f12.out
   have hbr : brI D (ti, tj, tn, td) = (upI D ti, (tj % 18446744073709551616) % ((D : Int) - upI D ti + 1), tn, td) := rfl
   rw [show upI D ti = ti % 18446744073709551616 % ((D : Int) + 1) from rfl] at hbr
   clear a2 a3
   generalize ti % 18446744073709551616 % ((D : Int) + 1) = ai at a0 a1 hbr ⊢
   obtain ⟨d1, hd1⟩ : ∃ d1, d1 = (D : Int) - ai := ⟨_, rfl⟩
   obtain ⟨d2, hd2⟩ : ∃ d2, d2 = d1 + 1 := ⟨_, rfl⟩
   rw [← hd1, ← hd2] at hbr
   have f1 : IntKind.i64.wrap ((D : Int) - ai) = d1 := by rw [hd1]; simp [IntKind.wrap, IntKind.bits, IntKind.signed]; omega
   have f2 : wrap64 ((D : Int) - ai) = d1 := by rw [hd1]; simp [wrap64]; omega
   have f3 : IntKind.i64.wrap (d1 + 1) = d2 := by rw [hd2]; simp [IntKind.wrap, IntKind.bits, IntKind.signed]; omega
   have f4 : wrap64 (d1 + 1) = d2 := by rw [hd2]; simp [wrap64]; omega
   have f5 : IntKind.u64.wrap d2 = d2 := by simp [IntKind.wrap, IntKind.bits, IntKind.signed]; omega
   have f6 : d2 % 18446744073709551616 = d2 := by omega
   have f7 : ¬ d2 = 0 := by omega
   have b0 : 0 ≤ tj % 18446744073709551616 % d2 := Int.emod_nonneg _ f7
   have b1 : tj % 18446744073709551616 % d2 < d2 := Int.emod_lt_of_pos _ (by omega)
   have bm : 0 ≤ tj % 18446744073709551616 := Int.emod_nonneg _ (by decide)
   have f8 : (tj % 18446744073709551616).tmod d2 = tj % 18446744073709551616 % d2 := Int.tmod_eq_emod_of_nonneg bm
   obtain ⟨bi, hbi⟩ : ∃ bi, bi = tj % 18446744073709551616 % d2 := ⟨_, rfl⟩
   rw [← hbi] at b0 b1 f8 hbr
   have f9 : IntKind.i64.wrap bi = bi := by simp [IntKind.wrap, IntKind.bits, IntKind.signed]; omega
   have f10 : wrap64 bi = bi := by simp [wrap64]; omega
   have f11 : tj % 18446744073709551616 % d2 = bi := hbi.symm
   replace hbr := Lib.hid hbr
   replace hd1 := Lib.hid hd1
   replace hd2 := Lib.hid hd2
   replace hbi := Lib.hid hbi
   have hS : SS wr [] := SS.nil wr
   refine region_tl 22 [EV vs, EV (.int .i64 ai), EV (.slice (some x0) n c), EV (.int .i64 (k : Int)), EV (.pointer (some ⟨gb, gq, gs⟩)), EV (.pointer (some ⟨gb, gq + 1, none⟩)), EV (.int .i64 tj), EV (.int .u64 (tj % 18446744073709551616)), EV (.int .i64 (D : Int)), EV (.int .i64 ai), EV (.int .i64 d1), EV (.int .i64 d2), EV (.int .u64 d2), EV (.int .u64 bi), EV (.int .i64 bi), EV (.slice (some x0) n c), EV (.int .i64 (k : Int)), EV (.pointer (some ⟨gb, gq, gs⟩)), EV (.pointer (some ⟨gb, gq + 2, none⟩)), EV (.agg #[.int .i64 tn, .int .u32 td]), EV (.agg #[.int .i64 ai, .int .i64 bi, .int .i64 tn, .int .u32 td]), NewS (wr.heap.size, [.int .i64 ai, .int .i64 bi, .int .i64 tn, .int .u32 td], 1)] (by kernel_rfl) (by kernel_rfl) ?_ ?_ ?_
   ·repeat' first | exact stays_nil | apply stays_cons | exact stays_eq _ | exact stays_news _
   ·simp only [List.take_succ_cons, List.take_zero, hopsR, and_true]
    refine ⟨?_, ?_, ?_, ?_, ?_, ?_, ?_, ?_, ?_, ?_, ?_, ?_, ?_, ?_, ?_, ?_, ?_, ?_, ?_, ?_, ?_, ?_⟩ <;> intro fv w1 hb1 hp
    all_goals (simp only [putsV, Act.put, zP, Nat.zero_add, Nat.reduceAdd])
    ·refine tyAt_none rfl ?_
     simp [tyUpon, execOp, go_sem, Act.eval, hpk, k4, k5, k6, f1, f2, f3, f4, f5, f6, f7, f8, f9, f10, f11, f12, Below.refl]
    ·refine tyAt_none rfl ?_
     simp [tyUpon, execOp, go_sem, Act.eval, hpk, k4, k5, k6, f1, f2, f3, f4, f5, f6, f7, f8, f9, f10, f11, f12, Below.refl]
    ·refine tyAt_none rfl ?_
     simp [tyUpon, execOp, go_sem, Act.eval, hpk, k4, k5, k6, f1, f2, f3, f4, f5, f6, f7, f8, f9, f10, f11, f12, Below.refl]
    ·refine tyAt_none rfl ?_
     simp [tyUpon, execOp, go_sem, Act.eval, hpk, k4, k5, k6, f1, f2, f3, f4, f5, f6, f7, f8, f9, f10, f11, f12, Below.refl]
    ·have h2 : EV _ (fv 2) w1 := hp 2 (LC (by kernel_rfl))
     have h3 : EV _ (fv 3) w1 := hp 3 (LC (by kernel_rfl))
     refine tyAt_none rfl ?_
     simp [tyUpon, execOp, go_sem, Act.eval, h2, h3, hpk, k4, k5, k6, f1, f2, f3, f4, f5, f6, f7, f8, f9, f10, f11, f12, Below.refl]
    ·have h4 : EV _ (fv 4) w1 := hp 4 (LC (by kernel_rfl))
     refine tyAt_none rfl ?_
     simp [tyUpon, execOp, go_sem, Act.eval, h4, hpk, k4, k5, k6, f1, f2, f3, f4, f5, f6, f7, f8, f9, f10, f11, f12, Below.refl]
    ·have h5 : EV _ (fv 5) w1 := hp 5 (LC (by kernel_rfl))
     refine tyAt_none rfl ?_
     obtain ⟨hx0, hx1, hx2, hx3⟩ := (hrs.out.below hgl.out (below_drew hb1)) k hkl.out
     rw [hpk] at hx0 hx1 hx2 hx3
     rw [hlk.out] at hx0 hx1 hx2 hx3
     replace hx1 : w1.cell? ⟨gb, gq + 1, none⟩ = _ := hx1
     replace hx2 : w1.cell? ⟨gb, gq + 2, none⟩ = _ := hx2
     replace hx3 : w1.cell? ⟨gb, gq + 3, none⟩ = _ := hx3
     simp only at hx0 hx1 hx2 hx3
     simp [tyUpon, execOp, go_sem, Act.eval, h5, hpk, k4, k5, k6, f1, f2, f3, f4, f5, f6, f7, f8, f9, f10, f11, f12, hx0, hx1, hx2, hx3, Below.refl]
    ·have h6 : EV _ (fv 6) w1 := hp 6 (LC (by kernel_rfl))
     refine tyAt_none rfl ?_
     simp [tyUpon, execOp, go_sem, Act.eval, h6, hpk, k4, k5, k6, f1, f2, f3, f4, f5, f6, f7, f8, f9, f10, f11, f12, Below.refl]
    ·refine tyAt_none rfl ?_
     simp [tyUpon, execOp, go_sem, Act.eval, hpk, k4, k5, k6, f1, f2, f3, f4, f5, f6, f7, f8, f9, f10, f11, f12, Below.refl]
    ·refine tyAt_none rfl ?_
     simp [tyUpon, execOp, go_sem, Act.eval, hpk, k4, k5, k6, f1, f2, f3, f4, f5, f6, f7, f8, f9, f10, f11, f12, Below.refl]
    ·have h8 : EV _ (fv 8) w1 := hp 8 (LC (by kernel_rfl))
     have h9 : EV _ (fv 9) w1 := hp 9 (LC (by kernel_rfl))
     refine tyAt_none rfl ?_
     simp [tyUpon, execOp, go_sem, Act.eval, h8, h9, hpk, k4, k5, k6, f1, f2, f3, f4, f5, f6, f7, f8, f9, f10, f11, f12, Below.refl]
    ·have h10 : EV _ (fv 10) w1 := hp 10 (LC (by kernel_rfl))
     refine tyAt_none rfl ?_
     simp [tyUpon, execOp, go_sem, Act.eval, h10, hpk, k4, k5, k6, f1, f2, f3, f4, f5, f6, f7, f8, f9, f10, f11, f12, Below.refl]
    ·have h11 : EV _ (fv 11) w1 := hp 11 (LC (by kernel_rfl))
     refine tyAt_none rfl ?_
     simp [tyUpon, execOp, go_sem, Act.eval, h11, hpk, k4, k5, k6, f1, f2, f3, f4, f5, f6, f7, f8, f9, f10, f11, f12, Below.refl]
    ·have h7 : EV _ (fv 7) w1 := hp 7 (LC (by kernel_rfl))
     have h12 : EV _ (fv 12) w1 := hp 12 (LC (by kernel_rfl))
     refine tyAt_none rfl ?_
     simp [tyUpon, execOp, go_sem, Act.eval, h7, h12, hpk, k4, k5, k6, f1, f2, f3, f4, f5, f6, f7, f8, f9, f10, f11, f12, Below.refl]
    ·have h13 : EV _ (fv 13) w1 := hp 13 (LC (by kernel_rfl))
     refine tyAt_none rfl ?_
     simp [tyUpon, execOp, go_sem, Act.eval, h13, hpk, k4, k5, k6, f1, f2, f3, f4, f5, f6, f7, f8, f9, f10, f11, f12, Below.refl]
    ·refine tyAt_none rfl ?_
     simp [tyUpon, execOp, go_sem, Act.eval, hpk, k4, k5, k6, f1, f2, f3, f4, f5, f6, f7, f8, f9, f10, f11, f12, Below.refl]
    ·refine tyAt_none rfl ?_
     simp [tyUpon, execOp, go_sem, Act.eval, hpk, k4, k5, k6, f1, f2, f3, f4, f5, f6, f7, f8, f9, f10, f11, f12, Below.refl]
    ·have h15 : EV _ (fv 15) w1 := hp 15 (LC (by kernel_rfl))
     have h16 : EV _ (fv 16) w1 := hp 16 (LC (by kernel_rfl))
     refine tyAt_none rfl ?_
     simp [tyUpon, execOp, go_sem, Act.eval, h15, h16, hpk, k4, k5, k6, f1, f2, f3, f4, f5, f6, f7, f8, f9, f10, f11, f12, Below.refl]
    ·have h17 : EV _ (fv 17) w1 := hp 17 (LC (by kernel_rfl))
     refine tyAt_none rfl ?_
     simp [tyUpon, execOp, go_sem, Act.eval, h17, hpk, k4, k5, k6, f1, f2, f3, f4, f5, f6, f7, f8, f9, f10, f11, f12, Below.refl]
    ·have h18 : EV _ (fv 18) w1 := hp 18 (LC (by kernel_rfl))
     refine tyAt_none rfl ?_
     obtain ⟨hx0, hx1, hx2, hx3⟩ := (hrs.out.below hgl.out (below_drew hb1)) k hkl.out
     rw [hpk] at hx0 hx1 hx2 hx3
     rw [hlk.out] at hx0 hx1 hx2 hx3
     replace hx1 : w1.cell? ⟨gb, gq + 1, none⟩ = _ := hx1
     replace hx2 : w1.cell? ⟨gb, gq + 2, none⟩ = _ := hx2
     replace hx3 : w1.cell? ⟨gb, gq + 3, none⟩ = _ := hx3
     simp only at hx0 hx1 hx2 hx3
     simp [tyUpon, execOp, go_sem, Act.eval, h18, hpk, k4, k5, k6, f1, f2, f3, f4, f5, f6, f7, f8, f9, f10, f11, f12, hx0, hx1, hx2, hx3, Below.refl]
    ·have h1 : EV _ (fv 1) w1 := hp 1 (LC (by kernel_rfl))
     have h14 : EV _ (fv 14) w1 := hp 14 (LC (by kernel_rfl))
     have h19 : EV _ (fv 19) w1 := hp 19 (LC (by kernel_rfl))
     refine tyAt_none rfl ?_
     simp [tyUpon, execOp, go_sem, Act.eval, h1, h14, h19, hpk, k4, k5, k6, f1, f2, f3, f4, f5, f6, f7, f8, f9, f10, f11, f12, Below.refl]
    ·have h20 : EV _ (fv 20) w1 := hp 20 (LC (by kernel_rfl))
     refine tyAt_none rfl ?_
     refine ty_val8 (u := .slice (some ⟨w1.heap.size, 0, none⟩) 1 1) (w' := w1.alloc (.cells #[.int .i64 ai, .int .i64 bi, .int .i64 tn, .int .u32 td] 89)) (by simp [execOp, go_sem, Act.eval, h20]) ((Below.refl _ _).alloc (Nat.le_refl _) _) (news_mk (below_drew hb1).size)
   ·intro fv x51 hb1 hv
    have e0 : fv 0 = _ := hv 0 (by omega)
    have e1 : fv 1 = _ := hv 1 (by omega)
    have e2 : fv 2 = _ := hv 2 (by omega)
    have e3 : fv 3 = _ := hv 3 (by omega)
    have e4 : fv 4 = _ := hv 4 (by omega)
    have e5 : fv 5 = _ := hv 5 (by omega)
    have e6 : fv 6 = _ := hv 6 (by omega)
    have e7 : fv 7 = _ := hv 7 (by omega)
    have e8 : fv 8 = _ := hv 8 (by omega)
    have e9 : fv 9 = _ := hv 9 (by omega)
    have e10 : fv 10 = _ := hv 10 (by omega)
    have e11 : fv 11 = _ := hv 11 (by omega)
    have e12 : fv 12 = _ := hv 12 (by omega)
    have e13 : fv 13 = _ := hv 13 (by omega)
    have e14 : fv 14 = _ := hv 14 (by omega)
    have e15 : fv 15 = _ := hv 15 (by omega)
    have e16 : fv 16 = _ := hv 16 (by omega)
    have e17 : fv 17 = _ := hv 17 (by omega)
    have e18 : fv 18 = _ := hv 18 (by omega)
    have e19 : fv 19 = _ := hv 19 (by omega)
    have e20 : fv 20 = _ := hv 20 (by omega)
    have q21 : NewS ((wr.heap.size, [.int .i64 ai, .int .i64 bi, .int .i64 tn, .int .u32 td], 1)) (fv 21) x51 := hv 21 (by omega)
    obtain ⟨g1, e21, ng1, mg1⟩ := news_parts q21
    rw [e21] at q21
    simp only [List.take_succ_cons, List.take_zero, putsV, Act.put, zP, List.drop_succ_cons, List.drop_zero, Nat.zero_add, Nat.reduceAdd, e0, e1, e2, e3, e4, e5, e6, e7, e8, e9, e10, e11, e12, e13, e14, e15, e16, e17, e18, e19, e20, e21]
    replace hL0 := hL0.call (below_drew hb1)
    replace hS := hS.call (below_drew hb1)
    have hown7 := Lib.hid (ownR_below hown3.out (below_drew hb1))
    have hB7 := Lib.hid (hB.trans ((below_drew hb1).mono hB.size))
    clear e0 e1 e2 e3 e4 e5 e6 e7 e8 e9 e10 e11 e12 e13 e14 e15 e16 e17 e18 e19 e20 e21 hb1 hv q21 fv
    have hH := Lib.hid mg1
    go_wp2_with (at_builtin; refine wp_appendR rfl _ _ rfl _ _ _ _ rfl hown7.out _ (ai, bi, tn, td) rfl hH.out (by omega) hB7.out.size ?_)
    intro v' w8 hown8 hgrow
    have hB8 := hB7.out.grown hgrow hB7.out.size (fun j hj => (World.ownsRow.lt hown7.out j hj).1)
    rw [← hbr.out, ← hRk.out] at hown8
    replace hown8 := Lib.hid hown8
    clear hgrow hown7 hB7 hH
    go_wp2_with fail
    go_roundg (n - (k + 1))
    case measure => omega
    case rel => exact ⟨k + 1, _, _, by omega, rfl, by first | rfl | go_num, by omega, hown8.out, hB8⟩
  ·obtain rfl : k = n := by omega
   subst hzi
   have hrl : R.length = k := by rw [hR.out, List.length_map]; exact hnl.out.symm
   rw [List.take_of_length_le (Nat.le_of_eq hrl)] at hown
   have hpt := Lib.hid (ownR_rt hown.out hrl.symm)
   clear hown
   go_wp2_with fail
   exact bodyPost_ret (v := vs) (by simp [results, Tryz.results65, go_sem]) rfl ⟨_, rfl, hpt.out, hB⟩
end Go.Proofs.YtkpghlnegbimdaaGreatDoor
namespace Go.Proofs.YtkpghlnegbimdaaGreatDoor
open Go.RowKit
attribute [local irreducible] lo hs sm s64 c64 d64 b64 mh ml pd pc qd qc val hiB str cmpI srD lz nb zl zh zs fe klT ordZ
theorem madeG (l : List RI) (D : Nat) (hD : D ≤ 12) (hl : l.length ≤ 1000) (q : RI → Rat) (HQ : ∀ t ∈ l.map (brI D), ∀ w : World, Calls Tryz.prog 26 #[.agg #[.int .i64 t.2.2.1, .int .u32 t.2.2.2]] w fun xe w' => xe = .returned (fracV (q t)) ∧ Below w.heap.size w w')
  (K : Nat) (hs : VdL ((l.map (brI D)).map fun t => (t.1, t.2.1, q t)) → SzL (toL ((l.map (brI D)).map fun t => (t.1, t.2.1, q t))) K) (hK : K ≤ 1000000) (ao : Option Addr) (n c : Nat) (w : World) (hv : RW8 w (.slice ao n c) l) :
  Calls Tryz.prog 22 #[.slice ao n c, .int .i64 (D : Int)] w fun xe w' => ∃ v', xe = .returned v' ∧ PT w' v' (ofL (nrm ((l.map (brI D)).map fun t => (t.1, t.2.1, q t)))) ∧ Below w.heap.size w w' := by
 have HB := Lib.hid (fun w hv => lbr_w l D hD hl ao n c w hv)
 have HR := Lib.hid (fun ao n c w hv => lraw_w (l.map (brI D)) q (by rw [List.length_map]; exact hl) HQ ao n c w hv)
 have HO := Lib.hid (fun v w hv => ofP ((l.map (brI D)).map fun t => (t.1, t.2.1, q t)) K hs hK (by rw [List.length_map, List.length_map]; omega) w v hv)
 generalize l.map (brI D) = m at *
 generalize m.map (fun t => (t.1, t.2.1, q t)) = R at *
 generalize errL R = e0 at *
 clear HQ hs
 replace hv := Lib.hid hv
 go_enter Tryz.func22, Tryz.ntmps22
 go_wp2_with fail
 with_reducible refine Calls.mono (HB.out w hv.out) ?_
 rintro e y1 ⟨v1, rfl, h1, hb1⟩
 obtain ⟨ao1, n1, c1, rfl, -⟩ := id h1
 replace h1 := Lib.hid h1
 replace hb1 := Lib.hid hb1
 go_wp2_with fail
 with_reducible refine Calls.mono (HR.out _ _ _ y1 h1.out) ?_
 rintro e y2 ⟨v2, rfl, h2, hb2⟩
 obtain ⟨ao2, n2, c2, rfl, -⟩ := pt_form h2
 replace h2 := Lib.hid h2
 replace hb2 := Lib.hid (hb1.out.trans (hb2.mono hb1.out.size))
 clear h1 hb1
 go_wp2_with fail
 with_reducible refine Calls.mono (HO.out _ y2 h2.out) ?_
 rintro e y3 ⟨v3, rfl, h3, hb3⟩
 obtain ⟨ao3, n3, c3, rfl, -⟩ := pt_form h3
 replace h3 := Lib.hid h3
 replace hb3 := Lib.hid (hb2.out.trans (hb3.mono hb2.out.size))
 clear h2 hb2
 go_wp2_with fail
 exact bodyPost_ret (v := .slice ao3 n3 c3) (by simp [results, Tryz.results22, go_sem]) rfl ⟨_, rfl, h3.out, hb3.out⟩
end Go.Proofs.YtkpghlnegbimdaaGreatDoor
namespace Go.Proofs.YtkpghlnegbimdaaGreatDoor
open Go.RowKit
attribute [local irreducible] lo hs sm s64 c64 d64 b64 mh ml pd pc qd qc val hiB str cmpI srD lz nb zl zh zs fe klT ordZ
/-- Terms as Go holds them. -/
def RO (l : List RI) : Prop := ∀ t ∈ l, (-9223372036854775808 ≤ t.2.2.1 ∧ t.2.2.1 < 9223372036854775808) ∧ 0 ≤ t.2.2.2 ∧ t.2.2.2 < 4294967296
def qR (t : RI) : Rat := qmade t.2.2.1 t.2.2.2.toNat
def madeL (l : List RI) (D : Nat) : List TI := (l.map (brI D)).map fun t => (t.1, t.2.1, qR t)
theorem szl_len {k : Nat} : ∀ l : TL, (∀ t ∈ l, Sz t.2.2 k) → SzL l (l.length * (k + 1) + 1)
 | [], _ => SzL.nil _ (by omega)
 | (i, j, q) :: l, h => by
  have h1 := szl_len l (fun t ht => h t (mK ht))
  have h2 := h _ mZ
  refine (SzL.cons h2 h1).mono ?_
  rw [List.length_cons, Nat.succ_mul]; omega
theorem upI_in (D : Nat) (i : Int) : 0 ≤ upI D i ∧ upI D i ≤ D := by
 unfold upI
 have h1 : 0 ≤ i % 18446744073709551616 % ((D : Int) + 1) := Int.emod_nonneg _ (by omega)
 have h2 : i % 18446744073709551616 % ((D : Int) + 1) < (D : Int) + 1 := Int.emod_lt_of_pos _ (by omega)
 omega
theorem brI_in (D : Nat) (t : RI) : 0 ≤ (brI D t).1 ∧ 0 ≤ (brI D t).2.1 ∧ (brI D t).1 + (brI D t).2.1 ≤ (D : Int) := by
 obtain ⟨h1, h2⟩ := upI_in D t.1
 unfold brI
 simp only
 generalize upI D t.1 = u at h1 h2 ⊢
 have h3 : 0 ≤ t.2.1 % 18446744073709551616 % ((D : Int) - u + 1) := Int.emod_nonneg _ (by omega)
 have h4 : t.2.1 % 18446744073709551616 % ((D : Int) - u + 1) < (D : Int) - u + 1 := Int.emod_lt_of_pos _ (by omega)
 omega
theorem made_szl {l : List RI} (hr : RO l) (hl : l.length ≤ 8) (D : Nat) : SzL (toL (madeL l D)) 17 := by
 refine (szl_len (k := 1) (toL (madeL l D)) fun t ht => ?_).mono (by unfold madeL toL; rw [List.length_map, List.length_map, List.length_map]; omega)
 unfold madeL toL at ht
 obtain ⟨u, hu, rfl⟩ := List.mem_map.1 ht
 obtain ⟨v, hv, rfl⟩ := List.mem_map.1 hu
 obtain ⟨x, hx, rfl⟩ := List.mem_map.1 hv
 have h := hr x hx
 exact qmade_sz _ _ h.1.1 h.1.2 (by obtain ⟨_, _, _⟩ := h; show x.2.2.2.toNat < 4294967296; omega)
theorem made_gp {l : List RI} (hr : RO l) (hl : l.length ≤ 8) {D : Nat} (hD : D ≤ 12) : GP (nrm (madeL l D)) D 17 :=
 nrm_gp (fun t ht => by
  unfold madeL at ht
  obtain ⟨v, hv, rfl⟩ := List.mem_map.1 ht
  obtain ⟨x, hx, rfl⟩ := List.mem_map.1 hv
  exact brI_in D x) hD (made_szl hr hl D)
theorem made_any {l : List RI} (hr : RO l) (hl : l.length ≤ 8) {D : Nat} (hD : D ≤ 12) (ao : Option Addr) (n c : Nat) (w : World) (hv : RW8 w (.slice ao n c) l) :
  Calls Tryz.prog 22 #[.slice ao n c, .int .i64 (D : Int)] w fun xe w' => ∃ v', xe = .returned v' ∧ PT w' v' (ofL (nrm (madeL l D))) ∧ Below w.heap.size w w' :=
 madeG l D hD (by omega) qR (fun t ht w => by
  obtain ⟨x, hx, rfl⟩ := List.mem_map.1 ht
  have h := hr x hx
  exact qof_any _ _ h.1.1 h.1.2 h.2.1 h.2.2 w) 17 (fun _ => made_szl hr hl D) (by omega) ao n c w hv
theorem rtKeeps (v : Value) (l : List RI) : Keeps (fun w => RW8 w v l) := fun _ _ hb h => h.below hb
theorem addN_eqv (p q : TL) : Eqv (addN p q) (p ++ q) := nfL_eqv _
theorem dxN_eqv (p : TL) : Eqv (dxN p) (dxL p) := nfL_eqv _
theorem dyN_eqv (p : TL) : Eqv (dyN p) (dyL p) := nfL_eqv _
theorem mixed (p : TL) : dxN (dyN p) = dyN (dxN p) :=
 nf_uniq (nfL_nf _) (nfL_nf _) ((dxN_eqv _).trans ((dx_eqv (dyN_eqv p)).trans ((dx_dy p).trans (Eqv.symm ((dyN_eqv _).trans (dy_eqv (dxN_eqv p)))))))
end Go.Proofs.YtkpghlnegbimdaaGreatDoor
namespace Go.Proofs.YtkpghlnegbimdaaGreatDoor
open Go.ChangeShapes Go.WideShapes Go.ChangeAt Go.RowKit
theorem own : ownKnob Tryz.prog.godebug = none := by kernel_rfl
theorem laidOut : laidOutB Tryz.prog = true := by kernel_rfl
theorem cells24 : Tryz.prog.cellsOf 41 = 1 := by kernel_rfl
/-- The variables that every row of this layer lists. -/
def laidAll : List (String × DataW Unit) := [("math/bits.deBruijn32tab", Rows.laid_math_bits_deBruijn32tab), ("math/bits.deBruijn64tab", Rows.laid_math_bits_deBruijn64tab), ("internal/strconv.uint64pow10", Rows.laid_internal_strconv_uint64pow10)]
theorem gPow : Tryz.prog.globalNamed "internal/strconv.uint64pow10" = some 3 := by kernel_rfl
theorem gPowType : (Tryz.prog.globals[3]?).map (·.type) = some 260 := by kernel_rfl
theorem cells20 : Tryz.prog.cellsOf 260 = 20 := by kernel_rfl
theorem tab_of {W : World} (h : laidMetH Tryz.prog laidAll W) : Tab W := by
 have h1 := laidMetH.filter (fun x => x.1 == "internal/strconv.uint64pow10") h
 have e : laidAll.filter (fun x => x.1 == "internal/strconv.uint64pow10") = [("internal/strconv.uint64pow10", Rows.laid_internal_strconv_uint64pow10)] := by kernel_rfl
 rw [e, MakeChecks.laidMetH_plain _ _ _ (by kernel_rfl)] at h1
 exact Lib.tabIs_of_head (rest := []) gPow gPowType Tryz.underlying260 Tryz.underlying41 cells24 cells20 (show laidMet Tryz.prog (("internal/strconv.uint64pow10", Lib.tabData .u64 Lib.pow10Tab) :: []) W from h1)
end Go.Proofs.YtkpghlnegbimdaaGreatDoor
namespace Go.Proofs.YtkpghlnegbimdaaGreatDoor
open Go.ChangeShapes Go.WideShapes Go.ChangeAt Go.RowKit Go.Joins
theorem cellsI : Tryz.prog.cellsOf 2 = 1 := by kernel_rfl
theorem cellsU : Tryz.prog.cellsOf 57 = 1 := by kernel_rfl
end Go.Proofs.YtkpghlnegbimdaaGreatDoor
namespace Go.Proofs.YtkpghlnegbimdaaGreatDoor
open Go.ChangeShapes Go.WideShapes Go.ChangeAt Go.RowKit Go.Joins
theorem cellsT8 : Tryz.prog.cellsOf 89 = 4 := by kernel_rfl
theorem cellsQ8 : Tryz.prog.cellsOf 59 = 2 := by kernel_rfl
theorem cellsN8 : Tryz.prog.cellsOf 3 = 1 := by kernel_rfl
theorem ts_of {H : Type} {enc : TypeId × Value → H} {W : World} {base : Nat} {v : Value} {d : DataW H} {p : List MemPlace} (hv : Value.okWide Tryz.prog W .any base 22 v)
  (h : DataW.Trod enc Tryz.prog W 0 (fun _ => true) true 22 v d p) : ∃ a n c l, v = .slice a n c ∧ RW8 W (.slice a n c) l ∧ RO l := by
 obtain ⟨a0, len, cap, rfl⟩ := okWide_slice Tryz.underlying22 hv
 obtain ⟨fuel, hf⟩ := h
 rcases Go.Deep.open_slice Tryz.underlying22 hf with ⟨hcs, hx⟩ | ⟨a, len', cap', m, n, D, Pl, hcs, _, hl, _, hm, hx, hel⟩
 ·simp [Value.cells] at hcs
  obtain ⟨rfl, rfl, rfl⟩ := hcs
  exact ⟨none, 0, 0, [], rfl, RW8.nil W, fun p hp => by cases hp⟩
 ·simp [Value.cells] at hcs
  obtain ⟨rfl, rfl, rfl⟩ := hcs
  simp only [if_true] at hm
  have each : ∀ i, i < len → ∃ t : RI, (W.cell? (a.add (i * 4)) = some (.int .i64 t.1) ∧ W.cell? ((a.add (i * 4)).add 1) = some (.int .i64 t.2.1) ∧ W.cell? ((a.add (i * 4)).add 2) = some (.int .i64 t.2.2.1) ∧ W.cell? ((a.add (i * 4)).add 3) = some (.int .u32 t.2.2.2)) ∧ (-9223372036854775808 ≤ t.2.2.1 ∧ t.2.2.1 < 9223372036854775808) ∧ 0 ≤ t.2.2.2 ∧ t.2.2.2 < 4294967296 := by
   intro i hi
   obtain ⟨cs', h1, h2⟩ := hel i (by omega)
   rw [cellsT8] at h1
   obtain ⟨_, hlen, hcell⟩ := World.cells?_some h1
   obtain ⟨xs, k, hk, hxy, _, hxl, hf⟩ := DataW.trod_struct Tryz.underlying89 h2
   match xs, hxl, cs', hlen with
   | [y0, y1, y2], _, [v0, v1, v2, v3], _ =>
    have g0 := hf 0 _ rfl
    have g1 := hf 1 _ rfl
    have g2 := hf 2 _ rfl
    simp [cellsN8, cellsQ8] at g0 g1 g2
    obtain ⟨zs, k2, hk2, hzy, _, hzl, hf2⟩ := DataW.trod_struct Tryz.underlying59 g2
    match zs, hzl with
    | [z0, z1], _ =>
     have q0 := hf2 0 _ rfl
     have q1 := hf2 1 _ rfl
     simp [cellsI, cellsU] at q0 q1
     have e0 := hcell 0 (by omega)
     replace e0 : W.cell? (a.add (i * 4)) = _ := e0
     have e1 := hcell 1 (by omega)
     have e2 := hcell 2 (by omega)
     have e3 := hcell 3 (by omega)
     obtain ⟨x0, b0, -, -⟩ := DataW.trod_int Tryz.underlying3 g0
     obtain ⟨x1, b1, -, -⟩ := DataW.trod_int Tryz.underlying3 g1
     obtain ⟨x2, b2, -, f2⟩ := DataW.trod_int Tryz.underlying2 q0
     obtain ⟨x3, b3, -, f3⟩ := DataW.trod_int Tryz.underlying57 q1
     simp only [List.cons.injEq, and_true] at b0 b1 b2 b3
     subst b0 b1 b2 b3
     have c2 := bounds_i64 f2
     have c3 := bounds_u32 f3
     refine ⟨(x0, x1, x2, x3), ⟨by simpa using e0, by simpa using e1, by simpa using e2, by simpa using e3⟩, ?_, ?_⟩
     ·simp only; omega
     ·simp only; omega
  obtain ⟨q, hq⟩ := Go.Deep.choose_lt each
  refine ⟨some a, len, cap, (List.range len).map q, rfl, ⟨_, _, _, rfl, by simp, fun h0 => ⟨a, rfl, ?_, fun i hi => ?_⟩⟩, fun z hz => ?_⟩
  ·have e := (hq 0 h0).1.1
   have := World.block_lt_of_cell? W _ e
   rw [add_blk8] at this
   exact this
  ·have hi' : i < len := by simpa using hi
   have := (hq i hi').1
   simpa using this
  ·obtain ⟨i, hi, rfl⟩ := List.mem_map.1 hz
   exact (hq i (List.mem_range.1 hi)).2
end Go.Proofs.YtkpghlnegbimdaaGreatDoor
