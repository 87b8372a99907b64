/-
  The law answers true at every input, and leaves its arguments as they were: a part of the proof. CONDITIONS: the package-level tables start as the program's text lays them (the card ties them).
-/
import Derived.Test.YthffglapmkkohaaGreatDoorZcc
set_option linter.unusedVariables false
set_option linter.unusedSimpArgs false
set_option maxHeartbeats 16000000
set_option maxRecDepth 100000
namespace Go.Proofs.YthffglapmkkohaaGreatDoor
open Go.RowKit
attribute [local irreducible] lo hs sm s64 c64 d64 b64 mh ml pd pc qd qc val hiB str cmpI srD lz nb zl zh zs fe rowV tabV gv bsV
/-- A slice of integers. -/
def ILs (w : World) (v : Value) (zs : List Int) : Prop := ∃ ao c g, v = .slice ao zs.length c ∧ (0 < zs.length → ao = some ⟨g, 0, none⟩ ∧ g < w.heap.size) ∧ ∀ i (h : i < zs.length), w.cell? ⟨g, i, none⟩ = some (.int .i64 (zs[i]'h))
theorem ILs.below {w w' : World} {v : Value} {zs : List Int} (h : ILs w v zs) (hb : Below w.heap.size w w') : ILs w' v zs := by
 obtain ⟨ao, c, g, h1, h2, h3⟩ := h
 exact ⟨ao, c, g, h1, fun h => ⟨(h2 h).1, Nat.lt_of_lt_of_le (h2 h).2 hb.size⟩, fun i hi => (hb.cell (p := ⟨g, i, none⟩) (h2 (by omega)).2).trans (h3 i hi)⟩
theorem ILs.keeps (v : Value) (zs : List Int) : Keeps (fun w => ILs w v zs) := fun _ _ hb h => h.below hb
theorem ils_of {w : World} {g c : Nat} {zs : List Int} {cs : List Value} (h : Hd w g cs) (he : cs = zs.map (.int .i64)) : ILs w (.slice (some ⟨g, 0, none⟩) zs.length c) zs := by
 subst he
 refine ⟨_, c, g, rfl, fun _ => ⟨rfl, h.lt⟩, fun i hi => ?_⟩
 have := h.cell i (by rw [List.length_map]; exact hi)
 rw [this, List.getElem_map]
def ofV (zs : List Int) (i : Nat) : Rat := ((zs.getD i 0 : Int) : Rat)
theorem getI {zs : List Int} {k : Nat} (h : k < zs.length) : zs.getD k 0 = zs[k] := by rw [List.getD_eq_getElem?_getD, List.getElem?_eq_getElem h]; rfl
theorem vof_at (zs : List Int) (b1 : Nat) (v : Value) (hz : ∀ z ∈ zs, -9223372036854775808 ≤ z ∧ z < 9223372036854775808) (i : Nat) (hi : i < zs.length) (w : World) (hw : ILs w v zs ∧ w.cell? ⟨b1, 0, none⟩ = some v) :
  Calls Tryz.prog 125 (#[.int .i64 (i : Int)] ++ #[.pointer (some ⟨b1, 0, none⟩)]) w fun xe w' => xe = .returned (fracV (ofV zs i)) ∧ Below w.heap.size w w' := by
 obtain ⟨⟨ao, c, g, rfl, h2, h3⟩, h4⟩ := hw
 obtain ⟨rfl, -⟩ := h2 (by omega)
 obtain ⟨l1, l2⟩ := hz _ (List.getElem_mem hi)
 unfold ofV
 rw [getI hi]
 exact vof1_w i zs.length c g b1 zs[i] _ (fun w => intF zs[i] l1 l2 w) hi w h4 (h3 i hi)
theorem vofV (zs : List Int) (hm : zs.length ≤ 100000) (hz : ∀ z ∈ zs, -9223372036854775808 ≤ z ∧ z < 9223372036854775808) (v : Value) (w : World) (hv : ILs w v zs) :
  Calls Tryz.prog 58 #[v] w fun xe w' => ∃ u, xe = .returned u ∧ NV w.heap.size (tabV zs.length (ofV zs)) u w' ∧ Below w.heap.size w w' := by
 have HCl := fun b1 => vof_at zs b1 v hz
 obtain ⟨ao, c, -, rfl, -⟩ := id hv
 have hL0 : GL w w [] := GL.start w
 obtain ⟨x1, hweq, hL0⟩ := GL.named (hL0.new rfl [.slice ao zs.length c] 157)
 have hv1 := hv.below hL0.bl
 have hc1 := (hL0.get _ _ mZ).cell 0 (by simp)
 simp only [List.getElem_cons_zero, List.getElem_cons_succ] at hc1
 have HC := veach_w 125 #[.pointer (some ⟨w.heap.size, 0, none⟩)] enof zs.length (ofV zs) (fun w => ILs w (.slice ao zs.length c) zs ∧ w.cell? ⟨_, 0, none⟩ = some (.slice ao zs.length c)) (Keeps.and (ILs.keeps _ _) (keepsB _ _)) (HCl _) hm x1 ⟨hv1, hc1⟩
 clear hv hv1 HCl hz
 generalize tabV zs.length (ofV zs) = tl at *
 generalize zs.length = m at *
 replace HC := Lib.hid HC
 replace hL0 := Lib.hid hL0
 go_enter Tryz.func58, Tryz.ntmps58
 go_wp2_with fail
 with_reducible refine Calls.mono HC.out ?_
 rintro e y1 ⟨u, rfl, hnv, hb⟩
 replace hnv := Lib.hid (hnv.mono hL0.out.bl.size)
 replace hb := Lib.hid (hL0.out.bl.trans (hb.mono hL0.out.bl.size))
 clear hc1 hweq
 obtain ⟨gu, rfl, -, -⟩ := id hnv.out
 go_wp2_with fail
 exact bodyPost_ret (v := .slice (some ⟨gu, 0, none⟩) _ _) (by simp [results, Tryz.results58, go_sem]) rfl ⟨_, rfl, hnv.out, hb.out⟩
theorem getN {ps : List Nat} {k : Nat} (h : k < ps.length) : ps.getD k 0 = ps[k] := by rw [List.getD_eq_getElem?_getD, List.getElem?_eq_getElem h]; rfl
/-- A row of strings of one's own. -/
abbrev OwnS (w : World) (B : Nat) (v : Value) (n : Nat) (l : List ByteArray) : Prop := w.ownsRow B 9 1 v n (l.map .string)
theorem infoS8 : (Tryz.prog.info? 9).map (fun i => (i.zero, i.size, i.bytes)) = some (some (.string ⟨#[]⟩), 1, 16) := by kernel_rfl
theorem wp_appendS {w : World} {ops : Array Oper} {rest : List Oper} {o : Oper} {a : Act} {Q : Exit → Act → World → Prop} (hgd : o.guard = none) (s x : Operand)
  (ho : o.op = .call { callee := .builtin .append, args := #[s, x], argTypes := #[158, 158] }) (B : Nat) (v : Value) (n : Nat) (L : List ByteArray) (hs : a.eval s = v) (hown : OwnS w B v n L) (g : Nat) (t : ByteArray) (hx : a.eval x = .slice (some ⟨g, 0, none⟩) 1 1) (hH : Hd w g [.string t])
  (hn : n ≤ 100000) (hbase : B ≤ w.heap.size)
  (h : ∀ v' w', OwnS w' B v' (n + 1) (L ++ [t]) → w.grownBy w' v.ownBlock → (v'.ownBlock = v.ownBlock ∨ v'.ownBlock = some w.heap.size) → wpList Tryz.prog ops Q rest (a.put o.dst v') w') : wpList Tryz.prog ops Q (o :: rest) a w := by
 obtain ⟨i0, hi, hz1, hz2, hz3⟩ := info_parts infoS8
 refine wpList_append_own_at w hgd s x 158 ho B 9 i0 (.string ⟨#[]⟩) 1 16 Tryz.underlying158 hi hz1 hz2 hz3 rfl (by decide) v n (L.map .string) hs hown ⟨g, 0, none⟩ 1 1 [.string t] hx rfl (hd_newsH hH) (fun u hu => by rw [List.mem_singleton.1 hu]; rfl) (by unfold maxLen; omega) (by omega) hbase ?_
 intro v' w' h1 h2 _ h4
 refine h v' w' ?_ h2 h4
 unfold OwnS
 rw [List.map_append]; exact h1
theorem ownS_below {w w' : World} {B n : Nat} {v : Value} {l : List ByteArray} (h : OwnS w B v n l) (hb : Below w.heap.size w w') : OwnS w' B v n l := by
 refine ⟨h.1, ?_⟩
 rcases h.2 with h1 | ⟨g, cap, cur, h1, h2, h3, h4⟩
 ·exact .inl h1
 ·refine .inr ⟨g, cap, cur, h1, h2, ?_, h4⟩
  have hg := (World.ownsRow.lt h g (by rw [h1]; rfl)).2
  rw [hb.block g hg]; exact h3
theorem ownS_cells {w : World} {B n : Nat} {v : Value} {l : List ByteArray} (h : OwnS w B v n l) (h0 : 0 < l.length) : ∃ g c, v = .slice (some ⟨g, 0, none⟩) l.length c ∧ l.length ≤ c ∧ g < w.heap.size ∧ ∀ (j : Nat) (x : ByteArray), l[j]? = some x → w.cell? ⟨g, 0 + j, none⟩ = some (.string x) := by
 have hl : l.length = n := by have := h.1; rw [List.length_map] at this; omega
 rcases h.2 with ⟨_, h1⟩ | ⟨g, cap, cur, h1, h2, h3, h4, h5, h6, h7⟩
 ·omega
 ·refine ⟨g, cap, by rw [h1, hl], by omega, (World.ownsRow.lt h g (by rw [h1]; rfl)).2, fun j x hx => ?_⟩
  rw [cell_of_row _ _ _ _ _ _ h3, Nat.zero_add]
  have hj : (l.map Value.string)[j]? = some (.string x) := by rw [List.getElem?_map, hx]; rfl
  rw [← h7, List.getElem?_take] at hj
  split at hj
  ·rw [← Array.getElem?_toList]; exact hj
  ·cases hj
theorem ownS_form {w : World} {B n : Nat} {v : Value} {l : List ByteArray} (h : OwnS w B v n l) : ∃ a c, v = .slice a n c := by
 rcases h.2 with ⟨h1, h2⟩ | ⟨g, cap, cur, h1, _⟩
 ·exact ⟨_, _, by rw [h1, h2]⟩
 ·exact ⟨_, _, h1⟩
theorem vtextV (x : List Rat) (n k : Nat) (Jt : List UInt8) (hx : x.length = n) (hn : n ≤ 10000) (hk : k ≤ 1000) (sx : ∀ q ∈ x, Sz q k) (hJ : Lib.join ((x.map qtxt).map (·.data.toList)) [32] = Jt) (hJl : Jt.length ≤ 1000000) (va : Value) (w : World) (ht : Tab w) (hv : SlQ w va x) :
  Calls Tryz.prog 60 #[va] w fun xe w' => xe = .returned (.string ⟨([91] ++ Jt ++ [93]).toArray⟩) ∧ Below w.heap.size w w' := by
 obtain ⟨ao, c, rfl, hf⟩ := slq_len hv
 rw [hx] at hv hf ⊢
 have HT := Lib.hid (fun i (hi : i < n) w ht => textF (gv x i) k (qsk x sx i (by omega)) (by omega) w ht)
 obtain ⟨tx, htx⟩ : ∃ tx, tx = x.map qtxt := ⟨_, rfl⟩
 have hti : ∀ i, i < n → tx.take (i + 1) = tx.take i ++ [qtxt (gv x i)] := fun i hi => by
  rw [htx, List.take_succ_eq_append_getElem (by rw [List.length_map]; omega), List.getElem_map, gv_get (by omega)]
 have htl : tx.length = n := by rw [htx, List.length_map, hx]
 rw [← htx] at hJ
 replace hti := Lib.hid hti
 replace htl := Lib.hid htl
 replace hJ := Lib.hid hJ
 replace hJl := Lib.hid hJl
 replace hf := Lib.hid hf
 replace ht := Lib.hid ht
 replace hn := Lib.hid hn
 clear sx hv htx
 go_enter Tryz.func60, Tryz.ntmps60
 go_wp2_with fail
 go_loopg [3, 8] n (fun gk sv iv wr => ∃ (k : Nat) (zi : Int) (vs : Value), k + gk = n ∧ vs = sv ∧ iv = .int .i64 zi ∧ zi = (k : Int) ∧ OwnS wr w.heap.size vs k (tx.take k) ∧ Below w.heap.size w wr)
 case atStart => exact ⟨0, 0, _, Nat.zero_add n, rfl, by first | rfl | go_num, rfl, World.ownsRow_nil _ _ _ _, Below.refl _ _⟩
 case round =>
  obtain ⟨k, zi, vs, hik, rfl, rfl, hzi, hown, hB⟩ := hrel
  replace hown := Lib.hid hown
  have hnn := hn.out
  rcases Nat.lt_or_ge k n with hin | hin
  ·subst hzi
   have k1 : (k : Int) < (n : Int) := by omega
   have k0 : (0 : Int) ≤ (k : Int) := Int.natCast_nonneg _
   have kb : (k : Int) ≤ 10000 := by omega
   obtain ⟨g, rfl, hfs⟩ := hf.out (by omega)
   have hcs := fsc (hfs.below hB) k (by omega)
   have HT1 := HT.out k hin
   have hti1 := hti.out k hin
   generalize gv x k = q at hcs HT1 hti1
   obtain ⟨S, hS⟩ : ∃ S, S = qtxt q := ⟨_, rfl⟩
   rw [← hS] at HT1 hti1
   replace HT1 := Lib.hid HT1
   replace hti1 := Lib.hid hti1
   clear hS hfs
   obtain ⟨f0, f1, f2, f3, f4⟩ := hcs
   have hL0 : GL wr wr [] := GL.start wr
   replace hL0 := hL0.new rfl [.int .u64 ((zl q.num : Nat) : Int), .string (zh q.num), .bool (zs q.num), .int .u64 ((lo (fe q) : Nat) : Int), .string (hs (fe q))] 36
   generalize hweq : wr.alloc (.cells #[.int .u64 ((zl q.num : Nat) : Int), .string (zh q.num), .bool (zs q.num), .int .u64 ((lo (fe q) : Nat) : Int), .string (hs (fe q))] 36) = y2 at hL0
   have hN0 := cells_of _ 0 [] rfl (hL0.get _ _ mZ)
   simp only [zF, Nat.reduceAdd] at hN0
   have hB2 := Lib.hid (hB.trans (hL0.bl.mono hB.size))
   go_wp2_with fail
   with_reducible refine Calls.mono (HT1.out _ (ht.out.below hB2.out)) ?_
   rintro e y3 ⟨rfl, hb3⟩
   replace hL0 := hL0.call hb3
   have hown3 := Lib.hid (ownS_below hown.out hL0.bl)
   have hB3 := Lib.hid (hB.trans (hL0.bl.mono hB.size))
   clear hb3 hN0 hweq f0 f1 f2 f3 f4 hL0 hB2 hB hown
   have hL1 : GL y3 y3 [] := GL.start y3
   replace hL1 := hL1.new rfl [.string S] 9
   generalize hweq : y3.alloc (.cells #[.string S] 9) = y4 at hL1
   have hown4 := Lib.hid (ownS_below hown3.out hL1.bl)
   have hB4 := Lib.hid (hB3.out.trans (hL1.bl.mono hB3.out.size))
   have hH := Lib.hid (hL1.get _ _ mZ)
   go_wp2_with (at_builtin; refine wp_appendS rfl _ _ rfl _ _ _ _ rfl hown4.out _ S rfl hH.out (by omega) hB4.out.size ?_)
   intro v' w5 hown5 hgrow _
   have hB5 := hB4.out.grown hgrow hB4.out.size (fun j hj => (hown4.out.lt j hj).1)
   rw [← hti1.out] at hown5
   replace hown5 := Lib.hid hown5
   clear hgrow hown4 hB4 hown3 hB3 hH hweq
   go_wp2_with fail
   go_roundg (gk - 1)
   case measure => omega
   case rel => exact ⟨k + 1, _, _, by omega, rfl, by first | rfl | go_num, by omega, hown5.out, hB5⟩
  ·obtain rfl : k = n := by omega
   subst hzi
   have k1 : ¬ (k : Int) < (k : Int) := by omega
   rw [List.take_of_length_le (Nat.le_of_eq htl.out)] at hown
   have hJ2 : Calls Tryz.prog 128 #[vs, .string ⟨#[32]⟩] wr fun e w' => e = .returned (.string ⟨Jt.toArray⟩) ∧ Below wr.heap.size wr w' := by
    by_cases h0 : k = 0
    ·have e0 : tx = [] := List.eq_nil_of_length_eq_zero (by rw [htl.out, h0])
     obtain ⟨a, c2, hvs⟩ := ownS_form hown.out
     rw [hvs, h0]
     rw [e0] at hJ
     refine (Tryz.strings_Join_none a c2 ⟨#[32]⟩ wr).mono ?_
     rintro e w' ⟨rfl, rfl⟩
     exact ⟨by rw [← hJ.out]; rfl, Below.refl _ _⟩
    ·obtain ⟨g9, c9, hvs, hc9, hg9, hce9⟩ := ownS_cells hown.out (by rw [htl.out]; omega)
     rw [hvs]
     have := Tryz.strings_Join g9 0 c9 tx ⟨#[32]⟩ wr hce9 hg9 (by rw [htl.out]; omega) hc9 (by
      have h1 := hJl.out
      rw [← hJ.out] at h1
      exact Nat.le_trans h1 (by decide))
     rw [show (⟨#[32]⟩ : ByteArray).data.toList = [32] from rfl, hJ.out] at this
     exact this
   replace hJ2 := Lib.hid hJ2
   have j1 : (Jt.length : Int) ≤ 1000000 := by have := hJl.out; omega
   have j2 : ¬ (9223372036854775807 : Int) < 1 + (Jt.length : Int) := by omega
   have j3 : ¬ (9223372036854775806 : Int) < (Jt.length : Int) := by omega
   have j4 : 1 + (Jt.length : Int) ≤ 9223372036854775807 := by omega
   have j5 : ¬ (9223372036854775807 : Int) < 1 + (Jt.length : Int) + 1 := by omega
   have j6 : ¬ (9223372036854775806 : Int) < 1 + (Jt.length : Int) := by omega
   replace hB := Lib.hid hB
   obtain ⟨a9, c9, hvs⟩ := ownS_form hown.out
   subst hvs
   clear hown
   go_wp2_with fail
   refine hJ2.out.mono ?_
   rintro e y9 ⟨rfl, hb9⟩
   replace hb9 := Lib.hid (hB.out.trans (hb9.mono hB.out.size))
   go_wp2_with fail
   exact bodyPost_ret (v := .string ⟨([91] ++ Jt ++ [93]).toArray⟩) (by simp [results, Tryz.results60, go_sem]; apply ByteArray.ext; simp) rfl ⟨rfl, hb9.out⟩
end Go.Proofs.YthffglapmkkohaaGreatDoor
namespace Go.Proofs.YthffglapmkkohaaGreatDoor
open Go.RowKit
attribute [local irreducible] lo hs sm s64 c64 d64 b64 mh ml pd pc qd qc val hiB str cmpI srD lz nb zl zh zs
theorem qof_zero (n x c : Int) (f : Nat) (HF : RT 57 #[.int .i64 n, .int .i64 1] (.tuple #[frV x f, .int .i64 c])) (hmx : max (0 : Int) 1 = 1) (w : World) :
  Calls Tryz.prog 13 #[.agg #[.int .i64 n, .int .u32 0]] w fun xe w' => xe = .returned (frV x f) ∧ Below w.heap.size w w' := by
 have hL0 : GL w w [] := GL.start w
 replace HF := Lib.hid HF
 obtain ⟨x1, hweq, hL0⟩ := GL.named ((hL0.new rfl [.int .i64 n, .int .u32 0] 40).new (K := w.heap.size + 1) (szA _ _) [.int .u64 0, .string ⟨#[]⟩, .bool false, .int .u64 0, .string ⟨#[]⟩] 36)
 go_enter Tryz.func13, Tryz.ntmps13
 have hN0 := cells_of _ 0 [] rfl (hL0.get _ _ (mK mZ))
 simp only [zF, Nat.reduceAdd] at hN0
 go_wp2_with fail
 clear hN0
 with_reducible refine Calls.mono (HF.out _) ?_
 rintro e x2 ⟨rfl, hb⟩
 replace hL0 := hL0.call hb
 clear hb hweq
 obtain ⟨x3, hweq, hL0⟩ := GL.named (hL0.new rfl [.int .u64 ((zl x : Nat) : Int), .string (zh x), .bool (zs x), .int .u64 ((lo f : Nat) : Int), .string (hs f)] 36)
 have hA := hL0.fc
 simp only [zF, Nat.reduceAdd] at hA
 obtain ⟨x4, hput1, hP⟩ := GL.named (hL0.put 1 (w.heap.size + 1) _ rfl [.int .u64 ((zl x : Nat) : Int), .string (zh x), .bool (zs x), .int .u64 ((lo f : Nat) : Int), .string (hs f)] rfl)
 simp only [setAll] at hput1
 simp only [List.set_cons_zero, List.set_cons_succ] at hP
 have hB1 := hP.fc
 simp only [zF, Nat.reduceAdd] at hB1
 replace hL0 := hP
 go_wp2_with fail
 exact bodyPost_ret (v := frV x f) (by simp [results, Tryz.results13, go_sem, hB1]) rfl ⟨rfl, hL0.bl⟩
theorem qof_pos (n d x c : Int) (f : Nat) (HF : RT 57 #[.int .i64 n, .int .i64 d] (.tuple #[frV x f, .int .i64 c])) (h1 : max d 1 = d) (hw : IntKind.i64.wrap d = d) (w : World) :
  Calls Tryz.prog 13 #[.agg #[.int .i64 n, .int .u32 d]] w fun xe w' => xe = .returned (frV x f) ∧ Below w.heap.size w w' := by
 have hL0 : GL w w [] := GL.start w
 replace HF := Lib.hid HF
 obtain ⟨x1, hweq, hL0⟩ := GL.named ((hL0.new rfl [.int .i64 n, .int .u32 d] 40).new (K := w.heap.size + 1) (szA _ _) [.int .u64 0, .string ⟨#[]⟩, .bool false, .int .u64 0, .string ⟨#[]⟩] 36)
 go_enter Tryz.func13, Tryz.ntmps13
 have hN0 := cells_of _ 0 [] rfl (hL0.get _ _ (mK mZ))
 simp only [zF, Nat.reduceAdd] at hN0
 go_wp2_with fail
 clear hN0
 with_reducible refine Calls.mono (HF.out _) ?_
 rintro e x2 ⟨rfl, hb⟩
 replace hL0 := hL0.call hb
 clear hb hweq
 obtain ⟨x3, hweq, hL0⟩ := GL.named (hL0.new rfl [.int .u64 ((zl x : Nat) : Int), .string (zh x), .bool (zs x), .int .u64 ((lo f : Nat) : Int), .string (hs f)] 36)
 have hA := hL0.fc
 simp only [zF, Nat.reduceAdd] at hA
 obtain ⟨x4, hput1, hP⟩ := GL.named (hL0.put 1 (w.heap.size + 1) _ rfl [.int .u64 ((zl x : Nat) : Int), .string (zh x), .bool (zs x), .int .u64 ((lo f : Nat) : Int), .string (hs f)] rfl)
 simp only [setAll] at hput1
 simp only [List.set_cons_zero, List.set_cons_succ] at hP
 have hB1 := hP.fc
 simp only [zF, Nat.reduceAdd] at hB1
 replace hL0 := hP
 go_wp2_with fail
 exact bodyPost_ret (v := frV x f) (by simp [results, Tryz.results13, go_sem, hB1]) rfl ⟨rfl, hL0.bl⟩
theorem qof_any (n d : Int) (a1 : -9223372036854775808 ≤ n) (a2 : n < 9223372036854775808) (b1 : 0 ≤ d) (b2 : d < 4294967296) (w : World) :
  Calls Tryz.prog 13 #[.agg #[.int .i64 n, .int .u32 d]] w fun xe w' => xe = .returned (fracV (qmade n d.toNat)) ∧ Below w.heap.size w w' := by
 by_cases h : d = 0
 ·subst h
  have e : (n : Rat) / ((1 : Int) : Rat) = qmade n 0 := by rw [← of_val_q n 1 (by decide)]; rfl
  have hF := fun w => ofF n 1 a1 a2 (by decide) (by decide) (by decide) w
  rw [e] at hF
  exact qof_zero n _ _ _ hF (by decide) w
 ·have e : (n : Rat) / (d : Rat) = qmade n d.toNat := by
   rw [← of_val_q n d h]
   unfold qmade
   rw [if_neg (by omega), if_neg (by omega), show d.natAbs = d.toNat by omega]
  have hF := fun w => ofF n d a1 a2 (by omega) (by omega) h w
  rw [e] at hF
  exact qof_pos n d _ _ _ hF (by omega) (IntWalk.i64_in _ (by omega)) w
end Go.Proofs.YthffglapmkkohaaGreatDoor
namespace Go.Proofs.YthffglapmkkohaaGreatDoor
open Go.RowKit
attribute [local irreducible] lo hs sm s64 c64 d64 b64 mh ml pd pc qd qc val hiB str cmpI srD lz nb zl zh zs fe rowV tabV gv bsV
/-- The plain fractions that a slice holds. -/
structure QSl (w : World) (a : Addr) (ql : List (Int × Int)) : Prop where
 c0 : ∀ (i : Nat) (h : i < ql.length), w.cell? (a.add (i * 2)) = some (.int .i64 ql[i].1)
 c1 : ∀ (i : Nat) (h : i < ql.length), w.cell? ((a.add (i * 2)).add 1) = some (.int .u32 ql[i].2)
 rg : ∀ p ∈ ql, (-9223372036854775808 ≤ p.1 ∧ p.1 < 9223372036854775808) ∧ 0 ≤ p.2 ∧ p.2 < 4294967296
 blk : a.block < w.heap.size
theorem add_blk (a : Addr) (i : Nat) : (a.add i).block = a.block := by unfold Addr.add; split <;> rfl
theorem add_one (a : Addr) : a.add 1 = ⟨a.block, a.off + 1, none⟩ := by unfold Addr.add; simp
theorem QSl.below {w w' : World} {a : Addr} {ql : List (Int × Int)} (h : QSl w a ql) (hb : Below w.heap.size w w') : QSl w' a ql :=
 ⟨fun i hi => (hb.cell (p := a.add (i * 2)) (by rw [add_blk]; exact h.blk)).trans (h.c0 i hi), fun i hi => (hb.cell (p := (a.add (i * 2)).add 1) (by rw [add_blk, add_blk]; exact h.blk)).trans (h.c1 i hi), h.rg, Nat.lt_of_lt_of_le h.blk hb.size⟩
/-- A slice of plain fractions. -/
def QV (w : World) (v : Value) (ql : List (Int × Int)) : Prop := ∃ ao c, v = .slice ao ql.length c ∧ ql.length ≤ c ∧ (ao = none → c = 0) ∧ (0 < ql.length → ∃ a, ao = some a ∧ QSl w a ql)
theorem QV.below {w w' : World} {v : Value} {ql : List (Int × Int)} (h : QV w v ql) (hb : Below w.heap.size w w') : QV w' v ql := by
 obtain ⟨ao, c, h1, h2, h3, h4⟩ := h
 refine ⟨ao, c, h1, h2, h3, fun h => ?_⟩
 obtain ⟨a, e, h5⟩ := h4 h
 exact ⟨a, e, h5.below hb⟩
theorem QV.keeps (v : Value) (ql : List (Int × Int)) : Keeps fun w => QV w v ql := fun _ _ hb h => h.below hb
theorem QSl.take {w : World} {a : Addr} {ql : List (Int × Int)} (h : QSl w a ql) (k : Nat) : QSl w a (ql.take k) := by
 refine ⟨fun i hi => ?_, fun i hi => ?_, fun p hp => h.rg p (List.mem_of_mem_take hp), h.blk⟩
 ·rw [List.getElem_take]; exact h.c0 i (by rw [List.length_take] at hi; omega)
 ·rw [List.getElem_take]; exact h.c1 i (by rw [List.length_take] at hi; omega)
theorem QV.take {w : World} {ao : Option Addr} {n c : Nat} {ql : List (Int × Int)} (h : QV w (.slice ao n c) ql) (k : Nat) (hk : k ≤ n) : QV w (.slice ao k c) (ql.take k) := by
 obtain ⟨a2, c2, h1, h2, h3, h4⟩ := h
 obtain ⟨rfl, rfl, rfl⟩ : ao = a2 ∧ n = ql.length ∧ c = c2 := by simpa using h1
 have e : (ql.take k).length = k := by rw [List.length_take]; omega
 refine ⟨ao, c, by rw [e], by omega, h3, fun h => ?_⟩
 obtain ⟨a, h5, h6⟩ := h4 (by omega)
 exact ⟨a, h5, h6.take k⟩
theorem QV.form {w : World} {v : Value} {ql : List (Int × Int)} (h : QV w v ql) : ∃ ao c, v = .slice ao ql.length c := by
 obtain ⟨ao, c, h1, _⟩ := h
 exact ⟨ao, c, h1⟩
def qm (p : Int × Int) : Rat := qmade p.1 p.2.toNat
/-- A row of fractions of one's own. -/
abbrev OwnF (w : World) (B : Nat) (v : Value) (n : Nat) (l : List Rat) : Prop := w.ownsRow B 36 5 v n (frCs l)
end Go.Proofs.YthffglapmkkohaaGreatDoor
namespace Go.Proofs.YthffglapmkkohaaGreatDoor
open Go.RowKit
attribute [local irreducible] lo hs sm s64 c64 d64 b64 mh ml pd pc qd qc val hiB str cmpI srD lz nb zl zh zs fe rowV tabV gv bsV
abbrev PT (w : World) (v : Value) (l : List Rat) : Prop := SlQ w v l
theorem PT.below {w w' : World} {v : Value} {l : List Rat} (h : PT w v l) (hb : Below w.heap.size w w') : PT w' v l := SlQ.below h hb
theorem ptn_form {w : World} {v : Value} {l : List Rat} {n : Nat} (h : PT w v l) (hl : l.length = n) : ∃ ao c, v = .slice ao n c := by
 obtain ⟨ao, c, e⟩ := slq_form' h
 exact ⟨ao, c, by rw [e, hl]⟩
abbrev PP (l : List Rat) : Value → World → Prop := fun v w => PT w v l
theorem stays_pt (l : List Rat) : Stays (PP l) := fun _ _ _ hb h => h.below hb
abbrev PI (l : List Int) : Value → World → Prop := fun v w => ILs w v l
theorem stays_pi (l : List Int) : Stays (PI l) := fun _ _ _ hb h => h.below hb
/-- A vector with a code. -/
abbrev PE (l : List Rat) (e : Int) : Value → World → Prop := fun v w => ∃ u, v = .tuple #[u, .int .i64 e] ∧ PT w u l
theorem stays_pe (l : List Rat) (e : Int) : Stays (PE l e) := fun _ _ _ hb ⟨u, h1, h2⟩ => ⟨u, h1, h2.below hb⟩
theorem ty_val8 {P : Program} {o : Oper} {a : Act} {w w' : World} {T : Value → World → Prop} {u : Value} (hr : (execOp a.eval o).run P w = .ok (.value u) w') (hb : Below w.heap.size w w') (ht : T u w') : tyUpon P w T ((execOp a.eval o).run P w) := by
 rw [hr]; exact ⟨hb, ht⟩
def PTs (W : World) (S : List (Value × List Rat)) : Prop := ∀ p ∈ S, PT W p.1 p.2
theorem PTs.nil (w : World) : PTs w [] := fun p hp => by cases hp
theorem PTs.call {W W' : World} {S : List (Value × List Rat)} (h : PTs W S) (hb : Below W.heap.size W W') : PTs W' S := fun p hp => (h p hp).below hb
theorem PTs.new {W : World} {S : List (Value × List Rat)} (h : PTs W S) (o : Obj) : PTs (W.alloc o) S := h.call ((Below.refl _ _).alloc (Nat.le_refl _) o)
theorem PTs.drew {W : World} {S : List (Value × List Rat)} (h : PTs W S) : PTs W.drew S := h.call (Below.refl _ _).drew
theorem PTs.cons {W : World} {S : List (Value × List Rat)} {v : Value} {l : List Rat} (h : PTs W S) (q : PT W v l) : PTs W ((v, l) :: S) := fun p hp => by
 rcases List.mem_cons.1 hp with rfl | hp
 ·exact q
 ·exact h p hp
theorem PTs.get {W : World} {S : List (Value × List Rat)} {v : Value} {l : List Rat} (h : PTs W S) (hm : (v, l) ∈ S) : PT W v l := h _ hm
theorem ils_at {w : World} {g c n : Nat} {zs : List Int} {cs : List Value} (h : Hd w g cs) (he : cs = zs.map (.int .i64)) (hn : n = zs.length) : ILs w (.slice (some ⟨g, 0, none⟩) n c) zs := by
 subst hn; exact ils_of h he
theorem ils_form {w : World} {v : Value} {zs : List Int} (h : ILs w v zs) : ∃ ao n c, v = .slice ao n c := by
 obtain ⟨ao, c, g, h1, _⟩ := h
 exact ⟨ao, _, c, h1⟩
theorem vls_form {w : World} {v : Value} {L : List (List Rat)} (h : VLs w v L) : ∃ ao n c, v = .slice ao n c := by
 obtain ⟨ao, c, g, h1, _⟩ := h
 exact ⟨ao, _, c, h1⟩
end Go.Proofs.YthffglapmkkohaaGreatDoor
namespace Go.Proofs.YthffglapmkkohaaGreatDoor
open Go.RowKit
attribute [local irreducible] lo hs sm s64 c64 d64 b64 mh ml pd pc qd qc val hiB str cmpI srD lz nb zl zh zs fe
theorem szl {l : List Rat} (h : l.all (fun q => decide (q.num.natAbs < 18446744073709551616 ∧ q.den < 18446744073709551616)) = true) : ∀ q ∈ l, Sz q 1 := fun q hq => by
 have := of_decide_eq_true (List.all_eq_true.1 h q hq)
 exact szc q this.1 this.2
theorem nv_one {f : FuncId} {args : Array Value} {w : World} {B : Nat} {l : List Rat} (h : Calls Tryz.prog f args w fun xe w' => ∃ u, xe = .returned u ∧ NV B l u w' ∧ Below w.heap.size w w') :
  Calls Tryz.prog f args w fun xe w' => ∃ u, xe = .returned u ∧ SlQ w' u l ∧ Below w.heap.size w w' := h.mono fun _ _ ⟨u, h1, h2, h3⟩ => ⟨u, h1, h2.slq, h3⟩
theorem nv_two {f : FuncId} {args : Array Value} {w : World} {B : Nat} {l : List Rat} (h : Calls Tryz.prog f args w fun xe w' => ∃ u, xe = .returned (.tuple #[u, .int .i64 0]) ∧ NV B l u w' ∧ Below w.heap.size w w') :
  Calls Tryz.prog f args w fun xe w' => ∃ u, xe = .returned (.tuple #[u, .int .i64 0]) ∧ SlQ w' u l ∧ Below w.heap.size w w' := h.mono fun _ _ ⟨u, h1, h2, h3⟩ => ⟨u, h1, h2.slq, h3⟩
def oW (zs : List Int) : List Rat := tabV zs.length (ofV zs)
theorem of_at (zs : List Int) (hm : zs.length ≤ 100000) (hz : ∀ z ∈ zs, -9223372036854775808 ≤ z ∧ z < 9223372036854775808) (v : Value) (w : World) (hv : ILs w v zs) :
  Calls Tryz.prog 58 #[v] w fun xe w' => ∃ u, xe = .returned u ∧ SlQ w' u (oW zs) ∧ Below w.heap.size w w' := nv_one (vofV zs hm hz v w hv)
theorem text_at (x : List Rat) (Jt : List UInt8) (t : ByteArray) (hx : x.length ≤ 10) (sx : ∀ q ∈ x, Sz q 1) (hJ : Lib.join ((x.map qtxt).map (·.data.toList)) [32] = Jt) (hJl : Jt.length ≤ 100) (ht : (⟨([91] ++ Jt ++ [93]).toArray⟩ : ByteArray) = t) (v : Value) (w : World) (hT : Tab w) (hv : SlQ w v x) :
  Calls Tryz.prog 60 #[v] w fun xe w' => xe = .returned (.string t) ∧ Below w.heap.size w w' := by
 rw [← ht]
 exact vtextV x x.length 1 Jt rfl (by omega) (by omega) sx hJ (by omega) v w hT hv
end Go.Proofs.YthffglapmkkohaaGreatDoor
namespace Go.Proofs.YthffglapmkkohaaGreatDoor
open Go.RowKit
attribute [local irreducible] lo hs sm s64 c64 d64 b64 mh ml pd pc qd qc val hiB str cmpI srD lz nb zl zh zs fe qmade
structure GV (x : List Rat) (n K : Nat) : Prop where
 len : x.length = n
 sz : ∀ q ∈ x, Sz q K
theorem GV.at {x : List Rat} {n K : Nat} (h : GV x n K) (i : Nat) (hi : i < n) : Sz (gv x i) K := qsk x h.sz i (by rw [h.len]; exact hi)
theorem GV.mono {x : List Rat} {n K M : Nat} (h : GV x n K) (hm : K ≤ M) : GV x n M := ⟨h.len, fun q hq => (h.sz q hq).mono hm⟩
theorem GV.tab {n K : Nat} {f : Nat → Rat} (h : ∀ i, i < n → Sz (f i) K) : GV (tabV n f) n K := ⟨tabV_len _ _, tab_all h⟩
def sumL (n : Nat) (x y : List Rat) : List Rat := tabV n fun i => gv x i + gv y i
def mulL (n : Nat) (c : Rat) (x : List Rat) : List Rat := tabV n fun i => c * gv x i
def nulL (n : Nat) : List Rat := tabV n fun _ => 0
def dotL (n : Nat) (x y : List Rat) : Rat := bsV n fun i => gv x i * gv y i
theorem GV.sum {x y : List Rat} {n k m : Nat} (hx : GV x n k) (hy : GV y n m) : GV (sumL n x y) n (k + m + 1) := GV.tab fun i hi => (hx.at i hi).add (hy.at i hi)
theorem GV.mul {x : List Rat} {c : Rat} {n k m : Nat} (hc : Sz c k) (hx : GV x n m) : GV (mulL n c x) n (k + m) := GV.tab fun i hi => hc.mul (hx.at i hi)
theorem GV.nul (n : Nat) : GV (nulL n) n 1 := GV.tab fun i hi => szc 0 (by decide) (by decide)
theorem GV.dot {x y : List Rat} {n k m : Nat} (hx : GV x n k) (hy : GV y n m) : Sz (dotL n x y) (n * (k + m + 1) + 1) := bs_sz fun i hi => (hx.at i hi).mul (hy.at i hi)
section
variable {x y : List Rat} {n k m : Nat}
theorem zeroG (hn : n ≤ 2048) (w : World) : Calls Tryz.prog 46 #[.int .i64 (n : Int)] w fun xe w' => ∃ u, xe = .returned (.tuple #[u, .int .i64 0]) ∧ SlQ w' u (nulL n) ∧ Below w.heap.size w w' := nv_two (vzero_ok n hn w)
theorem sameG (hx : GV x n k) (hn : n ≤ 2048) (p q : Value) (w : World) (hp : SlQ w p x) (hq : SlQ w q y) :
  Calls Tryz.prog 18 #[p, q] w fun xe w' => xe = .returned (.bool (decide (x = y))) ∧ Below w.heap.size w w' := vsameV x y (by rw [hx.len]; omega) p q w hp hq
theorem sameT (hx : GV x n k) (hn : n ≤ 2048) (p q : Value) (w : World) (hp : SlQ w p x) (hq : SlQ w q x) :
  Calls Tryz.prog 18 #[p, q] w fun xe w' => xe = .returned (.bool true) ∧ Below w.heap.size w w' := by
 have := sameG (y := x) hx hn p q w hp hq
 rwa [decide_eq_true rfl] at this
end
/-- Plain fractions as Go holds them. -/
def QR (p : Int × Int) : Prop := (-9223372036854775808 ≤ p.1 ∧ p.1 < 9223372036854775808) ∧ 0 ≤ p.2 ∧ p.2 < 4294967296
theorem qm_sz {p : Int × Int} (h : QR p) : Sz (qm p) 1 := by
 obtain ⟨⟨h1, h2⟩, h3, h4⟩ := h
 exact qmade_sz p.1 p.2.toNat h1 h2 (by omega)
theorem qv_rg {w : World} {v : Value} {ql : List (Int × Int)} (h : QV w v ql) : ∀ p ∈ ql, QR p := by
 intro p hp
 obtain ⟨ao, c, h1, h2, h3, h4⟩ := h
 obtain ⟨a, e, h5⟩ := h4 (List.length_pos_of_mem hp)
 exact h5.rg p hp
theorem qv_len {w : World} {ao : Option Addr} {n c : Nat} {ql : List (Int × Int)} (h : QV w (.slice ao n c) ql) : ql.length = n := by
 obtain ⟨a2, c2, h1, h2, h3, h4⟩ := h
 obtain ⟨rfl, rfl, rfl⟩ : ao = a2 ∧ n = ql.length ∧ c = c2 := by simpa using h1
 rfl
end Go.Proofs.YthffglapmkkohaaGreatDoor
namespace Go.Proofs.YthffglapmkkohaaGreatDoor
open Go.RowKit
/-- A matrix: its rows, its columns, its elements. -/
structure Mx where
 r : Nat
 c : Nat
 l : List Rat
def ent (x : Mx) (i k : Nat) : Rat := gv x.l (i * x.c + k)
def tabM (r c : Nat) (f : Nat → Nat → Rat) : Mx := ⟨r, c, tabV (r * c) fun p => f (p / c) (p % c)⟩
theorem ix_lt {r c i k : Nat} (hi : i < r) (hk : k < c) : i * c + k < r * c := by
 have : (i + 1) * c ≤ r * c := Nat.mul_le_mul_right c hi
 rw [Nat.add_mul, Nat.one_mul] at this
 omega
theorem ix_div {c i k : Nat} (hk : k < c) : (i * c + k) / c = i := by
 rw [Nat.mul_comm, Nat.mul_add_div (by omega), Nat.div_eq_of_lt hk, Nat.add_zero]
theorem ix_mod {c i k : Nat} (hk : k < c) : (i * c + k) % c = k := by
 rw [Nat.mul_comm, Nat.mul_add_mod, Nat.mod_eq_of_lt hk]
theorem ix_row {r c p : Nat} (h : p < r * c) : p / c < r ∧ p % c < c := by
 have hc : 0 < c := by
  rcases Nat.eq_zero_or_pos c with e | e
  ·subst e; simp at h
  ·exact e
 exact ⟨(Nat.div_lt_iff_lt_mul hc).2 h, Nat.mod_lt _ hc⟩
theorem ent_tab {r c i k : Nat} {f : Nat → Nat → Rat} (hi : i < r) (hk : k < c) : ent (tabM r c f) i k = f i k := by
 unfold ent tabM
 show gv (tabV (r * c) fun p => f (p / c) (p % c)) (i * c + k) = f i k
 rw [gv_tab (ix_lt hi hk), ix_div hk, ix_mod hk]
/-- A matrix of n rows, k columns, whose elements have a size. -/
structure GM (x : Mx) (n k K : Nat) : Prop where
 r : x.r = n
 c : x.c = k
 len : x.l.length = n * k
 sz : ∀ q ∈ x.l, Sz q K
theorem GM.at {x : Mx} {n k K : Nat} (h : GM x n k K) (i j : Nat) (hi : i < n) (hj : j < k) : Sz (ent x i j) K := by
 unfold ent
 rw [h.c]
 exact qsk x.l h.sz _ (by rw [h.len]; exact ix_lt hi hj)
theorem GM.mono {x : Mx} {n k K M : Nat} (h : GM x n k K) (hm : K ≤ M) : GM x n k M := ⟨h.r, h.c, h.len, fun q hq => (h.sz q hq).mono hm⟩
theorem GM.tab {n k K : Nat} {f : Nat → Nat → Rat} (h : ∀ i j, i < n → j < k → Sz (f i j) K) : GM (tabM n k f) n k K :=
 ⟨rfl, rfl, tabV_len _ _, tab_all fun p hp => h _ _ (ix_row hp).1 (ix_row hp).2⟩
def sumM (n k : Nat) (x y : Mx) : Mx := tabM n k fun i j => ent x i j + ent y i j
def turM (n k : Nat) (x : Mx) : Mx := tabM k n fun i j => ent x j i
def mulM (n k p : Nat) (x y : Mx) : Mx := tabM n p fun i j => bsV k fun t => ent x i t * ent y t j
def oneM (n : Nat) : Mx := tabM n n fun i j => if i = j then 1 else 0
def appV (n k : Nat) (x : Mx) (v : List Rat) : List Rat := tabV n fun i => bsV k fun t => ent x i t * gv v t
def formM (n k : Nat) (x : Mx) (v w : List Rat) : Rat := bsV n fun i => gv v i * gv (appV n k x w) i
theorem GM.sum {x y : Mx} {n k K M : Nat} (hx : GM x n k K) (hy : GM y n k M) : GM (sumM n k x y) n k (K + M + 1) := GM.tab fun i j hi hj => (hx.at i j hi hj).add (hy.at i j hi hj)
theorem GM.tur {x : Mx} {n k K : Nat} (hx : GM x n k K) : GM (turM n k x) k n K := GM.tab fun i j hi hj => hx.at j i hj hi
theorem GM.mul {x y : Mx} {n k p K M : Nat} (hx : GM x n k K) (hy : GM y k p M) : GM (mulM n k p x y) n p (k * (K + M + 1) + 1) := GM.tab fun i j hi hj => bs_sz fun t ht => (hx.at i t hi ht).mul (hy.at t j ht hj)
theorem GM.one (n : Nat) : GM (oneM n) n n 1 := GM.tab fun i j hi hj => by
 split
 ·exact szc 1 (by decide +kernel) (by decide +kernel)
 ·exact szc 0 (by decide) (by decide)
theorem GM.app {x : Mx} {v : List Rat} {n k K M : Nat} (hx : GM x n k K) (hv : GV v k M) : GV (appV n k x v) n (k * (K + M + 1) + 1) := GV.tab fun i hi => bs_sz fun t ht => (hx.at i t hi ht).mul (hv.at t ht)
theorem GM.form {x : Mx} {v w : List Rat} {n k K M N : Nat} (hx : GM x n k K) (hv : GV v n M) (hw : GV w k N) : Sz (formM n k x v w) (n * (M + (k * (K + N + 1) + 1) + 1) + 1) := bs_sz fun i hi => (hv.at i hi).mul ((hx.app hw).at i hi)
-- sums
theorem bs_swap (n m : Nat) (f : Nat → Nat → Rat) : bsV n (fun i => bsV m fun j => f i j) = bsV m fun j => bsV n fun i => f i j := by
 induction n with
 | zero => exact (bs_zero m).symm
 | succ n ih =>
  show bsV n (fun i => bsV m fun j => f i j) + bsV m (fun j => f n j) = bsV m fun j => bsV n (fun i => f i j) + f n j
  rw [ih, bs_add]
theorem bs_mul_r (n : Nat) (c : Rat) (f : Nat → Rat) : bsV n (fun i => f i * c) = bsV n f * c := by
 rw [Rat.mul_comm, ← bs_mul]
 exact bs_congr fun i _ => Rat.mul_comm _ _
theorem bs_one (n i : Nat) (hi : i < n) (f : Nat → Rat) : bsV n (fun t => (if i = t then 1 else 0) * f t) = f i := by
 induction n with
 | zero => omega
 | succ n ih =>
  show bsV n (fun t => (if i = t then 1 else 0) * f t) + (if i = n then 1 else 0) * f n = f i
  rcases Nat.lt_or_ge i n with h | h
  ·rw [ih h, if_neg (by omega)]; grind
  ·obtain rfl : i = n := by omega
   rw [if_pos rfl, bs_congr (g := fun _ => 0) fun t ht => by rw [if_neg (by omega)]; grind, bs_zero]; grind
-- the ring
end Go.Proofs.YthffglapmkkohaaGreatDoor
namespace Go.Proofs.YthffglapmkkohaaGreatDoor
open Go.RowKit
/-- A grid: rows and columns. -/
abbrev Gd := Nat → Nat → Rat
/-- The rows of H are sums of multiples of the first R rows of G. -/
def Span (R : Nat) (G H : Gd) : Prop := ∀ i, i < R → ∃ y : Nat → Rat, ∀ j, H i j = bsV R fun r => y r * G r j
theorem Span.refl (R : Nat) (G : Gd) : Span R G G := fun i hi => ⟨fun r => if i = r then 1 else 0, fun j => (bs_one R i hi fun r => G r j).symm⟩
theorem Span.trans {R : Nat} {G H K : Gd} (h : Span R G H) (g : Span R H K) : Span R G K := fun i hi => by
 obtain ⟨y, hy⟩ := g i hi
 have hc : ∀ r, ∃ z : Nat → Rat, r < R → ∀ j, H r j = bsV R fun s => z s * G s j := fun r => by
  by_cases hr : r < R
  ·obtain ⟨z, hz⟩ := h r hr; exact ⟨z, fun _ => hz⟩
  ·exact ⟨fun _ => 0, fun h => absurd h hr⟩
 obtain ⟨Z, hZ⟩ := Classical.axiomOfChoice hc
 refine ⟨fun s => bsV R fun r => y r * Z r s, fun j => ?_⟩
 rw [hy j, bs_congr (g := fun r => bsV R fun s => y r * (Z r s * G s j)) fun r hr => by rw [hZ r hr j, bs_mul]]
 rw [bs_swap]
 refine bs_congr fun s _ => ?_
 rw [← bs_mul_r]
 exact bs_congr fun r _ => by grind
/-- One row is what the old row is, multiplied, and another row's multiple more. -/
theorem Span.lin {R : Nat} {G H : Gd} (h : ∀ i, i < R → ∃ a c : Nat, ∃ p q : Rat, a < R ∧ c < R ∧ ∀ j, H i j = p * G a j + q * G c j) : Span R G H := fun i hi => by
 obtain ⟨a, c, p, q, ha, hc, e⟩ := h i hi
 refine ⟨fun r => p * (if a = r then 1 else 0) + q * (if c = r then 1 else 0), fun j => ?_⟩
 rw [e j, bs_congr (g := fun r => p * ((if a = r then 1 else 0) * G r j) + q * ((if c = r then 1 else 0) * G r j)) fun r _ => by grind, bs_add, bs_mul, bs_mul, bs_one R a ha, bs_one R c hc]
/-- The value of a row at a vector. -/
def rowX (n : Nat) (G : Gd) (x : Nat → Rat) (i : Nat) : Rat := bsV n fun j => G i j * x j
theorem Span.row {R n : Nat} {G H : Gd} (h : Span R G H) {x : Nat → Rat} (hx : ∀ i, i < R → rowX n G x i = 0) (i : Nat) (hi : i < R) : rowX n H x i = 0 := by
 obtain ⟨y, hy⟩ := h i hi
 unfold rowX
 rw [bs_congr (g := fun j => bsV R fun r => y r * (G r j * x j)) fun j _ => by rw [hy j, ← bs_mul_r]; exact bs_congr fun r _ => by grind]
 rw [bs_swap, bs_congr (g := fun _ => 0) fun r hr => by
  rw [bs_mul]; have := hx r hr; unfold rowX at this; rw [this]; grind]
 exact bs_zero R
def swpG (G : Gd) (a b : Nat) : Gd := fun i => if i = a then G b else if i = b then G a else G i
def divG (G : Gd) (t k : Nat) : Gd := fun i j => if i = t ∧ k ≤ j then G t j / G t k else G i j
/-- The rows behind t and ahead of m have been cleared at k. -/
def clrG (G : Gd) (t k m : Nat) : Gd := fun i j => if t < i ∧ i < m ∧ k ≤ j then G i j - G i k * G t j else G i j
/-- The first row from t on whose element k is not 0. -/
def fnd (G : Gd) (k : Nat) : Nat → Nat → Option Nat
 | _, 0 => none
 | t, n + 1 => if G t k ≠ 0 then some t else fnd G k (t + 1) n
theorem fnd_some {G : Gd} {k : Nat} : ∀ {n t i : Nat}, fnd G k t n = some i → t ≤ i ∧ i < t + n ∧ G i k ≠ 0 ∧ ∀ j, t ≤ j → j < i → G j k = 0 := by
 intro n
 induction n with
 | zero => intro t i h; cases h
 | succ n ih =>
  intro t i h
  unfold fnd at h
  by_cases h0 : G t k ≠ 0
  ·rw [if_pos h0] at h; cases h; exact ⟨Nat.le_refl _, by omega, h0, fun j _ _ => by omega⟩
  ·rw [if_neg h0] at h
   obtain ⟨h1, h2, h3, h4⟩ := ih h
   refine ⟨by omega, by omega, h3, fun j hj hi => ?_⟩
   by_cases e : j = t
   ·subst e; exact Classical.not_not.1 h0
   ·exact h4 j (by omega) hi
theorem fnd_none {G : Gd} {k : Nat} : ∀ {n t : Nat}, fnd G k t n = none → ∀ j, t ≤ j → j < t + n → G j k = 0 := by
 intro n
 induction n with
 | zero => intro t _ j _ _; omega
 | succ n ih =>
  intro t h j hj hn
  unfold fnd at h
  by_cases h0 : G t k ≠ 0
  ·rw [if_pos h0] at h; cases h
  ·rw [if_neg h0] at h
   by_cases e : j = t
   ·subst e; exact Classical.not_not.1 h0
   ·exact ih h j (by omega) (by omega)
structure ES where
 G : Gd
 pv : List Nat
 f : Rat
/-- What a column does. -/
def stepE (R k : Nat) (s : ES) : ES :=
 match fnd s.G k s.pv.length (R - s.pv.length) with
 | none => s
 | some i => ⟨clrG (divG (swpG s.G i s.pv.length) s.pv.length k) s.pv.length k R, s.pv ++ [k], (if i = s.pv.length then s.f else -s.f) * swpG s.G i s.pv.length s.pv.length k⟩
def descE (R : Nat) (s : ES) : Nat → ES
 | 0 => s
 | k + 1 => stepE R k (descE R s k)
/-- The rows as far as column k. -/
structure IE (R k : Nat) (s : ES) : Prop where
 le : s.pv.length ≤ R
 lt : ∀ r (h : r < s.pv.length), s.pv[r] < k
 up : ∀ r (h : r + 1 < s.pv.length), s.pv[r] < s.pv[r + 1]
 zl : ∀ r (h : r < s.pv.length), ∀ j, j < s.pv[r] → s.G r j = 0
 one : ∀ r (h : r < s.pv.length), s.G r s.pv[r] = 1
 zb : ∀ r (h : r < s.pv.length), ∀ i, r < i → i < R → s.G i s.pv[r] = 0
 z0 : ∀ i, s.pv.length ≤ i → i < R → ∀ j, j < k → s.G i j = 0
theorem IE.init (R : Nat) (G : Gd) (f : Rat) : IE R 0 ⟨G, [], f⟩ := ⟨Nat.zero_le _, fun r h => absurd h (Nat.not_lt_zero _), fun r h => absurd h (Nat.not_lt_zero _), fun r h => absurd h (Nat.not_lt_zero _), fun r h => absurd h (Nat.not_lt_zero _), fun r h => absurd h (Nat.not_lt_zero _), fun i _ _ j h => absurd h (Nat.not_lt_zero _)⟩
theorem IE.step {R k : Nat} {s : ES} (h : IE R k s) : IE R (k + 1) (stepE R k s) ∧ Span R s.G (stepE R k s).G ∧ Span R (stepE R k s).G s.G := by
 obtain ⟨G, pv, f⟩ := s
 have hle := h.le
 dsimp only at hle
 unfold stepE
 dsimp only
 cases hf : fnd G k pv.length (R - pv.length) with
 | none =>
  refine ⟨⟨h.le, fun r hr => Nat.lt_succ_of_lt (h.lt r hr), h.up, h.zl, h.one, h.zb, fun i h1 h2 j hj => ?_⟩, Span.refl _ _, Span.refl _ _⟩
  by_cases e : j = k
  ·subst e; exact fnd_none hf i h1 (by dsimp only at h1; omega)
  ·exact h.z0 i h1 h2 j (by omega)
 | some i =>
  obtain ⟨hti, hin, hne, -⟩ := fnd_some hf
  have hz0 := h.z0
  have hzl := h.zl
  have hone := h.one
  have hzb := h.zb
  have hlt := h.lt
  have hup := h.up
  dsimp only at hz0 hzl hone hzb hlt hup
  have hiR : i < R := by omega
  obtain ⟨t, ht⟩ : ∃ t, t = pv.length := ⟨_, rfl⟩
  have htR : t < R := by omega
  obtain ⟨G1, hG1⟩ : ∃ G1, G1 = swpG G i t := ⟨_, rfl⟩
  have g1 : ∀ r, r < t → G1 r = G r := fun r hr => by rw [hG1]; unfold swpG; rw [if_neg (by omega), if_neg (by omega)]
  have g1t : G1 t = G i := by
   rw [hG1]; unfold swpG
   by_cases e : t = i
   ·rw [if_pos e, e]
   ·rw [if_neg e, if_pos rfl]
  have g1z : ∀ a, t ≤ a → a < R → ∀ j, j < k → G1 a j = 0 := fun a ha haR j hj => by
   rw [hG1]; unfold swpG
   split
   ·exact hz0 t (by omega) htR j hj
   ·split
    ·exact hz0 i (by omega) hiR j hj
    ·exact hz0 a (by omega) haR j hj
  have g1b : ∀ r (hr : r < pv.length), ∀ a, r < a → a < R → G1 a pv[r] = 0 := fun r hr a ha haR => by
   rw [hG1]; unfold swpG
   split
   ·exact hzb r hr t (by omega) htR
   ·split
    ·exact hzb r hr i (by omega) hiR
    ·exact hzb r hr a ha haR
  have hk : G1 t k ≠ 0 := by rw [g1t]; exact hne
  have s1 : Span R G G1 ∧ Span R G1 G := by
   constructor
   ·refine Span.lin fun a ha => ?_
    by_cases e : a = i
    ·exact ⟨t, t, 1, 0, htR, htR, fun j => by rw [hG1]; unfold swpG; rw [if_pos e]; grind⟩
    ·by_cases e2 : a = t
     ·exact ⟨i, i, 1, 0, hiR, hiR, fun j => by rw [hG1]; unfold swpG; rw [if_neg e, if_pos e2]; grind⟩
     ·exact ⟨a, a, 1, 0, ha, ha, fun j => by rw [hG1]; unfold swpG; rw [if_neg e, if_neg e2]; grind⟩
   ·refine Span.lin fun a ha => ?_
    by_cases e : a = i
    ·exact ⟨t, t, 1, 0, htR, htR, fun j => by rw [g1t, e]; grind⟩
    ·by_cases e2 : a = t
     ·exact ⟨i, i, 1, 0, hiR, hiR, fun j => by rw [hG1]; unfold swpG; rw [if_pos rfl, e2]; grind⟩
     ·exact ⟨a, a, 1, 0, ha, ha, fun j => by rw [hG1]; unfold swpG; rw [if_neg e, if_neg e2]; grind⟩
  obtain ⟨G2, hG2⟩ : ∃ G2, G2 = divG G1 t k := ⟨_, rfl⟩
  have g2 : ∀ r, r ≠ t → G2 r = G1 r := fun r hr => by funext j; rw [hG2]; unfold divG; rw [if_neg fun h => hr h.1]
  have g2t : ∀ j, G2 t j = G1 t j / G1 t k := fun j => by
   rw [hG2]; unfold divG
   by_cases e : k ≤ j
   ·rw [if_pos ⟨rfl, e⟩]
   ·rw [if_neg fun h => e h.2, g1z t (Nat.le_refl _) htR j (by omega)]; grind
  have s2 : Span R G1 G2 ∧ Span R G2 G1 := by
   constructor
   ·refine Span.lin fun a ha => ?_
    by_cases e : a = t
    ·exact ⟨t, t, (G1 t k)⁻¹, 0, htR, htR, fun j => by rw [e, g2t]; grind⟩
    ·exact ⟨a, a, 1, 0, ha, ha, fun j => by rw [g2 a e]; grind⟩
   ·refine Span.lin fun a ha => ?_
    by_cases e : a = t
    ·exact ⟨t, t, G1 t k, 0, htR, htR, fun j => by rw [e, g2t]; grind⟩
    ·exact ⟨a, a, 1, 0, ha, ha, fun j => by rw [g2 a e]; grind⟩
  have g2z : ∀ a, t ≤ a → a < R → ∀ j, j < k → G2 a j = 0 := fun a ha haR j hj => by
   by_cases e : a = t
   ·rw [e, g2t, g1z t (Nat.le_refl _) htR j hj]; grind
   ·rw [g2 a e]; exact g1z a ha haR j hj
  have g2k : G2 t k = 1 := by rw [g2t]; grind
  obtain ⟨G3, hG3⟩ : ∃ G3, G3 = clrG G2 t k R := ⟨_, rfl⟩
  have g3 : ∀ r, r ≤ t → G3 r = G2 r := fun r hr => by funext j; rw [hG3]; unfold clrG; rw [if_neg fun h => by omega]
  have g3t : ∀ a, t < a → a < R → ∀ j, G3 a j = G2 a j - G2 a k * G2 t j := fun a ha haR j => by
   rw [hG3]; unfold clrG
   by_cases e : k ≤ j
   ·rw [if_pos ⟨ha, haR, e⟩]
   ·rw [if_neg fun h => e h.2.2, g2z t (Nat.le_refl _) htR j (by omega)]; grind
  have s3 : Span R G2 G3 ∧ Span R G3 G2 := by
   constructor
   ·refine Span.lin fun a ha => ?_
    by_cases e : t < a
    ·exact ⟨a, t, 1, -G2 a k, ha, htR, fun j => by rw [g3t a e ha]; grind⟩
    ·exact ⟨a, a, 1, 0, ha, ha, fun j => by rw [g3 a (by omega)]; grind⟩
   ·refine Span.lin fun a ha => ?_
    by_cases e : t < a
    ·exact ⟨a, t, 1, G2 a k, ha, htR, fun j => by rw [g3t a e ha, g3 t (Nat.le_refl _)]; grind⟩
    ·exact ⟨a, a, 1, 0, ha, ha, fun j => by rw [g3 a (by omega)]; grind⟩
  dsimp only
  rw [← ht, ← hG1, ← hG2, ← hG3]
  refine ⟨⟨?_, ?_, ?_, ?_, ?_, ?_, ?_⟩, s1.1.trans (s2.1.trans s3.1), s3.2.trans (s2.2.trans s1.2)⟩
  all_goals dsimp only
  ·rw [List.length_append, List.length_singleton]; omega
  ·intro r hr
   rw [List.length_append, List.length_singleton] at hr
   by_cases e : r < pv.length
   ·rw [List.getElem_append_left e]; have := hlt r e; omega
   ·rw [List.getElem_append_right (by omega)]; simp
  ·intro r hr
   rw [List.length_append, List.length_singleton] at hr
   rw [List.getElem_append_left (by omega)]
   by_cases e : r + 1 < pv.length
   ·rw [List.getElem_append_left e]; exact hup r e
   ·rw [List.getElem_append_right (by omega)]; simp; exact hlt r (by omega)
  ·intro r hr j hj
   rw [List.length_append, List.length_singleton] at hr
   by_cases e : r < pv.length
   ·rw [List.getElem_append_left e] at hj
    rw [g3 r (by omega), g2 r (by omega), g1 r (by omega)]; exact hzl r e j hj
   ·rw [List.getElem_append_right (by omega)] at hj
    simp at hj
    obtain rfl : r = t := by omega
    rw [g3 r (Nat.le_refl _)]; exact g2z r (Nat.le_refl _) htR j hj
  ·intro r hr
   rw [List.length_append, List.length_singleton] at hr
   by_cases e : r < pv.length
   ·rw [List.getElem_append_left e, g3 r (by omega), g2 r (by omega), g1 r (by omega)]; exact hone r e
   ·rw [List.getElem_append_right (by omega)]
    obtain rfl : r = t := by omega
    rw [g3 r (Nat.le_refl _)]; simpa using g2k
  ·intro r hr a ha haR
   rw [List.length_append, List.length_singleton] at hr
   by_cases e : r < pv.length
   ·rw [List.getElem_append_left e]
    have b2 : ∀ a, r < a → a < R → G2 a pv[r] = 0 := fun a ha haR => by
     by_cases e2 : a = t
     ·rw [e2, g2t, g1b r e t (by omega) htR]; grind
     ·rw [g2 a e2]; exact g1b r e a ha haR
    by_cases e3 : t < a
    ·rw [g3t a e3 haR, b2 a ha haR, b2 t (by omega) htR]; grind
    ·rw [g3 a (by omega)]; exact b2 a ha haR
   ·rw [List.getElem_append_right (by omega)]
    obtain rfl : r = t := by omega
    have : G3 a k = 0 := by rw [g3t a ha haR, g2k]; grind
    simpa using this
  ·intro a ha haR j hj
   rw [List.length_append, List.length_singleton] at ha
   rw [g3t a (by omega) haR]
   by_cases e : j = k
   ·rw [e, g2k]; grind
   ·rw [g2z a (by omega) haR j (by omega), g2z t (Nat.le_refl _) htR j (by omega)]; grind
theorem desc_ok {R : Nat} (G : Gd) (f : Rat) : ∀ k, IE R k (descE R ⟨G, [], f⟩ k) ∧ Span R G (descE R ⟨G, [], f⟩ k).G ∧ Span R (descE R ⟨G, [], f⟩ k).G G
 | 0 => ⟨IE.init R G f, Span.refl _ _, Span.refl _ _⟩
 | k + 1 => by
  obtain ⟨h1, h2, h3⟩ := desc_ok (R := R) G f k
  obtain ⟨g1, g2, g3⟩ := h1.step
  exact ⟨g1, h2.trans g2, g3.trans h3⟩
/-- Rows ahead of i are cleared at k with row i. -/
def clrU (G : Gd) (i k : Nat) : Gd := fun r j => if r < i ∧ k ≤ j then G r j - G r k * G i j else G r j
/-- n rows, from the last pivot on, have been used. -/
def ascE (pv : List Nat) (G : Gd) : Nat → Gd
 | 0 => G
 | n + 1 => clrU (ascE pv G n) (pv.length - 1 - n) (pv.getD (pv.length - 1 - n) 0)
/-- The reduced form, whose first c columns are the matrix's. -/
structure RE (R c : Nat) (pv : List Nat) (G : Gd) (n : Nat) : Prop where
 le : pv.length ≤ R
 lt : ∀ r (h : r < pv.length), pv[r] < c
 up : ∀ r (h : r + 1 < pv.length), pv[r] < pv[r + 1]
 zl : ∀ r (h : r < pv.length), ∀ j, j < pv[r] → G r j = 0
 one : ∀ r (h : r < pv.length), G r pv[r] = 1
 zb : ∀ r (h : r < pv.length), ∀ i, r < i → i < R → G i pv[r] = 0
 z0 : ∀ i, pv.length ≤ i → i < R → ∀ j, j < c → G i j = 0
 za : ∀ r (h : r < pv.length), pv.length ≤ r + n → ∀ i, i < r → G i pv[r] = 0
theorem up_lt {pv : List Nat} (up : ∀ r (h : r + 1 < pv.length), pv[r] < pv[r + 1]) : ∀ (a d : Nat) (h : a + d + 1 < pv.length), pv[a] < pv[a + d + 1] := by
 intro a d
 induction d with
 | zero => intro h; exact up a h
 | succ d ih => intro h; exact Nat.lt_trans (ih (by omega)) (up (a + d + 1) h)
theorem up_lt' {pv : List Nat} (up : ∀ r (h : r + 1 < pv.length), pv[r] < pv[r + 1]) {a b : Nat} (hab : a < b) (hb : b < pv.length) : pv[a] < pv[b] := by
 obtain ⟨d, rfl⟩ : ∃ d, b = a + d + 1 := ⟨b - a - 1, by omega⟩
 exact up_lt up a d hb
theorem RE.init {R c : Nat} {s : ES} (h : IE R c s) : RE R c s.pv s.G 0 := ⟨h.le, h.lt, h.up, h.zl, h.one, h.zb, h.z0, fun r hr hn => by omega⟩
theorem RE.step {R c n : Nat} {pv : List Nat} {G : Gd} (h : RE R c pv G n) (hn : n < pv.length) :
  RE R c pv (clrU G (pv.length - 1 - n) (pv.getD (pv.length - 1 - n) 0)) (n + 1) ∧ Span R G (clrU G (pv.length - 1 - n) (pv.getD (pv.length - 1 - n) 0)) ∧ Span R (clrU G (pv.length - 1 - n) (pv.getD (pv.length - 1 - n) 0)) G := by
 obtain ⟨i, hi⟩ : ∃ i, i = pv.length - 1 - n := ⟨_, rfl⟩
 have hil : i < pv.length := by omega
 have hk : pv.getD i 0 = pv[i] := by rw [List.getD_eq_getElem?_getD, List.getElem?_eq_getElem hil]; rfl
 rw [← hi, hk]
 obtain ⟨H, hH⟩ : ∃ H, H = clrU G i pv[i] := ⟨_, rfl⟩
 rw [← hH]
 have hiR := h.le
 have e1 : ∀ r, i ≤ r → H r = G r := fun r hr => by funext j; rw [hH]; unfold clrU; rw [if_neg fun e => by omega]
 have e2 : ∀ r, r < i → ∀ j, H r j = G r j - G r pv[i] * G i j := fun r hr j => by
  rw [hH]; unfold clrU
  by_cases e : pv[i] ≤ j
  ·rw [if_pos ⟨hr, e⟩]
  ·rw [if_neg fun h => e h.2, h.zl i hil j (by omega)]; grind
 refine ⟨⟨h.le, h.lt, h.up, ?_, ?_, ?_, ?_, ?_⟩, ?_, ?_⟩
 ·intro r hr j hj
  by_cases e : r < i
  ·have := up_lt' h.up e hil
   rw [e2 r e, h.zl r hr j hj, h.zl i hil j (by omega)]; grind
  ·rw [e1 r (by omega)]; exact h.zl r hr j hj
 ·intro r hr
  by_cases e : r < i
  ·rw [e2 r e, h.one r hr, h.zl i hil _ (up_lt' h.up e hil)]; grind
  ·rw [e1 r (by omega)]; exact h.one r hr
 ·intro r hr a ha haR
  by_cases e : a < i
  ·rw [e2 a e, h.zb r hr a ha haR, h.zb r hr i (by omega) (by omega)]; grind
  ·rw [e1 a (by omega)]; exact h.zb r hr a ha haR
 ·intro a ha haR j hj
  rw [e1 a (by omega)]; exact h.z0 a ha haR j hj
 ·intro r hr hrn a ha
  by_cases e : a < i
  ·rw [e2 a e]
   by_cases e3 : r = i
   ·subst e3; rw [h.one r hr]; grind
   ·rw [h.za r hr (by omega) a ha, h.za r hr (by omega) i (by omega)]; grind
  ·rw [e1 a (by omega)]; exact h.za r hr (by omega) a ha
 ·refine Span.lin fun a ha => ?_
  by_cases e : a < i
  ·exact ⟨a, i, 1, -G a pv[i], ha, by omega, fun j => by rw [e2 a e]; grind⟩
  ·exact ⟨a, a, 1, 0, ha, ha, fun j => by rw [e1 a (by omega)]; grind⟩
 ·refine Span.lin fun a ha => ?_
  by_cases e : a < i
  ·exact ⟨a, i, 1, G a pv[i], ha, by omega, fun j => by rw [e2 a e, e1 i (Nat.le_refl _)]; grind⟩
  ·exact ⟨a, a, 1, 0, ha, ha, fun j => by rw [e1 a (by omega)]; grind⟩
theorem asc_ok {R c : Nat} {s : ES} (h : IE R c s) : ∀ n, n ≤ s.pv.length → RE R c s.pv (ascE s.pv s.G n) n ∧ Span R s.G (ascE s.pv s.G n) ∧ Span R (ascE s.pv s.G n) s.G
 | 0, _ => ⟨RE.init h, Span.refl _ _, Span.refl _ _⟩
 | n + 1, hn => by
  obtain ⟨h1, h2, h3⟩ := asc_ok h n (by omega)
  obtain ⟨g1, g2, g3⟩ := h1.step (by omega)
  exact ⟨g1, h2.trans g2, g3.trans h3⟩
/-- The whole: descend over c columns, ascend. -/
def redE (R c : Nat) (G : Gd) : List Nat × Gd := let s := descE R ⟨G, [], 1⟩ c; (s.pv, ascE s.pv s.G s.pv.length)
structure Red (R c : Nat) (pv : List Nat) (G : Gd) : Prop where
 le : pv.length ≤ R
 lt : ∀ r (h : r < pv.length), pv[r] < c
 up : ∀ r (h : r + 1 < pv.length), pv[r] < pv[r + 1]
 zl : ∀ r (h : r < pv.length), ∀ j, j < pv[r] → G r j = 0
 one : ∀ r (h : r < pv.length), G r pv[r] = 1
 zz : ∀ r (h : r < pv.length), ∀ i, i < R → i ≠ r → G i pv[r] = 0
 z0 : ∀ i, pv.length ≤ i → i < R → ∀ j, j < c → G i j = 0
theorem red_ok (R c : Nat) (G : Gd) : Red R c (redE R c G).1 (redE R c G).2 ∧ Span R G (redE R c G).2 ∧ Span R (redE R c G).2 G := by
 obtain ⟨h1, h2, h3⟩ := desc_ok (R := R) G 1 c
 obtain ⟨g1, g2, g3⟩ := asc_ok h1 _ (Nat.le_refl _)
 exact ⟨⟨g1.le, g1.lt, g1.up, g1.zl, g1.one, fun r hr i hi hne => by
  rcases Nat.lt_or_ge i r with e | e
  ·exact g1.za r hr (by omega) i e
  ·exact g1.zb r hr i (by omega) hi, g1.z0⟩, h2.trans g2, g3.trans h3⟩
section
variable {R c : Nat} {pv : List Nat} {G : Gd} (h : Red R c pv G)
include h
theorem Red.inj {a b : Nat} (ha : a < pv.length) (hb : b < pv.length) (e : pv[a] = pv[b]) : a = b := by
 rcases Nat.lt_trichotomy a b with g | g | g
 ·have := up_lt' h.up g hb; omega
 ·exact g
 ·have := up_lt' h.up g ha; omega
/-- A row at a vector that is 0 where no pivot is. -/
theorem Red.row_piv {x : Nat → Rat} (hx : ∀ j, j < c → j ∉ pv → x j = 0) (i : Nat) (hi : i < pv.length) : rowX c G x i = x pv[i] := by
 unfold rowX
 rw [bs_congr (g := fun j => (if pv[i] = j then 1 else 0) * x pv[i]) fun j hj => ?_, bs_one c pv[i] (h.lt i hi) fun _ => x pv[i]]
 by_cases e : pv[i] = j
 ·rw [if_pos e, ← e, h.one i hi]
 ·rw [if_neg e]
  by_cases g : j ∈ pv
  ·obtain ⟨r, hr, rfl⟩ := List.getElem_of_mem g
   rw [h.zz r hr i (by have := h.le; omega) (fun e2 => e (by subst e2; rfl))]; grind
  ·rw [hx j hj g]; grind
theorem Red.row_zero {x : Nat → Rat} (i : Nat) (hi : pv.length ≤ i) (hR : i < R) : rowX c G x i = 0 := by
 unfold rowX
 rw [bs_congr (g := fun _ => 0) fun j hj => by rw [h.z0 i hi hR j hj]; grind]
 exact bs_zero c
end
/-- The vector of the kernel for the column k, which has no pivot. -/
def kvE (pv : List Nat) (G : Gd) (k j : Nat) : Rat := if j = k then 1 else if j ∈ pv then -G (pv.idxOf j) k else 0
/-- The solution that is 0 where no pivot is. -/
def solE (pv : List Nat) (G : Gd) (c j : Nat) : Rat := if j ∈ pv then G (pv.idxOf j) c else 0
theorem idx_piv {R c : Nat} {pv : List Nat} {G : Gd} (h : Red R c pv G) (i : Nat) (hi : i < pv.length) : pv.idxOf pv[i] = i := by
 have h1 : pv.idxOf pv[i] < pv.length := List.idxOf_lt_length_of_mem (List.getElem_mem hi)
 exact h.inj h1 hi (List.getElem_idxOf h1)
theorem Red.ker {R c : Nat} {pv : List Nat} {G : Gd} (h : Red R c pv G) {k : Nat} (hk : k < c) (hf : k ∉ pv) (i : Nat) (hi : i < R) : rowX c G (kvE pv G k) i = 0 := by
 rcases Nat.lt_or_ge i pv.length with g | g
 ·unfold rowX
  rw [bs_congr (g := fun j => (if k = j then 1 else 0) * G i k + (if pv[i] = j then 1 else 0) * -G i k) fun j hj => ?_, bs_add, bs_one c k hk fun _ => G i k, bs_one c pv[i] (h.lt i g) fun _ => -G i k]
  ·grind
  unfold kvE
  by_cases e : j = k
  ·subst e
   rw [if_pos rfl, if_pos rfl, if_neg (show ¬ pv[i] = j from fun e2 => hf (e2 ▸ List.getElem_mem g))]; grind
  ·rw [if_neg e, if_neg (show ¬ k = j from fun e2 => e e2.symm)]
   by_cases m : j ∈ pv
   ·rw [if_pos m]
    obtain ⟨r, hr, rfl⟩ := List.getElem_of_mem m
    rw [idx_piv h r hr]
    by_cases e3 : i = r
    ·subst e3; rw [if_pos rfl, h.one i g]; grind
    ·rw [if_neg (show ¬ pv[i] = pv[r] from fun e4 => e3 (h.inj g hr e4)), h.zz r hr i hi e3]; grind
   ·rw [if_neg m, if_neg (show ¬ pv[i] = j from fun e2 => m (e2 ▸ List.getElem_mem g))]; grind
 ·exact h.row_zero i g hi
/-- What the kernel holds is what its elements without pivots say. -/
theorem Red.ker_zero {R c : Nat} {pv : List Nat} {G : Gd} (h : Red R c pv G) {x : Nat → Rat} (hx : ∀ i, i < R → rowX c G x i = 0) (h0 : ∀ j, j < c → j ∉ pv → x j = 0) : ∀ j, j < c → x j = 0 := fun j hj => by
 by_cases m : j ∈ pv
 ·obtain ⟨r, hr, rfl⟩ := List.getElem_of_mem m
  rw [← h.row_piv h0 r hr]; exact hx r (by have := h.le; omega)
 ·exact h0 j hj m
theorem Red.sol {R c : Nat} {pv : List Nat} {G : Gd} (h : Red R c pv G) (hz : ∀ i, pv.length ≤ i → i < R → G i c = 0) (i : Nat) (hi : i < R) : rowX c G (solE pv G c) i = G i c := by
 rcases Nat.lt_or_ge i pv.length with g | g
 ·rw [h.row_piv (fun j _ hj => by unfold solE; rw [if_neg hj]) i g]
  unfold solE
  rw [if_pos (List.getElem_mem g), idx_piv h i g]
 ·rw [h.row_zero i g hi, hz i g hi]
/-- A vector with a -1 behind it. -/
def ext1 (c : Nat) (x : Nat → Rat) (j : Nat) : Rat := if j = c then -1 else x j
theorem row_ext (c : Nat) (G : Gd) (x : Nat → Rat) (i : Nat) : rowX (c + 1) G (ext1 c x) i = rowX c G x i - G i c := by
 show bsV c _ + G i c * ext1 c x c = _
 rw [bs_congr (g := fun j => G i j * x j) fun j hj => by unfold ext1; rw [if_neg (by omega)]]
 unfold ext1 rowX
 rw [if_pos rfl]; grind
/-- Solutions of the reduced system are those of the system. -/
theorem sol_iff {R c : Nat} {G H : Gd} (s1 : Span R G H) (s2 : Span R H G) (x : Nat → Rat) : (∀ i, i < R → rowX c G x i = G i c) ↔ (∀ i, i < R → rowX c H x i = H i c) := by
 have key : ∀ {G H : Gd}, Span R G H → (∀ i, i < R → rowX c G x i = G i c) → ∀ i, i < R → rowX c H x i = H i c := fun {G H} s h i hi => by
  have := s.row (n := c + 1) (x := ext1 c x) (fun i hi => by rw [row_ext, h i hi]; grind) i hi
  rw [row_ext] at this
  grind
 exact ⟨key s1, key s2⟩
theorem ker_iff {R c : Nat} {G H : Gd} (s1 : Span R G H) (s2 : Span R H G) (x : Nat → Rat) : (∀ i, i < R → rowX c G x i = 0) ↔ (∀ i, i < R → rowX c H x i = 0) := ⟨fun h => s1.row h, fun h => s2.row h⟩
/-- A system is solvable, or there is a certificate that it is not. -/
theorem solve_iff (R c : Nat) (G : Gd) : (∀ i, (redE R c G).1.length ≤ i → i < R → (redE R c G).2 i c = 0) ↔ ∃ x : Nat → Rat, ∀ i, i < R → rowX c G x i = G i c := by
 obtain ⟨h, s1, s2⟩ := red_ok R c G
 constructor
 ·intro hz
  exact ⟨_, (sol_iff s1 s2 _).2 (h.sol hz)⟩
 ·rintro ⟨x, hx⟩ i hi hR
  rw [← (sol_iff s1 s2 x).1 hx i hR, h.row_zero i hi hR]
theorem against {R c : Nat} {G : Gd} (hn : ¬ ∃ x : Nat → Rat, ∀ i, i < R → rowX c G x i = G i c) : ∃ y : Nat → Rat, (∀ j, j < c → (bsV R fun r => y r * G r j) = 0) ∧ (bsV R fun r => y r * G r c) = 1 := by
 obtain ⟨h, s1, s2⟩ := red_ok R c G
 rw [← solve_iff] at hn
 obtain ⟨i, hi⟩ : ∃ i, (redE R c G).1.length ≤ i ∧ i < R ∧ (redE R c G).2 i c ≠ 0 := by
  apply Classical.byContradiction
  intro hc
  exact hn fun i h1 h2 => Classical.byContradiction fun h3 => hc ⟨i, h1, h2, h3⟩
 obtain ⟨h1, h2, h3⟩ := hi
 obtain ⟨y, hy⟩ := s1 i h2
 refine ⟨fun r => ((redE R c G).2 i c)⁻¹ * y r, fun j hj => ?_, ?_⟩
 ·rw [bs_congr (g := fun r => ((redE R c G).2 i c)⁻¹ * (y r * G r j)) fun r _ => by grind, bs_mul, ← hy j, h.z0 i h1 h2 j hj]; grind
 ·rw [bs_congr (g := fun r => ((redE R c G).2 i c)⁻¹ * (y r * G r c)) fun r _ => by grind, bs_mul, ← hy c]; grind
theorem not_both {R c : Nat} {G : Gd} {x y : Nat → Rat} (hx : ∀ i, i < R → rowX c G x i = G i c) (hy : ∀ j, j < c → (bsV R fun r => y r * G r j) = 0) (h1 : (bsV R fun r => y r * G r c) = 1) : False := by
 have e : (bsV R fun r => y r * G r c) = bsV R fun r => bsV c fun j => y r * G r j * x j := bs_congr fun r hr => by
  rw [← hx r hr]; unfold rowX; rw [← bs_mul]; exact bs_congr fun j _ => by grind
 have e2 : (bsV c fun j => bsV R fun r => y r * G r j * x j) = bsV c fun _ => 0 := bs_congr fun j hj => by rw [bs_mul_r, hy j hj]; grind
 rw [bs_swap, e2, bs_zero] at e
 rw [e] at h1
 exact absurd h1 (by decide)
theorem kv_far {R c : Nat} {pv : List Nat} {G : Gd} (h : Red R c pv G) {k j : Nat} (hj : k < j) : kvE pv G k j = 0 := by
 unfold kvE
 rw [if_neg (by omega)]
 by_cases m : j ∈ pv
 ·obtain ⟨r, hr, rfl⟩ := List.getElem_of_mem m
  rw [if_pos m, idx_piv h r hr, h.zl r hr k hj]; grind
 ·rw [if_neg m]
theorem Red.free_iff {R c : Nat} {pv : List Nat} {G : Gd} (h : Red R c pv G) {k : Nat} (hk : k < c) : k ∉ pv ↔ ∃ x : Nat → Rat, (∀ i, i < R → rowX c G x i = 0) ∧ x k = 1 ∧ ∀ j, k < j → j < c → x j = 0 := by
 constructor
 ·intro hf
  exact ⟨kvE pv G k, fun i hi => h.ker hk hf i hi, by unfold kvE; rw [if_pos rfl], fun j hj _ => kv_far h hj⟩
 ·rintro ⟨x, hx, h1, h2⟩ hm
  obtain ⟨r, hr, rfl⟩ := List.getElem_of_mem hm
  have := hx r (by have := h.le; omega)
  unfold rowX at this
  rw [bs_congr (g := fun j => (if pv[r] = j then 1 else 0) * x pv[r]) fun j hj => ?_, bs_one c _ hk fun _ => x pv[r], h1] at this
  ·exact absurd this (by decide)
  ·rcases Nat.lt_trichotomy j pv[r] with g | g | g
   ·rw [h.zl r hr j g, if_neg (by omega)]; grind
   ·rw [if_pos g.symm, g, h.one r hr]
   ·rw [h2 j g hj, if_neg (by omega)]; grind
theorem up_ext {p q : List Nat} (hp : ∀ r (h : r + 1 < p.length), p[r] < p[r + 1]) (hq : ∀ r (h : r + 1 < q.length), q[r] < q[r + 1]) (hm : ∀ k, k ∈ p ↔ k ∈ q) : p = q := by
 have key : ∀ {p q : List Nat}, (∀ r (h : r + 1 < p.length), p[r] < p[r + 1]) → (∀ r (h : r + 1 < q.length), q[r] < q[r + 1]) → (∀ k, k ∈ p ↔ k ∈ q) → ∀ n (h1 : n < p.length), (∀ m (hm : m < n), p[m]? = q[m]?) → p[n]? = q[n]? := by
  intro p q hp hq hm n h1 ih
  obtain ⟨b, hb, e⟩ := List.getElem_of_mem ((hm _).1 (List.getElem_mem h1))
  have hnb : n ≤ b := Nat.le_of_not_lt fun g => by
   have e2 := ih b g
   rw [List.getElem?_eq_getElem hb, List.getElem?_eq_getElem (by omega)] at e2
   have e3 : p[b] = q[b] := by simpa using e2
   have := up_lt' hp g h1
   omega
  have hnq : n < q.length := by omega
  obtain ⟨a, ha, e4⟩ := List.getElem_of_mem ((hm _).2 (List.getElem_mem hnq))
  have hna : n ≤ a := Nat.le_of_not_lt fun g => by
   have e2 := ih a g
   rw [List.getElem?_eq_getElem ha, List.getElem?_eq_getElem (by omega)] at e2
   have e3 : p[a] = q[a] := by simpa using e2
   have := up_lt' hq g hnq
   omega
  have g1 : p[n] ≤ p[a] := by
   rcases Nat.lt_or_ge n a with g | g
   ·exact Nat.le_of_lt (up_lt' hp g ha)
   ·obtain rfl : n = a := by omega
    exact Nat.le_refl _
  have g2 : q[n] ≤ q[b] := by
   rcases Nat.lt_or_ge n b with g | g
   ·exact Nat.le_of_lt (up_lt' hq g hb)
   ·obtain rfl : n = b := by omega
    exact Nat.le_refl _
  rw [List.getElem?_eq_getElem h1, List.getElem?_eq_getElem hnq]
  congr 1; omega
 apply List.ext_getElem?
 intro n
 induction n using Nat.strongRecOn with
 | ind n ih =>
  rcases Nat.lt_or_ge n p.length with g | g
  ·exact key hp hq hm n g ih
  ·rcases Nat.lt_or_ge n q.length with g2 | g2
   ·exact (key hq hp (fun k => (hm k).symm) n g2 fun m hm => (ih m hm).symm).symm
   ·rw [List.getElem?_eq_none g, List.getElem?_eq_none g2]
/-- The reduced form is one for each row space. -/
theorem Red.uniq {R c : Nat} {p q : List Nat} {G H : Gd} (h : Red R c p G) (g : Red R c q H) (s1 : Span R G H) (s2 : Span R H G) : p = q ∧ ∀ i, i < R → ∀ j, j < c → G i j = H i j := by
 have hk := ker_iff (c := c) s1 s2
 have e : p = q := up_ext h.up g.up fun k => by
  have hlt : ∀ {p : List Nat} {G : Gd}, Red R c p G → k ∈ p → k < c := fun h hm => by
   obtain ⟨r, hr, rfl⟩ := List.getElem_of_mem hm; exact h.lt r hr
  by_cases hkc : k < c
  ·have h1 := h.free_iff hkc
   have h2 := g.free_iff hkc
   have h3 : k ∉ p ↔ k ∉ q := by
    rw [h1, h2]
    constructor
    ·rintro ⟨x, a, b⟩; exact ⟨x, (hk x).1 a, b⟩
    ·rintro ⟨x, a, b⟩; exact ⟨x, (hk x).2 a, b⟩
   exact ⟨fun a => Classical.byContradiction fun b => h3.2 b a, fun a => Classical.byContradiction fun b => h3.1 b a⟩
  ·exact ⟨fun a => absurd (hlt h a) hkc, fun a => absurd (hlt g a) hkc⟩
 subst e
 refine ⟨rfl, fun i hi j hj => ?_⟩
 rcases Nat.lt_or_ge i p.length with hl | hl
 ·by_cases m : j ∈ p
  ·obtain ⟨r, hr, rfl⟩ := List.getElem_of_mem m
   by_cases e : i = r
   ·subst e; rw [h.one i hr, g.one i hr]
   ·rw [h.zz r hr i hi e, g.zz r hr i hi e]
  ·have hd : ∀ a, a < c → kvE p G j a - kvE p H j a = 0 := h.ker_zero (x := fun a => kvE p G j a - kvE p H j a) (fun a ha => by
    have h1 := h.ker hj m a ha
    have h2 := (hk _).2 (g.ker hj m) a ha
    unfold rowX at h1 h2 ⊢
    rw [bs_congr (g := fun t => G a t * kvE p G j t + (-1) * (G a t * kvE p H j t)) fun t _ => by grind, bs_add, bs_mul, h1, h2]; grind) fun a ha hm => by
    unfold kvE
    by_cases e : a = j
    ·rw [if_pos e, if_pos e]; grind
    ·rw [if_neg e, if_neg e, if_neg hm, if_neg hm]; grind
   have := hd p[i] (h.lt i hl)
   unfold kvE at this
   rw [if_neg (show ¬ p[i] = j from fun e => m (e ▸ List.getElem_mem hl)), if_pos (List.getElem_mem hl), idx_piv h i hl] at this
   rw [if_neg (show ¬ p[i] = j from fun e => m (e ▸ List.getElem_mem hl)), if_pos (List.getElem_mem hl)] at this
   grind
 ·rw [h.z0 i hl hi j hj, g.z0 i hl hi j hj]
theorem Red.len_le {R c : Nat} {pv : List Nat} {G : Gd} (h : Red R c pv G) : pv.length ≤ c := by
 have key : ∀ n, n < pv.length → n ≤ pv.getD n 0 := by
  intro n
  induction n with
  | zero => intro _; exact Nat.zero_le _
  | succ n ih =>
   intro hn
   have h1 := ih (by omega)
   have h2 := h.up n hn
   rw [List.getD_eq_getElem?_getD, List.getElem?_eq_getElem (by omega)] at h1 ⊢
   simp only [Option.getD_some] at h1 ⊢
   omega
 rcases Nat.eq_zero_or_pos pv.length with e | e
 ·omega
 ·have h1 := key (pv.length - 1) (by omega)
  have h2 := h.lt (pv.length - 1) (by omega)
  rw [List.getD_eq_getElem?_getD, List.getElem?_eq_getElem (by omega)] at h1
  simp only [Option.getD_some] at h1
  omega
theorem bs_cut {n m : Nat} (h : m ≤ n) (f : Nat → Rat) (h0 : ∀ i, m ≤ i → i < n → f i = 0) : bsV n f = bsV m f := by
  induction n with
  | zero => obtain rfl : m = 0 := by omega
            rfl
  | succ n ih =>
    by_cases e : m = n + 1
    · rw [e]
    · show bsV n f + f n = _
      rw [ih (by omega) fun i h1 h2 => h0 i h1 (by omega), h0 n (by omega) (by omega)]; grind
/-- A matrix is its columns with pivots times its reduced form. -/
theorem Red.fac {R c : Nat} {pv : List Nat} {G F : Gd} (h : Red R c pv F) (s : Span R F G) (i : Nat) (hi : i < R) (j : Nat) (hj : j < c) : G i j = bsV pv.length fun t => G i (pv.getD t 0) * F t j := by
 obtain ⟨y, hy⟩ := s i hi
 have hle := h.le
 have cutj : ∀ j, j < c → G i j = bsV pv.length fun t => y t * F t j := fun j hj => by
  rw [hy j]; exact bs_cut hle _ fun a h1 h2 => by rw [h.z0 a h1 h2 j hj]; grind
 rw [cutj j hj]
 refine bs_congr fun t ht => ?_
 have e : pv.getD t 0 = pv[t] := by rw [List.getD_eq_getElem?_getD, List.getElem?_eq_getElem ht]; rfl
 rw [e, cutj _ (h.lt t ht)]
 rw [bs_congr (g := fun a => (if t = a then 1 else 0) * y a) fun a ha => ?_, bs_one _ t ht fun a => y a]
 by_cases e2 : t = a
 ·subst e2; rw [if_pos rfl, h.one t ht]; grind
 ·rw [if_neg e2, h.zz t ht a (by omega) (fun e => e2 e.symm)]; grind
end Go.Proofs.YthffglapmkkohaaGreatDoor
namespace Go.Proofs.YthffglapmkkohaaGreatDoor
open Go.RowKit
attribute [local irreducible] lo hs sm s64 c64 d64 b64 mh ml pd pc qd qc val hiB str cmpI srD lz nb zl zh zs fe rowV tabV gv bsV
/-- A slice of fractions whose capacity bears its length. -/
def CQ (w : World) (v : Value) (l : List Rat) : Prop := SlQ w v l ∧ ∃ ao n c, v = .slice ao n c ∧ n ≤ c
theorem CQ.below {w w' : World} {v : Value} {l : List Rat} (h : CQ w v l) (hb : Below w.heap.size w w') : CQ w' v l := ⟨h.1.below hb, h.2⟩
theorem CQ.form {w : World} {v : Value} {l : List Rat} (h : CQ w v l) : ∃ ao c, v = .slice ao l.length c ∧ l.length ≤ c := by
 obtain ⟨h1, ao, n, c, rfl, h2⟩ := h
 obtain ⟨a2, c2, e⟩ := slq_form' h1
 obtain ⟨rfl, rfl, rfl⟩ : ao = a2 ∧ n = l.length ∧ c = c2 := by simpa using e
 exact ⟨_, _, rfl, h2⟩
theorem NV.cq {B : Nat} {l : List Rat} {v : Value} {w : World} (h : NV B l v w) : CQ w v l := by
 obtain ⟨g, rfl, -, -⟩ := id h
 exact ⟨h.slq, _, _, _, rfl, Nat.le_refl _⟩
/-- A matrix as Go holds it. -/
def MT (w : World) (v : Value) (x : Mx) : Prop := ∃ u, v = .agg #[.int .i64 (x.r : Int), .int .i64 (x.c : Int), u] ∧ CQ w u x.l
theorem MT.below {w w' : World} {v : Value} {x : Mx} (h : MT w v x) (hb : Below w.heap.size w w') : MT w' v x := by
 obtain ⟨u, h1, h2⟩ := h
 exact ⟨u, h1, h2.below hb⟩
theorem MT.keeps (v : Value) (x : Mx) : Keeps (fun w => MT w v x) := fun _ _ hb h => h.below hb
theorem CQ.keeps (v : Value) (l : List Rat) : Keeps (fun w => CQ w v l) := fun _ _ hb h => h.below hb
theorem mt_of {w : World} {ao : Option Addr} {m d : Nat} {x : Mx} {n k : Int} (h : PT w (.slice ao m d) x.l) (hd : m ≤ d) (hr : (x.r : Int) = n) (hc : (x.c : Int) = k) : MT w (.agg #[.int .i64 n, .int .i64 k, .slice ao m d]) x := by
 subst hr hc; exact ⟨_, rfl, h, _, _, _, rfl, hd⟩
theorem mt_form {w : World} {v : Value} {x : Mx} {n k : Int} (h : MT w v x) (hr : (x.r : Int) = n) (hc : (x.c : Int) = k) : ∃ ao m d, v = .agg #[.int .i64 n, .int .i64 k, .slice ao m d] ∧ PT w (.slice ao m d) x.l ∧ m ≤ d := by
 subst hr hc
 obtain ⟨u, rfl, h2⟩ := h
 obtain ⟨ao, c, rfl, h3⟩ := h2.form
 exact ⟨ao, _, c, rfl, h2.1, h3⟩
/-- Fractions in a box, from a place on. -/
def FO (w : World) (g o : Nat) (l : List Rat) : Prop := ∀ i, i < l.length → w.cell? ⟨g, o + i * 5, none⟩ = some (.int .u64 ((zl (gv l i).num : Nat) : Int)) ∧ w.cell? ⟨g, o + i * 5 + 1, none⟩ = some (.string (zh (gv l i).num)) ∧ w.cell? ⟨g, o + i * 5 + 2, none⟩ = some (.bool (zs (gv l i).num)) ∧
 w.cell? ⟨g, o + i * 5 + 3, none⟩ = some (.int .u64 ((lo (fe (gv l i)) : Nat) : Int)) ∧ w.cell? ⟨g, o + i * 5 + 4, none⟩ = some (.string (hs (fe (gv l i))))
theorem FO.below {w w' : World} {g o : Nat} {l : List Rat} (h : FO w g o l) (hb : Below w.heap.size w w') : FO w' g o l := fun i hi => by
 obtain ⟨h0, h1, h2, h3, h4⟩ := h i hi
 exact ⟨keepsC hb h0, keepsC hb h1, keepsC hb h2, keepsC hb h3, keepsC hb h4⟩
/-- A slice of fractions at any place. -/
def RQ (w : World) (v : Value) (l : List Rat) : Prop := ∃ ao c, v = .slice ao l.length c ∧ (0 < l.length → ∃ g o, ao = some ⟨g, o, none⟩ ∧ FO w g o l)
theorem RQ.below {w w' : World} {v : Value} {l : List Rat} (h : RQ w v l) (hb : Below w.heap.size w w') : RQ w' v l := by
 obtain ⟨ao, c, h1, h2⟩ := h
 refine ⟨ao, c, h1, fun h0 => ?_⟩
 obtain ⟨g, o, h3, h4⟩ := h2 h0
 exact ⟨g, o, h3, h4.below hb⟩
theorem RQ.keeps (v : Value) (l : List Rat) : Keeps (fun w => RQ w v l) := fun _ _ hb h => h.below hb
theorem RQ.form {w : World} {v : Value} {l : List Rat} (h : RQ w v l) : ∃ ao c, v = .slice ao l.length c := by
 obtain ⟨ao, c, h1, _⟩ := h
 exact ⟨ao, c, h1⟩
theorem fs_fo {w : World} {g : Nat} {l : List Rat} (h : FS w g l) : FO w g 0 l := fun i hi => by
 simp only [Nat.zero_add]; exact fsc h i hi
theorem SlQ.rq {w : World} {v : Value} {l : List Rat} (h : SlQ w v l) : RQ w v l := by
 obtain ⟨ao, c, h1, h2⟩ := slq_len h
 refine ⟨ao, c, h1, fun h0 => ?_⟩
 obtain ⟨g, h3, h4⟩ := h2 h0
 exact ⟨g, 0, h3, fs_fo h4⟩
theorem rq_at {w : World} {ao : Option Addr} {n c : Nat} {l : List Rat} (h : RQ w (.slice ao n c) l) (h0 : 0 < l.length) : ∃ g o, ao = some ⟨g, o, none⟩ ∧ n = l.length ∧ FO w g o l := by
 obtain ⟨a2, c2, e, h2⟩ := h
 obtain ⟨rfl, rfl, rfl⟩ : ao = a2 ∧ n = l.length ∧ c = c2 := by simpa using e
 obtain ⟨g, o, h3, h4⟩ := h2 h0
 exact ⟨g, o, h3, rfl, h4⟩
/-- A row of a matrix. -/
def rowL (x : Mx) (i : Nat) : List Rat := tabV x.c fun k => ent x i k
theorem row_len (x : Mx) (i : Nat) : (rowL x i).length = x.c := tabV_len _ _
theorem gv_row {x : Mx} {i k : Nat} (h : k < x.c) : gv (rowL x i) k = ent x i k := gv_tab h
theorem row_slice {w : World} {ao : Option Addr} {n d : Nat} {x : Mx} (h : SlQ w (.slice ao n d) x.l) (hd : n ≤ d) (hl : x.l.length = x.r * x.c) (i : Nat) (hi : i < x.r) :
  ∃ a2, (∀ W, (Instr.slice 27 (.slice ao n d) (some (.int .i64 ((i * x.c : Nat) : Int))) (some (.int .i64 (((i + 1) * x.c : Nat) : Int))) (some (.int .i64 (((i + 1) * x.c : Nat) : Int)))).run Tryz.prog W = .ok (.slice a2 x.c x.c) W) ∧ RQ w (.slice a2 x.c x.c) (rowL x i) := by
 obtain ⟨a0, c0, e0, hf⟩ := slq_len h
 obtain ⟨rfl, rfl, rfl⟩ : ao = a0 ∧ n = x.l.length ∧ d = c0 := by simpa using e0
 have hle : (i + 1) * x.c ≤ x.r * x.c := Nat.mul_le_mul_right _ hi
 have hs1 : (i + 1) * x.c = i * x.c + x.c := by rw [Nat.add_mul, Nat.one_mul]
 rw [hs1]
 rw [hs1] at hle
 have h1 : i * x.c + x.c ≤ d := by omega
 obtain ⟨i0, hi0, hz1, hz2, hz3⟩ := info_parts infoFr
 have hsz : ∀ W, (sizeOf 36).run Tryz.prog W = .ok 5 W := fun W => by simp [sizeOf, typeInfo, hi0, hz2]
 generalize hP : i * x.c = p at *
 have b1 : (0 : Int) ≤ ((p + x.c : Nat) : Int) := by omega
 have b2 : ((p + x.c : Nat) : Int) ≤ (d : Int) := by omega
 have b3 : ((p + x.c : Nat) : Int) ≤ ((p + x.c : Nat) : Int) := by omega
 have b4 : (0 : Int) ≤ ((p : Nat) : Int) := by omega
 have b5 : ((p : Nat) : Int) ≤ ((p + x.c : Nat) : Int) := by omega
 have b6 : p + x.c - p = x.c := by omega
 refine ⟨if p + x.c = p then ao else ao.map (·.add (p * 5)), fun W => ?_, ?_⟩
 ·generalize hE : p + x.c = e at *
  simp [Instr.slice, Instr.sliceBounds, run_underlying Tryz.underlying27, run_sliceBound, b1, b2, b4, b5, b6, hsz, go_sem] <;> first | rfl | (intro h; omega)
 ·refine ⟨_, x.c, by rw [row_len], fun h0 => ?_⟩
  rw [row_len] at h0
  obtain ⟨g, rfl, ff⟩ := hf (by omega)
  refine ⟨g, p * 5, ?_, fun k hk => ?_⟩
  ·rw [if_neg (by omega)]; simp [Addr.add]; try omega
  ·rw [row_len] at hk
   have := fsc ff (p + k) (by rw [hl, ← hP]; exact ix_lt hi hk)
   rw [gv_row hk]
   unfold ent
   rw [hP]
   simpa only [Nat.add_mul, Nat.add_assoc] using this
end Go.Proofs.YthffglapmkkohaaGreatDoor
namespace Go.Proofs.YthffglapmkkohaaGreatDoor
open Go.RowKit
attribute [local irreducible] lo hs sm s64 c64 d64 b64 mh ml pd pc qd qc val hiB str cmpI srD lz nb zl zh zs fe rowV tabV gv bsV tabM
/-- Of the blocks that were there, only those in S have turned. -/
structure Chs (S : Nat → Prop) (w w' : World) : Prop where
 os : w'.os = w.os
 tape : w'.tape = w.tape
 output : w'.output = w.output
 size : w.heap.size ≤ w'.heap.size
 block : ∀ k, k < w.heap.size → ¬ S k → w'.heap[k]? = w.heap[k]?
theorem Chs.refl (S : Nat → Prop) (w : World) : Chs S w w := ⟨rfl, rfl, rfl, Nat.le_refl _, fun _ _ _ => rfl⟩
theorem Chs.trans {S : Nat → Prop} {a b c : World} (h : Chs S a b) (k : Chs S b c) : Chs S a c :=
 ⟨k.os.trans h.os, k.tape.trans h.tape, k.output.trans h.output, Nat.le_trans h.size k.size, fun i hi hs => (k.block i (Nat.lt_of_lt_of_le hi h.size) hs).trans (h.block i hi hs)⟩
theorem Chs.join {S T : Nat → Prop} {a b c : World} (h : Chs S a b) (k : Chs T b c) (ht : ∀ i, i < a.heap.size → T i → S i) : Chs S a c :=
 ⟨k.os.trans h.os, k.tape.trans h.tape, k.output.trans h.output, Nat.le_trans h.size k.size, fun i hi hs => (k.block i (Nat.lt_of_lt_of_le hi h.size) fun g => hs (ht i hi g)).trans (h.block i hi hs)⟩
theorem Chs.mono {S T : Nat → Prop} {w w' : World} (h : Chs S w w') (hs : ∀ i, i < w.heap.size → S i → T i) : Chs T w w' := ⟨h.os, h.tape, h.output, h.size, fun k hk hn => h.block k hk fun g => hn (hs k hk g)⟩
theorem Chs.of_below {S : Nat → Prop} {w w' : World} (h : Below w.heap.size w w') : Chs S w w' := ⟨h.os, h.tape, h.output, h.size, fun k hk _ => h.block k hk⟩
theorem Chs.of_upd {k : Nat} {w w' : World} (h : Upd k w w') : Chs (· = k) w w' := ⟨h.os, h.tape, h.output, Nat.le_of_eq h.size.symm, fun i _ hn => h.block i hn⟩
theorem Chs.below {S : Nat → Prop} {w w' : World} {B : Nat} (h : Chs S w w') (hB : B ≤ w.heap.size) (hs : ∀ i, i < B → ¬ S i) : Below B w w' := ⟨h.os, h.tape, h.output, h.size, fun k hk => h.block k (Nat.lt_of_lt_of_le hk hB) (hs k hk)⟩
theorem cell_blk {w w' : World} {k i : Nat} (e : w'.heap[k]? = w.heap[k]?) : w'.cell? ⟨k, i, none⟩ = w.cell? ⟨k, i, none⟩ := World.cell?_of_block (a := ⟨k, i, none⟩) e
theorem Hd.chs {S : Nat → Prop} {w w' : World} {k : Nat} {c : List Value} (h : Hd w k c) (hc : Chs S w w') (hs : ¬ S k) : Hd w' k c := by
 have e := hc.block k h.lt hs
 refine ⟨fun i hi => (cell_blk e).trans (h.cell i hi), fun j => ?_, Nat.lt_of_lt_of_le h.lt hc.size, by rw [e]; exact h.row⟩
 obtain ⟨arr, t, h1, -⟩ := h.row
 exact frozen_of_row _ _ j _ _ (e.trans h1)
/-- A fraction stored. -/
def put5 (W : World) (k o : Nat) (q : Rat) : World := (((((W.setCell ⟨k, o, none⟩ (.int .u64 ((zl q.num : Nat) : Int))).setCell ⟨k, o + 1, none⟩ (.string (zh q.num))).setCell ⟨k, o + 2, none⟩ (.bool (zs q.num))).setCell ⟨k, o + 3, none⟩ (.int .u64 ((lo (fe q) : Nat) : Int))).setCell ⟨k, o + 4, none⟩ (.string (hs (fe q))))
theorem put5_upd (W : World) (k o : Nat) (q : Rat) : Upd k W (put5 W k o q) := (((((Upd.refl k W).setCell _ _).setCell _ _).setCell _ _).setCell _ _).setCell _ _
theorem put5_hd {W : World} {k : Nat} {l : List Rat} (h : Hd W k (frCs l)) (o : Nat) (q : Rat) (ho : o < l.length) : Hd (put5 W k (o * 5) q) k (frCs (l.set o q)) := by
 have := setAll_hdn (frC q) (o * 5) W (frCs l) (by rw [frCs_length, frC_length]; omega) h
 rw [setF_frC l o q ho] at this
 exact this
/-- The row while change goes on. -/
def mixE (n k j : Nat) (A F : Nat → Rat) : List Rat := tabV n fun a => if k ≤ a ∧ a < j then F a else A a
theorem mix_len (n k j : Nat) (A F : Nat → Rat) : (mixE n k j A F).length = n := tabV_len _ _
theorem mix_start (n k : Nat) (A F : Nat → Rat) : mixE n k k A F = tabV n A := tab_ext fun a _ => if_neg fun h => by omega
theorem mix_end (n k : Nat) (A F : Nat → Rat) : mixE n k n A F = tabV n fun a => if k ≤ a then F a else A a := tab_ext fun a ha => by
 by_cases h : k ≤ a
 ·rw [if_pos ⟨h, ha⟩, if_pos h]
 ·rw [if_neg fun g => h g.1, if_neg h]
theorem mix_at {n k j : Nat} {A F : Nat → Rat} (h : j < n) : gv (mixE n k j A F) j = A j := by unfold mixE; rw [gv_tab h, if_neg fun g => by omega]
theorem mix_step {n k j : Nat} {A F : Nat → Rat} (hk : k ≤ j) (h : j < n) : (mixE n k j A F).set j (F j) = mixE n k (j + 1) A F := by
 refine List.ext_getElem (by rw [List.length_set, mix_len, mix_len]) fun a h1 h2 => ?_
 have ha : a < n := by rwa [mix_len] at h2
 have e2 : (mixE n k (j + 1) A F)[a] = if k ≤ a ∧ a < j + 1 then F a else A a := by rw [← gv_get h2]; unfold mixE; rw [gv_tab ha]
 rw [List.getElem_set, e2]
 by_cases e : j = a
 ·subst e; rw [if_pos rfl, if_pos ⟨hk, by omega⟩]
 ·rw [if_neg e]
  have h3 : a < (mixE n k j A F).length := by rw [mix_len]; exact ha
  have e3 : (mixE n k j A F)[a] = if k ≤ a ∧ a < j then F a else A a := by rw [← gv_get h3]; unfold mixE; rw [gv_tab ha]
  rw [e3]
  by_cases g : k ≤ a ∧ a < j
  ·rw [if_pos g, if_pos ⟨g.1, by omega⟩]
  ·rw [if_neg g, if_neg fun g2 => g ⟨g2.1, by omega⟩]
theorem echange_w (K : FuncId) (caps : Array Value) (eg : ∀ (args : Array Value) (w : World), (callFunc K args).run Tryz.prog w = .ok (.enter K args) w) (g n k : Nat) (A F : Nat → Rat) (P : World → Prop) (hP : Keeps P) (hU : ∀ w w', Upd g w w' → P w → P w')
  (HC : ∀ j, k ≤ j → j < n → ∀ w, P w → Calls Tryz.prog K (#[.int .i64 (j : Int), fracV (A j)] ++ caps) w fun xe w' => xe = .returned (fracV (F j)) ∧ Below w.heap.size w w')
  (hk : k ≤ n) (hn : n ≤ 100000) (w : World) (kP : P w) (hd : Hd w g (frCs (tabV n A))) :
  Calls Tryz.prog 181 #[.slice (some ⟨g, 0, none⟩) n n, .int .i64 (k : Int), .func (.func K) #[] caps] w fun e w' => e = .returned (.tuple #[]) ∧ Hd w' g (frCs (tabV n fun a => if k ≤ a then F a else A a)) ∧ P w' ∧ Chs (· = g) w w' := by
 replace hP := Lib.hid hP
 replace hU := Lib.hid hU
 replace HC := Lib.hid HC
 replace hk := Lib.hid hk
 replace hn := Lib.hid hn
 replace kP := Lib.hid kP
 rw [← mix_start n k A F] at hd
 rw [← mix_end n k A F]
 have hch : Chs (· = g) w w := Chs.refl _ _
 go_enter Tryz.func181, Tryz.ntmps181
 go_wp2_with fail
 go_loopg [6] (n - k) (fun gk jv wr => ∃ (j : Nat) (zj : Int), j + gk = n ∧ k ≤ j ∧ jv = .int .i64 zj ∧ zj = (j : Int) ∧ Hd wr g (frCs (mixE n k j A F)) ∧ Hid (P wr) ∧ Chs (· = g) w wr)
 case atStart => exact ⟨k, (k : Int), by have := hk.out; omega, Nat.le_refl _, rfl, rfl, hd, kP, hch⟩
 case round =>
  clear hd kP hch
  obtain ⟨j, zj, hjk, hkj, rfl, hzj, hd, kP, hch⟩ := hrel
  rcases Nat.lt_or_ge j n with hjn | hjn
  ·subst hzj
   have k1 : (j : Int) < (n : Int) := by omega
   have k0 : (0 : Int) ≤ (j : Int) := Int.natCast_nonneg _
   have kb : (j : Int) ≤ 100000 := by have := hn.out; omega
   have HC1 := Lib.hid (HC.out j hkj hjn)
   have hlen := mix_len n k j A F
   obtain ⟨f0, f1, f2, f3, f4⟩ := fsc (hd_fs hd) j (by omega)
   rw [mix_at hjn] at f0 f1 f2 f3 f4
   have hst := mix_step (A := A) (F := F) hkj hjn
   obtain ⟨a, ha⟩ : ∃ a, a = A j := ⟨_, rfl⟩
   rw [← ha] at f0 f1 f2 f3 f4 HC1
   obtain ⟨q, hq⟩ : ∃ q, q = F j := ⟨_, rfl⟩
   rw [← hq] at HC1 hst
   replace ha := Lib.hid ha
   replace hq := Lib.hid hq
   replace hst := Lib.hid hst
   generalize mixE n k j A F = l at hd hlen hst
   replace hlen := Lib.hid hlen
   go_wp2_with fail
   with_reducible refine Calls.mono (HC1.out _ kP.out) ?_
   rintro e y1 ⟨rfl, hb⟩
   replace hd := hd.below hb
   replace kP := Lib.hid (hP.out _ _ hb kP.out)
   replace hch := hch.trans (Chs.of_below hb)
   clear hb f0 f1 f2 f3 f4
   have hH := put5_hd hd j q (by have := hlen.out; omega)
   have hu := put5_upd y1 g (j * 5) q
   obtain ⟨z0, z1, z2, z3, z4⟩ := (hd_fs hd).cell j (by have := hlen.out; omega)
   have zz := hd.frz
   obtain ⟨y2, hy2⟩ : ∃ y, put5 y1 g (j * 5) q = y := ⟨_, rfl⟩
   rw [hy2] at hH hu
   rw [hst.out] at hH
   replace kP := Lib.hid (hU.out _ _ hu kP.out)
   replace hch := hch.trans (Chs.of_upd hu)
   clear hd hu
   unfold put5 at hy2
   go_wp2_with fail
   go_roundg (n - (j + 1))
   case measure => omega
   case rel => exact ⟨j + 1, _, by omega, by omega, by first | rfl | go_num, by omega, hH, kP, hch⟩
  ·obtain rfl : n = j := by omega
   subst hzj
   have k1 : ¬ (n : Int) < (n : Int) := by omega
   go_wp2_with fail
   exact bodyPost_end (v := .tuple #[]) (by simp [results, Tryz.results181, go_sem]) rfl ⟨rfl, hd, kP, hch⟩
end Go.Proofs.YthffglapmkkohaaGreatDoor
namespace Go.Proofs.YthffglapmkkohaaGreatDoor
open Go.RowKit
attribute [local irreducible] lo hs sm s64 c64 d64 b64 mh ml pd pc qd qc val hiB str cmpI srD lz nb zl zh zs fe rowV tabV gv bsV tabM
theorem run_eqZ (p : Rat) (y : Bool) (hy : y = decide (p = 0)) (W : World) : (binOp .eql 36 (fracV p) (.agg #[.int .u64 0, .string ⟨#[]⟩, .bool false, .int .u64 0, .string ⟨#[]⟩])).run Tryz.prog W = .ok (.bool y) W := by
 have h := run_eqlF p 0 y hy W
 have e : fracV 0 = .agg #[.int .u64 0, .string ⟨#[]⟩, .bool false, .int .u64 0, .string ⟨#[]⟩] := by have := frV_q0; simpa [fracV] using this
 rw [e] at h
 exact h
theorem run_neZ (p : Rat) (y : Bool) (hy : y = decide (p = 0)) (W : World) : (binOp .neq 36 (fracV p) (.agg #[.int .u64 0, .string ⟨#[]⟩, .bool false, .int .u64 0, .string ⟨#[]⟩])).run Tryz.prog W = .ok (.bool (!y)) W := by
 have h := run_neqF p 0 y hy W
 have e : fracV 0 = .agg #[.int .u64 0, .string ⟨#[]⟩, .bool false, .int .u64 0, .string ⟨#[]⟩] := by have := frV_q0; simpa [fracV] using this
 rw [e] at h
 exact h
/-- The cells of a fraction at a place. -/
def FC (w : World) (g o : Nat) (q : Rat) : Prop := w.cell? ⟨g, o, none⟩ = some (.int .u64 ((zl q.num : Nat) : Int)) ∧ w.cell? ⟨g, o + 1, none⟩ = some (.string (zh q.num)) ∧ w.cell? ⟨g, o + 2, none⟩ = some (.bool (zs q.num)) ∧ w.cell? ⟨g, o + 3, none⟩ = some (.int .u64 ((lo (fe q) : Nat) : Int)) ∧ w.cell? ⟨g, o + 4, none⟩ = some (.string (hs (fe q)))
theorem FC.below {w w' : World} {g o : Nat} {q : Rat} (h : FC w g o q) (hb : Below w.heap.size w w') : FC w' g o q := ⟨keepsC hb h.1, keepsC hb h.2.1, keepsC hb h.2.2.1, keepsC hb h.2.2.2.1, keepsC hb h.2.2.2.2⟩
theorem FC.row {w : World} {g : Nat} {l : List Rat} (h : Hd w g (frCs l)) (i : Nat) (hi : i < l.length) : FC w g (i * 5) (gv l i) := fsc (hd_fs h) i hi
theorem FC.box {w : World} {g : Nat} {q : Rat} (h : Hd w g (frC q)) : FC w g 0 q := ⟨h.cell 0 (by rw [frC_length]; omega), h.cell 1 (by rw [frC_length]; omega), h.cell 2 (by rw [frC_length]; omega), h.cell 3 (by rw [frC_length]; omega), h.cell 4 (by rw [frC_length]; omega)⟩
theorem GL.box5 {w0 W : World} {L : List (Nat × List Value)} {k : Nat} {p : Rat} (h : GL w0 W ((k, frC p) :: L)) (q : Rat) : GL w0 (put5 W k 0 q) ((k, frC q) :: L) := h.put 0 k (frC p) rfl (frC q) (by rw [frC_length, frC_length])
theorem eclear1_z (j n c g1 b1 b2 : Nat) (a o : Rat) (ho : o = 0) (hj : j < n) (hn : n ≤ 100000) (w : World) (h1 : w.cell? ⟨b1, 0, none⟩ = some (.slice (some ⟨g1, 0, none⟩) n c)) (h2 : FC w g1 (j * 5) o) :
  Calls Tryz.prog 184 #[.int .i64 (j : Int), fracV a, .pointer (some ⟨b1, 0, none⟩), .pointer (some ⟨b2, 0, none⟩)] w fun xe w' => xe = .returned (fracV a) ∧ Below w.heap.size w w' := by
 have k0 : (0 : Int) ≤ (j : Int) := Int.natCast_nonneg _
 have k1 : (j : Int) < (n : Int) := by omega
 have kb : (j : Int) ≤ 100000 := by omega
 clear hj hn
 have hL0 : GL w w [] := GL.start w
 replace hL0 := (hL0.new rfl (frC a) 36).new (K := w.heap.size + 1) (by simp) (frC 0) 36
 obtain ⟨x1, hx1⟩ : ∃ x, x = (w.alloc (.cells (frC a).toArray 36)).alloc (.cells (frC 0).toArray 36) := ⟨_, rfl⟩
 rw [← hx1] at hL0
 have hP := hL0.box5 a
 obtain ⟨y, hy⟩ : ∃ y, put5 x1 (w.heap.size + 1) 0 a = y := ⟨_, rfl⟩
 rw [hy] at hP
 simp only [put5, Nat.zero_add] at hy
 rw [frC_zero] at hL0 hx1
 unfold frC at hL0 hP hx1
 have hweq := hx1.symm
 clear hx1
 have h1' := keepsC hL0.bl h1
 obtain ⟨f0, f1, f2, f3, f4⟩ := h2.below hL0.bl
 clear h1 h2
 have hq := fun W => run_eqZ o true (by simp [ho]) W
 clear ho
 have hA := hL0.fc
 simp only [zF, Nat.reduceAdd] at hA
 have hB := hP.fc
 simp only [zF, Nat.reduceAdd] at hB
 go_enter Tryz.func184, Tryz.ntmps184
 go_wp2_with fail
 exact bodyPost_ret (v := fracV a) (by simp [results, Tryz.results184, go_sem, hB]) rfl ⟨rfl, hP.bl⟩
theorem eclear1_n (j n c g1 b1 b2 : Nat) (a o m p r : Rat) (ho : ¬ o = 0) (HM : ∀ w, Calls Tryz.prog 15 #[fracV m, fracV o] w fun xe w' => xe = .returned (fracV p) ∧ Below w.heap.size w w') (HS : ∀ w, Calls Tryz.prog 185 #[fracV a, fracV p] w fun xe w' => xe = .returned (fracV r) ∧ Below w.heap.size w w') (hj : j < n) (hn : n ≤ 100000) (w : World) (h1 : w.cell? ⟨b1, 0, none⟩ = some (.slice (some ⟨g1, 0, none⟩) n c)) (h2 : FC w g1 (j * 5) o) (h3 : FC w b2 0 m) :
  Calls Tryz.prog 184 #[.int .i64 (j : Int), fracV a, .pointer (some ⟨b1, 0, none⟩), .pointer (some ⟨b2, 0, none⟩)] w fun xe w' => xe = .returned (fracV r) ∧ Below w.heap.size w w' := by
 have k0 : (0 : Int) ≤ (j : Int) := Int.natCast_nonneg _
 have k1 : (j : Int) < (n : Int) := by omega
 have kb : (j : Int) ≤ 100000 := by omega
 clear hj hn
 replace HM := Lib.hid HM
 replace HS := Lib.hid HS
 have hL0 : GL w w [] := GL.start w
 replace hL0 := (hL0.new rfl (frC a) 36).new (K := w.heap.size + 1) (by simp) (frC 0) 36
 obtain ⟨x1, hx1⟩ : ∃ x, x = (w.alloc (.cells (frC a).toArray 36)).alloc (.cells (frC 0).toArray 36) := ⟨_, rfl⟩
 rw [← hx1] at hL0
 rw [frC_zero] at hx1
 unfold frC at hx1
 have hweq := hx1.symm
 clear hx1
 have h1' := keepsC hL0.bl h1
 have h2' := h2.below hL0.bl
 have h3' := h3.below hL0.bl
 clear h1 h2 h3
 have hq := fun W => run_eqZ o false (by simp [ho]) W
 clear ho
 obtain ⟨f0, f1, f2, f3, f4⟩ := h2'
 obtain ⟨e0, e1, e2, e3, e4⟩ := h3'
 have hL1 := hL0
 rw [frC_zero] at hL1
 unfold frC at hL1
 have hA := hL1.fc
 simp only [zF, Nat.reduceAdd] at hA
 simp only [Nat.zero_add] at e0 e1 e2 e3 e4
 go_enter Tryz.func184, Tryz.ntmps184
 go_upto_region 3 with fail
 clear hweq hq hA
 obtain ⟨α, iα, F, hF1, hF2⟩ := cls x1
 have hh1 := fun yz => keepsC (hF1 yz) h1'
 have hf0 := fun yz => keepsC (hF1 yz) f0
 have hf1 := fun yz => keepsC (hF1 yz) f1
 have hf2 := fun yz => keepsC (hF1 yz) f2
 have hf3 := fun yz => keepsC (hF1 yz) f3
 have hf4 := fun yz => keepsC (hF1 yz) f4
 have he0 := fun yz => keepsC (hF1 yz) e0
 have he1 := fun yz => keepsC (hF1 yz) e1
 have he2 := fun yz => keepsC (hF1 yz) e2
 have he3 := fun yz => keepsC (hF1 yz) e3
 have he4 := fun yz => keepsC (hF1 yz) e4
 have hq := GL.fcC hF1 hL1
 simp only [zC, Nat.reduceAdd] at hq
 clear f0 f1 f2 f3 f4 e0 e1 e2 e3 e4 h1'
 refine region_qs 8 (C := fun w' => ∃ x, w' = F x) (by kernel_rfl) (by kernel_rfl) (cls_drew hF2) ?_
 simp only [zT]
 repeat (go_big_quiet_step (first | fail | (go_at_call 15; with_reducible exact cls_call hF1 hF2 HM.out _) | (go_at_call 185; with_reducible exact cls_call hF1 hF2 HS.out _)))
 refine wpQuiet_nil ?_
 rintro wq ⟨xq, rfl⟩
 replace hL0 := hL0.call (hF1 xq)
 clear hh1 hf0 hf1 hf2 hf3 hf4 he0 he1 he2 he3 he4 hq hF2 hL1
 generalize F xq = x2 at hL0 ⊢
 clear hF1 xq iα F α
 have hP := hL0.box5 r
 obtain ⟨y, hy⟩ : ∃ y, put5 x2 (w.heap.size + 1) 0 r = y := ⟨_, rfl⟩
 rw [hy] at hP
 simp only [put5, Nat.zero_add] at hy
 rw [frC_zero] at hL0
 unfold frC at hL0 hP
 have hA := hL0.fc
 simp only [zF, Nat.reduceAdd] at hA
 have hB := hP.fc
 simp only [zF, Nat.reduceAdd] at hB
 go_wp2_with fail
 exact bodyPost_ret (v := fracV r) (by simp [results, Tryz.results184, go_sem, hB]) rfl ⟨rfl, hP.bl⟩
theorem enclear : ∀ (args : Array Value) (w : World), (callFunc 184 args).run Tryz.prog w = .ok (.enter 184 args) w := enters_of Tryz.func184 (by kernel_rfl) rfl
theorem endivide : ∀ (args : Array Value) (w : World), (callFunc 182 args).run Tryz.prog w = .ok (.enter 182 args) w := enters_of Tryz.func182 (by kernel_rfl) rfl
theorem FC.chs {S : Nat → Prop} {w w' : World} {g o : Nat} {q : Rat} (h : FC w g o q) (hc : Chs S w w') (hg : g < w.heap.size) (hs : ¬ S g) : FC w' g o q := by
 have e := hc.block g hg hs
 exact ⟨(cell_blk e).trans h.1, (cell_blk e).trans h.2.1, (cell_blk e).trans h.2.2.1, (cell_blk e).trans h.2.2.2.1, (cell_blk e).trans h.2.2.2.2⟩
theorem eclearAt_w (gb gc n k K M : Nat) (A O : Nat → Rat) (hne : gb ≠ gc) (sA : ∀ j, j < n → Sz (A j) K) (sO : ∀ j, j < n → Sz (O j) M) (hK : K + M ≤ 10000000) (hk : k < n) (hn : n ≤ 100000) (w : World) (h1 : Hd w gb (frCs (tabV n A))) (h2 : Hd w gc (frCs (tabV n O))) :
  Calls Tryz.prog 159 #[.slice (some ⟨gb, 0, none⟩) n n, .int .i64 (k : Int), .slice (some ⟨gc, 0, none⟩) n n] w fun e w' => e = .returned (.tuple #[]) ∧ Hd w' gb (frCs (tabV n fun j => if k ≤ j then A j - A k * O j else A j)) ∧ Chs (· = gb) w w' := by
 have k0 : (0 : Int) ≤ (k : Int) := Int.natCast_nonneg _
 have k1 : (k : Int) < (n : Int) := by omega
 have kb : (k : Int) ≤ 100000 := by omega
 have hgb := h1.lt
 have hgc := h2.lt
 have hL0 : GL w w [] := GL.start w
 obtain ⟨x1, hweq, hL0⟩ := GL.named (hL0.new rfl [.slice (some ⟨gc, 0, none⟩) n n] 28)
 obtain ⟨f0, f1, f2, f3, f4⟩ := FC.row (h1.below hL0.bl) k (by rw [tabV_len]; exact hk)
 rw [gv_tab hk] at f0 f1 f2 f3 f4
 obtain ⟨b, hb⟩ : ∃ b, b = x1.heap.size := ⟨_, rfl⟩
 replace hL0 := hL0.new (K := b) hb.symm (frC 0) 36
 obtain ⟨x2, hx2⟩ : ∃ x, x = x1.alloc (.cells (frC 0).toArray 36) := ⟨_, rfl⟩
 rw [← hx2] at hL0
 have hP := hL0.box5 (A k)
 obtain ⟨y, hy⟩ : ∃ y, put5 x2 b 0 (A k) = y := ⟨_, rfl⟩
 rw [hy] at hP
 simp only [put5, Nat.zero_add] at hy
 rw [frC_zero] at hx2 hL0
 have hweq2 := hx2.symm
 clear hx2
 have hA := hL0.fc
 simp only [zF, Nat.reduceAdd] at hA
 have hH1 := h1.below hP.bl
 have hH2 := h2.below hP.bl
 have hbl := hP.bl
 have hbs : w.heap.size ≤ b := (hP.all _ mZ).1
 have hfc := FC.box (hP.get _ _ mZ)
 have hfl := (hP.get _ _ mZ).lt
 have hol := (hP.get _ _ (mK mZ)).lt
 have hoc := (hP.get _ _ (mK mZ)).cell 0 (by simp)
 simp only [List.getElem_cons_zero] at hoc
 have hB := hP
 unfold frC at hB
 replace hB := hB.fc
 simp only [zF, Nat.reduceAdd] at hB
 clear hL0 h1 h2
 by_cases h0 : A k = 0
 ·have hq := fun W => run_eqZ (A k) true (by simp [h0]) W
  have e : (tabV n fun j => if k ≤ j then A j - A k * O j else A j) = tabV n A := tab_ext fun j _ => by rw [h0]; split <;> grind
  rw [e]
  clear e
  generalize A k = a at *
  subst hb
  replace h0 := Lib.hid h0
  go_enter Tryz.func159, Tryz.ntmps159
  go_wp2_with fail
  exact bodyPost_ret (v := .tuple #[]) (by simp [results, Tryz.results159, go_sem]) rfl ⟨rfl, hH1, Chs.of_below hbl⟩
 ·have hq := fun W => run_eqZ (A k) false (by simp [h0]) W
  have HC := echange_w 184 #[.pointer (some ⟨w.heap.size, 0, none⟩), .pointer (some ⟨b, 0, none⟩)] enclear gb n k A (fun j => A j - A k * O j)
   (fun W => (W.cell? ⟨w.heap.size, 0, none⟩ = some (.slice (some ⟨gc, 0, none⟩) n n) ∧ FC W b 0 (A k) ∧ Hd W gc (frCs (tabV n O))) ∧ w.heap.size < W.heap.size ∧ b < W.heap.size)
   (fun W W' hb h => ⟨⟨keepsC hb h.1.1, h.1.2.1.below hb, h.1.2.2.below hb⟩, Nat.lt_of_lt_of_le h.2.1 hb.size, Nat.lt_of_lt_of_le h.2.2 hb.size⟩)
   (fun W W' hu h => ⟨⟨(cell_blk (hu.block _ (by omega))).trans h.1.1, h.1.2.1.chs (Chs.of_upd hu) h.2.2 (by omega), h.1.2.2.chs (Chs.of_upd hu) (fun e => hne e.symm)⟩, by rw [hu.size]; exact h.2.1, by rw [hu.size]; exact h.2.2⟩)
   (fun j hj hjn W h => by
    have hf := FC.row h.1.2.2 j (by rw [tabV_len]; exact hjn)
    rw [gv_tab hjn] at hf
    have s1 := (sA k hk).mono (show K ≤ K + M by omega)
    have s2 := (sO j hjn).mono (show M ≤ K + M by omega)
    have s3 := (sA j hjn).mono (show K ≤ K + M by omega)
    by_cases o0 : O j = 0
    ·have e : A j - A k * O j = A j := by rw [o0]; grind
     rw [e]
     exact eclear1_z j n n gc _ b (A j) (O j) o0 hjn hn W h.1.1 hf
    ·exact eclear1_n j n n gc _ b (A j) (O j) (A k) (A k * O j) (A j - A k * O j) o0 (fun w => mulF _ _ (K + M) s1 s2 (by omega) w) (fun w => subF _ _ (K + M) s3 ((sA k hk).mul (sO j hjn)) (by omega) w) hjn hn W h.1.1 hf h.1.2.1)
   (by omega) hn y ⟨⟨hoc, hfc, hH2⟩, hol, hfl⟩ hH1
  generalize (fun j => if k ≤ j then A j - A k * O j else A j) = R at HC ⊢
  generalize A k = a at *
  replace h0 := Lib.hid h0
  replace HC := Lib.hid HC
  clear hoc hfc hH1 hH2 sA sO
  subst hb
  go_enter Tryz.func159, Tryz.ntmps159
  go_wp2_with fail
  with_reducible refine Calls.mono HC.out ?_
  rintro e w9 ⟨rfl, hH, -, hch⟩
  go_wp2_with fail
  exact bodyPost_end (v := .tuple #[]) (by simp [results, Tryz.results159, go_sem]) rfl ⟨rfl, hH, (Chs.of_below hbl).trans hch⟩
end Go.Proofs.YthffglapmkkohaaGreatDoor
namespace Go.Proofs.YthffglapmkkohaaGreatDoor
open Go.RowKit
attribute [local irreducible] lo hs sm s64 c64 d64 b64 mh ml pd pc qd qc val hiB str cmpI srD lz nb zl zh zs fe rowV tabV gv bsV tabM
theorem GL.box5' {w0 W : World} {L : List (Nat × List Value)} {k i : Nat} {p : Rat} (h : GL w0 W L) (hi : L[i]? = some (k, frC p)) (q : Rat) : GL w0 (put5 W k 0 q) (L.set i (k, frC q)) := h.put i k (frC p) hi (frC q) (by rw [frC_length, frC_length])
theorem edivide1_z (j b : Nat) (a : Rat) (ha : a = 0) (w : World) :
  Calls Tryz.prog 182 #[.int .i64 (j : Int), fracV a, .pointer (some ⟨b, 0, none⟩)] w fun xe w' => xe = .returned (fracV a) ∧ Below w.heap.size w w' := by
 have hL0 : GL w w [] := GL.start w
 replace hL0 := (hL0.new rfl (frC a) 36).new (K := w.heap.size + 1) (by simp) (frC 0) 36
 obtain ⟨x1, hx1⟩ : ∃ x, x = (w.alloc (.cells (frC a).toArray 36)).alloc (.cells (frC 0).toArray 36) := ⟨_, rfl⟩
 rw [← hx1] at hL0
 have hP := hL0.box5 a
 obtain ⟨y, hy⟩ : ∃ y, put5 x1 (w.heap.size + 1) 0 a = y := ⟨_, rfl⟩
 rw [hy] at hP
 simp only [put5, Nat.zero_add] at hy
 rw [frC_zero] at hL0 hx1
 unfold frC at hL0 hP hx1
 have hweq := hx1.symm
 clear hx1
 have hq := fun W => run_eqZ a true (by simp [ha]) W
 clear ha
 have hA := hL0.fc
 simp only [zF, Nat.reduceAdd] at hA
 have hB := hP.fc
 simp only [zF, Nat.reduceAdd] at hB
 go_enter Tryz.func182, Tryz.ntmps182
 go_wp2_with fail
 exact bodyPost_ret (v := fracV a) (by simp [results, Tryz.results182, go_sem, hB]) rfl ⟨rfl, hP.bl⟩
theorem edivide1_n (j b : Nat) (a m r : Rat) (ha : ¬ a = 0) (HD : ∀ w, Calls Tryz.prog 183 #[fracV a, fracV m] w fun xe w' => xe = .returned (.tuple #[fracV r, .int .i64 0]) ∧ Below w.heap.size w w') (w : World) (h3 : FC w b 0 m) :
  Calls Tryz.prog 182 #[.int .i64 (j : Int), fracV a, .pointer (some ⟨b, 0, none⟩)] w fun xe w' => xe = .returned (fracV r) ∧ Below w.heap.size w w' := by
 replace HD := Lib.hid HD
 have hL0 : GL w w [] := GL.start w
 replace hL0 := (hL0.new rfl (frC a) 36).new (K := w.heap.size + 1) (by simp) (frC 0) 36
 obtain ⟨x1, hx1⟩ : ∃ x, x = (w.alloc (.cells (frC a).toArray 36)).alloc (.cells (frC 0).toArray 36) := ⟨_, rfl⟩
 rw [← hx1] at hL0
 rw [frC_zero] at hx1
 unfold frC at hx1
 have hweq := hx1.symm
 clear hx1
 have h3' := h3.below hL0.bl
 clear h3
 have hq := fun W => run_eqZ a false (by simp [ha]) W
 clear ha
 obtain ⟨e0, e1, e2, e3, e4⟩ := h3'
 simp only [Nat.zero_add] at e0 e1 e2 e3 e4
 have hL1 := hL0
 rw [frC_zero] at hL1
 unfold frC at hL1
 have hA := hL1.fc
 simp only [zF, Nat.reduceAdd] at hA
 go_enter Tryz.func182, Tryz.ntmps182
 go_wp2_with fail
 with_reducible refine Calls.mono (HD.out _) ?_
 rintro e y1 ⟨rfl, hb⟩
 replace hL0 := hL0.call hb
 clear hb hL1 hA e0 e1 e2 e3 e4 hweq hq
 obtain ⟨c, hc⟩ : ∃ c, c = y1.heap.size := ⟨_, rfl⟩
 replace hL0 := hL0.new (K := c) hc.symm (frC 0) 36
 obtain ⟨y2, hx2⟩ : ∃ x, x = y1.alloc (.cells (frC 0).toArray 36) := ⟨_, rfl⟩
 rw [← hx2] at hL0
 have hP := hL0.box5 r
 obtain ⟨y3, hy⟩ : ∃ y, put5 y2 c 0 r = y := ⟨_, rfl⟩
 rw [hy] at hP
 have hP2 := hP.box5' (i := 1) (k := w.heap.size + 1) (p := 0) rfl r
 simp only [List.set_cons_zero, List.set_cons_succ] at hP2
 obtain ⟨y4, hy4⟩ : ∃ y, put5 y3 (w.heap.size + 1) 0 r = y := ⟨_, rfl⟩
 rw [hy4] at hP2
 simp only [put5, Nat.zero_add] at hy hy4
 rw [frC_zero] at hL0 hx2 hP
 unfold frC at hL0 hP hP2
 have hweq := hx2.symm
 clear hx2
 subst hc
 have hA := hL0.fc
 simp only [zF, Nat.reduceAdd] at hA
 have hB := hP.fc
 simp only [zF, Nat.reduceAdd] at hB
 have hC := hP2.fc
 simp only [zF, Nat.reduceAdd] at hC
 go_wp2_with fail
 exact bodyPost_ret (v := fracV r) (by simp [results, Tryz.results182, go_sem, hC]) rfl ⟨rfl, hP2.bl⟩
theorem edivide_w (gb n k K : Nat) (A : Nat → Rat) (h00 : ¬ A k = 0) (sA : ∀ j, j < n → Sz (A j) K) (hK : K ≤ 10000000) (hk : k < n) (hn : n ≤ 100000) (w : World) (h1 : Hd w gb (frCs (tabV n A))) :
  Calls Tryz.prog 158 #[.slice (some ⟨gb, 0, none⟩) n n, .int .i64 (k : Int)] w fun e w' => e = .returned (.tuple #[]) ∧ Hd w' gb (frCs (tabV n fun j => if k ≤ j then A j / A k else A j)) ∧ Chs (· = gb) w w' := by
 have k0 : (0 : Int) ≤ (k : Int) := Int.natCast_nonneg _
 have k1 : (k : Int) < (n : Int) := by omega
 have kb : (k : Int) ≤ 100000 := by omega
 have hgb := h1.lt
 obtain ⟨f0, f1, f2, f3, f4⟩ := FC.row h1 k (by rw [tabV_len]; exact hk)
 rw [gv_tab hk] at f0 f1 f2 f3 f4
 have hL0 : GL w w [] := GL.start w
 obtain ⟨b, hb⟩ : ∃ b, b = w.heap.size := ⟨_, rfl⟩
 replace hL0 := hL0.new (K := b) hb.symm (frC 0) 36
 obtain ⟨x2, hx2⟩ : ∃ x, x = w.alloc (.cells (frC 0).toArray 36) := ⟨_, rfl⟩
 rw [← hx2] at hL0
 have hP := hL0.box5 (A k)
 obtain ⟨y, hy⟩ : ∃ y, put5 x2 b 0 (A k) = y := ⟨_, rfl⟩
 rw [hy] at hP
 simp only [put5, Nat.zero_add] at hy
 rw [frC_zero] at hx2 hL0
 have hweq2 := hx2.symm
 clear hx2
 have hA := hL0.fc
 simp only [zF, Nat.reduceAdd] at hA
 have hH1 := h1.below hP.bl
 clear hL0 h1
 have hbl := hP.bl
 have hbs : w.heap.size ≤ b := (hP.all _ mZ).1
 have hL1 := hP
 unfold frC at hL1
 obtain ⟨u, hu⟩ : ∃ u : Rat, u = 1 := ⟨_, rfl⟩
 have HI : ∀ w, Calls Tryz.prog 12 #[.int .i64 1] w fun xe w' => xe = .returned (fracV u) ∧ Below w.heap.size w w' := fun w => by rw [hu]; exact intF 1 (by decide) (by decide) w
 replace HI := Lib.hid HI
 have hq0 : ∀ yb, yb = decide (A k = u) → ∀ W, (binOp .eql 36 (fracV (A k)) (fracV u)).run Tryz.prog W = .ok (.bool yb) W := fun yb hyb W => run_eqlF (A k) u yb hyb W
 have hHd : ∀ (W : World), Below y.heap.size y W → Calls Tryz.prog 181 #[.slice (some ⟨gb, 0, none⟩) n n, .int .i64 (k : Int), .func (.func 182) #[] #[.pointer (some ⟨b, 0, none⟩)]] W fun e w' => e = .returned (.tuple #[]) ∧ Hd w' gb (frCs (tabV n fun j => if k ≤ j then A j / A k else A j)) ∧ (FC w' b 0 (A k) ∧ b < w'.heap.size) ∧ Chs (· = gb) W w' := fun W hW =>
  echange_w 182 #[.pointer (some ⟨b, 0, none⟩)] endivide gb n k A (fun j => A j / A k) (fun W => FC W b 0 (A k) ∧ b < W.heap.size)
   (fun W W' hb h => ⟨h.1.below hb, Nat.lt_of_lt_of_le h.2 hb.size⟩)
   (fun W W' hu h => ⟨h.1.chs (Chs.of_upd hu) h.2 (by omega), by rw [hu.size]; exact h.2⟩)
   (fun j hj hjn W h => by
    by_cases a0 : A j = 0
    ·have e : A j / A k = A j := by rw [a0]; grind
     rw [e]
     exact edivide1_z j b (A j) a0 W
    ·exact edivide1_n j b (A j) (A k) (A j / A k) a0 (fun w => divF _ _ K (sA j hjn) (sA k hk) (by omega) h00 w) W h.1)
   (by omega) hn W ⟨(FC.box (hP.get _ _ mZ)).below hW, Nat.lt_of_lt_of_le (hP.get _ _ mZ).lt hW.size⟩ (hH1.below hW)
 have he1 : A k = 1 → (tabV n fun j => if k ≤ j then A j / A k else A j) = tabV n A := fun h1 => tab_ext fun j _ => by rw [h1]; split <;> grind
 generalize (tabV n fun j => if k ≤ j then A j / A k else A j) = R at hHd he1 ⊢
 generalize tabV n A = T at hH1 he1
 have hak : ∀ p : Prop, p → p := fun _ h => h
 generalize A k = a at *
 clear sA hP h00
 replace hHd := Lib.hid hHd
 subst hb
 by_cases h1 : a = u
 ·have hq := hq0 true (by simp [h1])
  rw [he1 (h1.trans hu)]
  replace h1 := Lib.hid h1
  replace hu := Lib.hid hu
  clear hq0 he1
  go_enter Tryz.func158, Tryz.ntmps158
  go_upto_region 1 with fail
  clear hy hweq2 hA f0 f1 f2 f3 f4
  obtain ⟨α, iα, F, hF1, hF2⟩ := cls y
  have hq2 := GL.fcC hF1 hL1
  simp only [zC, Nat.reduceAdd] at hq2
  refine region_cls (F := F) (by kernel_rfl) (lexB_of_fast (by kernel_rfl)) (cls_drew hF2) ?_
  repeat (go_big_quiet_step (first | fail | (go_at_call 12; with_reducible exact cls_call hF1 hF2 HI.out _)))
  refine wpQuiet_nil ?_
  rintro wq ⟨xq, rfl⟩
  replace hH1 := hH1.below (hF1 xq)
  replace hbl := hbl.trans ((hF1 xq).mono hbl.size)
  clear hq2 hF2 hL1
  generalize F xq = x2 at hH1 hbl ⊢
  clear hF1 xq iα F α
  go_wp2_with fail
  exact bodyPost_ret (v := .tuple #[]) (by simp [results, Tryz.results158, go_sem]) rfl ⟨rfl, hH1, Chs.of_below hbl⟩
 ·have hq := hq0 false (by simp [h1])
  replace h1 := Lib.hid h1
  replace hu := Lib.hid hu
  clear hq0 he1
  go_enter Tryz.func158, Tryz.ntmps158
  go_upto_region 1 with fail
  clear hy hweq2 hA f0 f1 f2 f3 f4
  obtain ⟨α, iα, F, hF1, hF2⟩ := cls y
  have hq2 := GL.fcC hF1 hL1
  simp only [zC, Nat.reduceAdd] at hq2
  refine region_cls (F := F) (by kernel_rfl) (lexB_of_fast (by kernel_rfl)) (cls_drew hF2) ?_
  repeat (go_big_quiet_step (first | fail | (go_at_call 12; with_reducible exact cls_call hF1 hF2 HI.out _)))
  refine wpQuiet_nil ?_
  rintro wq ⟨xq, rfl⟩
  have hW := hF1 xq
  replace hbl := hbl.trans ((hF1 xq).mono hbl.size)
  clear hq2 hF2 hL1 hH1
  generalize F xq = x2 at hW hbl ⊢
  clear hF1 xq iα F α
  have HC := Lib.hid (hHd.out x2 hW)
  clear hHd hW
  go_wp2_with fail
  with_reducible refine Calls.mono HC.out ?_
  rintro e w9 ⟨rfl, hH, -, hch⟩
  go_wp2_with fail
  exact bodyPost_end (v := .tuple #[]) (by simp [results, Tryz.results158, go_sem]) rfl ⟨rfl, hH, (Chs.of_below hbl).trans hch⟩
end Go.Proofs.YthffglapmkkohaaGreatDoor
namespace Go.Proofs.YthffglapmkkohaaGreatDoor
open Go.RowKit
theorem own_below9 {w w' : World} {B n sz : Nat} {e : TypeId} {v : Value} {xs : List Value} (h : w.ownsRow B e sz v n xs) (hb : Below w.heap.size w w') : w'.ownsRow B e sz v n xs := by
 refine ⟨h.1, ?_⟩
 rcases h.2 with h1 | ⟨g, cap, cur, h1, h2, h3, h4⟩
 ·exact .inl h1
 ·refine .inr ⟨g, cap, cur, h1, h2, ?_, h4⟩
  rw [hb.block g (h.lt g (by rw [h1]; rfl)).2]; exact h3
def AllRow (P : Value → Prop) (w : World) (base : Nat) (et : TypeId) (v : Value) (n : Nat) (xs : List Value) : Prop :=
 w.ownsRow base et 1 v n xs ∧ ∀ g, v.ownBlock = some g → ∀ i u, w.cell? ⟨g, i, none⟩ = some u → P u
theorem AllRow.nil {P : Value → Prop} (w : World) (base : Nat) (et : TypeId) : AllRow P w base et (.slice none 0 0) 0 [] := ⟨World.ownsRow_nil _ _ _ _, fun g h => by cases h⟩
theorem AllRow.below {P : Value → Prop} {w w' : World} {base n : Nat} {et : TypeId} {v : Value} {xs : List Value} (h : AllRow P w base et v n xs) (hb : Below w.heap.size w w') : AllRow P w' base et v n xs := by
 have hlt := fun g hg => (h.1.lt g hg).2
 exact ⟨own_below9 h.1 hb, fun g hg i u hu => h.2 g hg i u ((hb.cell (p := ⟨g, i, none⟩) (hlt g hg)).symm.trans hu)⟩
def isSl (u : Value) : Prop := ∃ a n c, u = .slice a n c
/-- Fractions don't lie in a row of slices. -/
theorem slq_apart {w w' : World} {base n : Nat} {et : TypeId} {v s : Value} {xs : List Value} {l : List Rat} (h : SlQ w v l) (hs : AllRow isSl w base et s n xs) (hg : w.grownBy w' s.ownBlock) : SlQ w' v l := by
 rcases h with h | ⟨g, c, rfl, hd⟩
 ·exact .inl h
 cases l with
 | nil => exact .inl ⟨some ⟨g, 0, none⟩, c, rfl, rfl⟩
 | cons q l =>
  have hne : some g ≠ s.ownBlock := fun e => by
   obtain ⟨a, n, c, ht⟩ := hs.2 g e.symm _ _ (hd.cell 0 (by simp)).1
   cases ht
  have hbl := hg.block g hd.lt hne
  have cc : ∀ j, w'.cell? ⟨g, j, none⟩ = w.cell? ⟨g, j, none⟩ := fun j => World.cell?_of_block (a := ⟨g, j, none⟩) hbl
  exact .inr ⟨g, c, rfl, fun i hi => by rw [cc, cc, cc, cc, cc]; exact hd.cell i hi, Nat.lt_of_lt_of_le hd.lt hg.size⟩
theorem AllRow.form {P : Value → Prop} {w : World} {b n : Nat} {et : TypeId} {v : Value} {xs : List Value} (h : AllRow P w b et v n xs) : ∃ av cv, v = .slice av n cv := by
 rcases h.1.2 with ⟨rfl, rfl⟩ | ⟨g, cap, cur, rfl, -⟩
 ·exact ⟨none, 0, rfl⟩
 ·exact ⟨_, _, rfl⟩
theorem AllRow.at {P : Value → Prop} {w : World} {b n cv : Nat} {et : TypeId} {av : Option Addr} {xs : List Value} (h : AllRow P w b et (.slice av n cv) n xs) (h0 : 0 < n) : ∃ g, av = some ⟨g, 0, none⟩ ∧ g < w.heap.size ∧ ∀ (j : Nat) (u : Value), xs[j]? = some u → w.cell? ⟨g, j, none⟩ = some u := by
 rcases h.1.2 with ⟨_, e0⟩ | ⟨g, cap, cur, e, hr⟩
 ·omega
 ·cases e
  refine ⟨g, rfl, (h.1.lt g rfl).2, fun j u hj => ?_⟩
  have := h.1.cells (g := g) rfl j u hj
  rwa [add0H] at this
theorem AllRow.len {P : Value → Prop} {w : World} {b n : Nat} {et : TypeId} {v : Value} {xs : List Value} (h : AllRow P w b et v n xs) : xs.length = n := by rw [h.1.1, Nat.mul_one]
/-- The first n cells hold U's vectors. -/
def UX (w : World) (U : Nat → List Rat) (n : Nat) (ls : List Value) : Prop := ∀ m, m < n → ∃ u, ls[m]? = some u ∧ SlQ w u (U m)
theorem UX.nil (w : World) (U : Nat → List Rat) : UX w U 0 [] := fun m h => absurd h (Nat.not_lt_zero _)
theorem UX.below {w w' : World} {U : Nat → List Rat} {n : Nat} {ls : List Value} (h : UX w U n ls) (hb : Below w.heap.size w w') : UX w' U n ls := fun m hm => by
 obtain ⟨u, h1, h2⟩ := h m hm
 exact ⟨u, h1, h2.below hb⟩
theorem UX.apart {w w' : World} {U : Nat → List Rat} {base n k : Nat} {et : TypeId} {s : Value} {xs ls : List Value} (h : UX w U n ls) (hs : AllRow isSl w base et s k xs) (hg : w.grownBy w' s.ownBlock) : UX w' U n ls := fun m hm => by
 obtain ⟨u, h1, h2⟩ := h m hm
 exact ⟨u, h1, slq_apart h2 hs hg⟩
theorem PTs.apart {w w' : World} {base k : Nat} {et : TypeId} {s : Value} {xs : List Value} {S : List (Value × List Rat)} (h : PTs w S) (hs : AllRow isSl w base et s k xs) (hg : w.grownBy w' s.ownBlock) : PTs w' S := fun p hp => slq_apart (h p hp) hs hg
theorem vls_all {w : World} {b n : Nat} {et : TypeId} {v : Value} {ls : List Value} {U : Nat → List Rat} (h : AllRow isSl w b et v n ls) (hu : UX w U n ls) : VLs w v ((List.range n).map U) := by
 obtain ⟨av, cv, rfl⟩ := h.form
 have hl : ((List.range n).map U).length = n := by rw [List.length_map, List.length_range]
 by_cases h0 : 0 < n
 ·obtain ⟨g, rfl, hg, hc⟩ := h.at h0
  refine ⟨some ⟨g, 0, none⟩, cv, g, by rw [hl], fun _ => ⟨rfl, hg⟩, fun i hi => ?_⟩
  obtain ⟨u, h1, h2⟩ := hu i (by rw [hl] at hi; exact hi)
  exact ⟨u, hc i u h1, by simpa using h2⟩
 ·obtain rfl : n = 0 := by omega
  exact ⟨av, cv, 0, rfl, fun h => absurd h (by simp), fun i hi => absurd hi (by simp)⟩
theorem infoVec : (Tryz.prog.info? 28).map (fun i => (i.zero, i.size, i.bytes)) = some (some (.slice none 0 0), 1, 24) := by kernel_rfl
theorem undVec : Tryz.prog.underlying 26 = some (.slice 28) := by kernel_rfl
theorem ptp9_form {w : World} {v : Value} {l : List Rat} {n : Nat} (h : SlQ w v l) (hl : l.length = n) (h0 : 0 < n) : ∃ g c, v = .slice (some ⟨g, 0, none⟩) n c := by
 obtain ⟨ao, c, e, hf⟩ := slq_len h
 obtain ⟨g, e2, -⟩ := hf (by omega)
 exact ⟨g, c, by rw [e, e2, hl]⟩
end Go.Proofs.YthffglapmkkohaaGreatDoor
namespace Go.Proofs.YthffglapmkkohaaGreatDoor
open Go.RowKit
/-- The integers that a slice (anywhere) holds. -/
def IA (w : World) (v : Value) (zs : List Int) : Prop :=
 ∃ ao c, v = .slice ao zs.length c ∧ (∀ z ∈ zs, -9223372036854775808 ≤ z ∧ z < 9223372036854775808) ∧ (0 < zs.length → ∃ a : Addr, ao = some a ∧ a.block < w.heap.size ∧ ∀ (i : Nat) (h : i < zs.length), w.cell? (a.add i) = some (.int .i64 zs[i]))
/-- The slices of plain fractions that a slice holds. -/
def QVV (w : World) (v : Value) (Ls : List (List (Int × Int))) : Prop :=
 ∃ ao c, v = .slice ao Ls.length c ∧ Ls.length ≤ c ∧ (ao = none → c = 0) ∧ (0 < Ls.length → ∃ a : Addr, ao = some a ∧ a.block < w.heap.size ∧ ∀ (i : Nat) (h : i < Ls.length), ∃ bo m k, w.cell? (a.add i) = some (.slice bo m k) ∧ QV w (.slice bo m k) Ls[i])
theorem add_block (a : Addr) (i : Nat) : (a.add i).block = a.block := add_blk a i
theorem IA.below {w w' : World} {v : Value} {zs : List Int} (h : IA w v zs) (hb : Below w.heap.size w w') : IA w' v zs := by
 obtain ⟨ao, c, h1, hz, h2⟩ := h
 refine ⟨ao, c, h1, hz, fun h0 => ?_⟩
 obtain ⟨a, h3, h4, h5⟩ := h2 h0
 exact ⟨a, h3, Nat.lt_of_lt_of_le h4 hb.size, fun i hi => (hb.cell (p := a.add i) (by rw [add_block]; exact h4)).trans (h5 i hi)⟩
theorem QVV.below {w w' : World} {v : Value} {Ls : List (List (Int × Int))} (h : QVV w v Ls) (hb : Below w.heap.size w w') : QVV w' v Ls := by
 obtain ⟨ao, c, h1, hl, hn, h2⟩ := h
 refine ⟨ao, c, h1, hl, hn, fun h0 => ?_⟩
 obtain ⟨a, h3, h4, h5⟩ := h2 h0
 refine ⟨a, h3, Nat.lt_of_lt_of_le h4 hb.size, fun i hi => ?_⟩
 obtain ⟨bo, m, k, h6, h7⟩ := h5 i hi
 exact ⟨bo, m, k, (hb.cell (p := a.add i) (by rw [add_block]; exact h4)).trans h6, h7.below hb⟩
theorem IA.keeps (v : Value) (zs : List Int) : Keeps fun w => IA w v zs := fun _ _ hb h => h.below hb
theorem QVV.keeps (v : Value) (Ls : List (List (Int × Int))) : Keeps fun w => QVV w v Ls := fun _ _ hb h => h.below hb
/-- The k-th slice of plain fractions. -/
theorem QVV.at {w : World} {ao : Option Addr} {m c : Nat} {Ls : List (List (Int × Int))} (h : QVV w (.slice ao m c) Ls) (i : Nat) (hi : i < m) : ∃ a : Addr, ao = some a ∧ ∃ bo mi k, w.cell? (a.add i) = some (.slice bo mi k) ∧ QV w (.slice bo mi k) (Ls.getD i []) := by
 obtain ⟨ao', c', e, _, _, h2⟩ := h
 obtain ⟨rfl, rfl, rfl⟩ : ao = ao' ∧ m = Ls.length ∧ c = c' := by simpa using e
 obtain ⟨a, rfl, _, h5⟩ := h2 (by omega)
 obtain ⟨bo, mi, k, h6, h7⟩ := h5 i hi
 refine ⟨a, rfl, bo, mi, k, h6, ?_⟩
 rw [List.getD_eq_getElem?_getD, List.getElem?_eq_getElem hi]
 exact h7
theorem IA.at {w : World} {ao : Option Addr} {m c : Nat} {zs : List Int} (h : IA w (.slice ao m c) zs) (i : Nat) (hi : i < m) : ∃ a : Addr, ao = some a ∧ w.cell? (a.add i) = some (.int .i64 (zs.getD i 0)) := by
 obtain ⟨ao', c', e, _, h2⟩ := h
 obtain ⟨rfl, rfl, rfl⟩ : ao = ao' ∧ m = zs.length ∧ c = c' := by simpa using e
 obtain ⟨a, rfl, _, h5⟩ := h2 (by omega)
 refine ⟨a, rfl, ?_⟩
 rw [List.getD_eq_getElem?_getD, List.getElem?_eq_getElem hi]
 exact h5 i hi
end Go.Proofs.YthffglapmkkohaaGreatDoor
namespace Go.Proofs.YthffglapmkkohaaGreatDoor
open Go.RowKit
attribute [local irreducible] lo hs sm s64 c64 d64 b64 mh ml pd pc qd qc val hiB str cmpI srD lz nb zl zh zs fe rowV tabV gv bsV
theorem PTs.putS {W W' : World} {S : List (Value × List Rat)} (h : PTs W S) {k : Nat} (hu : Upd k W W') (hs : ∀ p ∈ S, ∀ g, p.1.ownBlock = some g → g ≠ k) : PTs W' S := fun p hp => by
 rcases h p hp with h1 | ⟨g, c, h1, h2⟩
 ·exact .inl h1
 ·have hbl := hu.block g (hs p hp g (by rw [h1]; rfl))
  have cc : ∀ j, W'.cell? ⟨g, j, none⟩ = W.cell? ⟨g, j, none⟩ := fun j => World.cell?_of_block (a := ⟨g, j, none⟩) hbl
  exact .inr ⟨g, c, h1, fun i hi => by rw [cc, cc, cc, cc, cc]; exact h2.cell i hi, by rw [hu.size]; exact h2.lt⟩
end Go.Proofs.YthffglapmkkohaaGreatDoor
namespace Go.Proofs.YthffglapmkkohaaGreatDoor
open Go.RowKit
theorem own_grown {w w' : World} {base sz n : Nat} {et : TypeId} {v : Value} {xs : List Value} {s : Option Nat} (h : w.ownsRow base et sz v n xs) (hg : w.grownBy w' s) (hne : ∀ g, v.ownBlock = some g → s ≠ some g) : w'.ownsRow base et sz v n xs := by
 refine ⟨h.1, ?_⟩
 rcases h.2 with h0 | ⟨g, cap, cur, rfl, hb, hc, hr⟩
 ·exact .inl h0
 ·refine .inr ⟨g, cap, cur, rfl, hb, ?_, hr⟩
  rw [hg.block g (h.lt g rfl).2 fun e => hne g rfl e.symm]; exact hc
theorem AllRow.grown {P : Value → Prop} {w w' : World} {base n : Nat} {et : TypeId} {v : Value} {xs : List Value} {s : Option Nat} (h : AllRow P w base et v n xs) (hg : w.grownBy w' s) (hne : ∀ g, v.ownBlock = some g → s ≠ some g) : AllRow P w' base et v n xs :=
 ⟨own_grown h.1 hg hne, fun g hv i u hu => h.2 g hv i u (by
  rw [← World.cell?_of_block (a := ⟨g, i, none⟩) (hg.block g (h.1.lt g hv).2 fun e => hne g hv e.symm)]; exact hu)⟩
theorem own_upd12 {w w' : World} {k base sz n : Nat} {et : TypeId} {v : Value} {xs : List Value} (h : w.ownsRow base et sz v n xs) (hu : Upd k w w') (hk : k < base) : w'.ownsRow base et sz v n xs := by
 refine ⟨h.1, ?_⟩
 rcases h.2 with h0 | ⟨g, cap, cur, rfl, hb, hc, hr⟩
 ·exact .inl h0
 ·refine .inr ⟨g, cap, cur, rfl, hb, ?_, hr⟩
  rw [hu.block g (by omega)]; exact hc
theorem AllRow.upd12 {P : Value → Prop} {w w' : World} {base n k : Nat} {et : TypeId} {v : Value} {xs : List Value} (h : AllRow P w base et v n xs) (hu : Upd k w w') (hk : k < base) : AllRow P w' base et v n xs :=
 ⟨own_upd12 h.1 hu hk, fun g hg i u hc => h.2 g hg i u (by
  have := (h.1.lt g hg).1
  rw [← World.cell?_of_block (a := ⟨g, i, none⟩) (hu.block g (by omega))]; exact hc)⟩
/-- A vector that lies apart from a row. -/
def XF (B : Nat) (W : World) (vw u : Value) (l : List Rat) : Prop := SlQ W u l ∧ ∀ g, u.ownBlock = some g → B ≤ g ∧ g < W.heap.size ∧ vw.ownBlock ≠ some g
theorem XF.below {B : Nat} {W W' : World} {vw u : Value} {l : List Rat} (h : XF B W vw u l) (hb : Below W.heap.size W W') : XF B W' vw u l :=
 ⟨h.1.below hb, fun g hg => ⟨(h.2 g hg).1, Nat.lt_of_lt_of_le (h.2 g hg).2.1 hb.size, (h.2 g hg).2.2⟩⟩
theorem XF.upd {B k : Nat} {W W' : World} {vw u : Value} {l : List Rat} (h : XF B W vw u l) (hu : Upd k W W') (hk : k < B) : XF B W' vw u l :=
 ⟨(PTs.putS (S := [(u, l)]) (fun p hp => by rw [List.mem_singleton.1 hp]; exact h.1) hu (fun p hp g hg => by rw [List.mem_singleton.1 hp] at hg; have := (h.2 g hg).1; omega)) _ mZ, fun g hg => ⟨(h.2 g hg).1, by rw [hu.size]; exact (h.2 g hg).2.1, (h.2 g hg).2.2⟩⟩
structure SI (B : Nat) (W : World) (va vw : Value) (i j : Nat) (ls : List Value) (U : Nat → List Rat) (Zl : List Rat) : Prop where
 all : AllRow isSl W B 28 va i ls
 wt : OwnF W B vw j Zl
 ux : ∀ m, m < i → ∃ u, ls[m]? = some u ∧ XF B W vw u (U m)
 nl : j = 0 → vw.ownBlock = none
 bs : B ≤ W.heap.size
variable {B : Nat} {W W' : World} {va vw u : Value} {i j : Nat} {ls : List Value} {U : Nat → List Rat} {Zl : List Rat}
theorem SI.nil (W : World) (U : Nat → List Rat) (hB : B ≤ W.heap.size) : SI B W (.slice none 0 0) (.slice none 0 0) 0 0 [] U [] :=
 ⟨AllRow.nil _ _ _, World.ownsRow_nil _ _ _ _, fun m h => absurd h (Nat.not_lt_zero _), fun _ => rfl, hB⟩
theorem SI.below (h : SI B W va vw i j ls U Zl) (hb : Below W.heap.size W W') : SI B W' va vw i j ls U Zl :=
 ⟨h.all.below hb, own_below h.wt hb, fun m hm => by obtain ⟨u, h1, h2⟩ := h.ux m hm; exact ⟨u, h1, h2.below hb⟩, h.nl, Nat.le_trans h.bs hb.size⟩
theorem SI.upd {k : Nat} (h : SI B W va vw i j ls U Zl) (hu : Upd k W W') (hk : k < B) : SI B W' va vw i j ls U Zl :=
 ⟨h.all.upd12 hu hk, own_upd12 h.wt hu hk, fun m hm => by obtain ⟨u, h1, h2⟩ := h.ux m hm; exact ⟨u, h1, h2.upd hu hk⟩, h.nl, by rw [hu.size]; exact h.bs⟩
theorem XF.all (h : SI B W va vw i j ls U Zl) {l : List Rat} (hx : XF B W vw u l) (hg : W.grownBy W' va.ownBlock) : XF B W' vw u l :=
 ⟨slq_apart hx.1 h.all hg, fun g hu => ⟨(hx.2 g hu).1, Nat.lt_of_lt_of_le (hx.2 g hu).2.1 hg.size, (hx.2 g hu).2.2⟩⟩
theorem XF.fresh (h : SI B W va vw i j ls U Zl) (hb : Below W.heap.size W W') {l : List Rat} (hq : SlQ W' u l) (hf : ∀ g, u.ownBlock = some g → W.heap.size ≤ g ∧ g < W'.heap.size) : XF B W' vw u l :=
 ⟨hq, fun g hu => ⟨Nat.le_trans h.bs (hf g hu).1, (hf g hu).2, fun e => by have := (h.wt.lt g e).2; have := (hf g hu).1; omega⟩⟩
theorem SI.vls (h : SI B W va vw i j ls U Zl) : VLs W va ((List.range i).map U) := vls_all h.all fun m hm => by
 obtain ⟨u, h1, h2⟩ := h.ux m hm
 exact ⟨u, h1, h2.1⟩
theorem OwnF.slq {w : World} {B n : Nat} {v : Value} {l : List Rat} (h : OwnF w B v n l) : SlQ w v l := by
 have hl := h.1
 rw [frCs_length] at hl
 rcases h.2 with ⟨rfl, h0⟩ | ⟨g, cap, cur, rfl, hr⟩
 ·exact .inl ⟨none, 0, rfl, List.eq_nil_of_length_eq_zero (by omega)⟩
 ·have e : n = l.length := by omega
  subst e
  exact .inr ⟨g, cap, rfl, own_fs h rfl⟩
theorem own_form12 {w : World} {base sz n : Nat} {et : TypeId} {v : Value} {xs : List Value} (h : w.ownsRow base et sz v n xs) : ∃ a c, v = .slice a n c := by
 rcases h.2 with ⟨rfl, rfl⟩ | ⟨g, cap, cur, rfl, -⟩
 ·exact ⟨none, 0, rfl⟩
 ·exact ⟨_, _, rfl⟩
theorem SI.last (h : SI B W va vw (i + 1) j (ls ++ [u]) U Zl) (hl : ls.length = i) : XF B W vw u (U i) := by
 obtain ⟨v, h1, h2⟩ := h.ux i (Nat.lt_succ_self _)
 rw [List.getElem?_append_right (by omega), hl, Nat.sub_self] at h1
 simp only [List.getElem?_cons_zero, Option.some.injEq] at h1
 rw [h1]; exact h2
end Go.Proofs.YthffglapmkkohaaGreatDoor
namespace Go.Proofs.YthffglapmkkohaaGreatDoor
open Go.RowKit
attribute [local irreducible] lo hs sm s64 c64 d64 b64 mh ml pd pc qd qc val hiB str cmpI srD lz nb zl zh zs fe rowV tabV gv bsV tabM
def rwE (n : Nat) (bk : Nat → Nat) (R : Nat) : List Value := (List.range R).map fun i => .slice (some ⟨bk i, 0, none⟩) n n
def pvE (pv : List Nat) : List Value := pv.map fun (k : Nat) => .int .i64 (k : Int)
theorem rw_at {n R i : Nat} {bk : Nat → Nat} (h : i < R) : (rwE n bk R)[i]? = some (.slice (some ⟨bk i, 0, none⟩) n n) := by
 unfold rwE
 rw [List.getElem?_map, List.getElem?_range h]; rfl
theorem rw_len (n R : Nat) (bk : Nat → Nat) : (rwE n bk R).length = R := by unfold rwE; rw [List.length_map, List.length_range]
theorem pv_at {pv : List Nat} {i : Nat} (h : i < pv.length) : (pvE pv)[i]? = some (.int .i64 ((pv[i] : Nat) : Int)) := by
 unfold pvE
 rw [List.getElem?_map, List.getElem?_eq_getElem h]; rfl
/-- The grid g: rows, pivots, factor. -/
structure GR (B : Nat) (W : World) (g : Nat) (ru pu : Value) (R n : Nat) (bk : Nat → Nat) (G : Gd) (pv : List Nat) (f : Rat) : Prop where
 hg : Hd W g (ru :: pu :: frC f)
 hr : W.ownsRow B 28 1 ru R (rwE n bk R)
 hp : W.ownsRow B 3 1 pu pv.length (pvE pv)
 hB : ∀ i, i < R → B ≤ bk i ∧ Hd W (bk i) (frCs (tabV n (G i)))
 inj : ∀ i j, i < R → j < R → bk i = bk j → i = j
 gB : B ≤ g
 bs : B ≤ W.heap.size
 ng : ∀ i, i < R → bk i ≠ g
 nr : ∀ i, i < R → ru.ownBlock ≠ some (bk i)
 np : ∀ i, i < R → pu.ownBlock ≠ some (bk i)
 rg : ru.ownBlock ≠ some g
 pg : pu.ownBlock ≠ some g
 rp : ∀ z, ru.ownBlock = some z → pu.ownBlock ≠ some z
theorem own_chs {S : Nat → Prop} {w w' : World} {base sz n : Nat} {et : TypeId} {v : Value} {xs : List Value} (h : w.ownsRow base et sz v n xs) (hc : Chs S w w') (hs : ∀ z, v.ownBlock = some z → ¬ S z) : w'.ownsRow base et sz v n xs := by
 have hlt := h.lt
 refine ⟨h.1, ?_⟩
 rcases h.2 with h0 | ⟨g, cap, cur, rfl, hb, hcc, hr⟩
 ·exact .inl h0
 ·refine .inr ⟨g, cap, cur, rfl, hb, ?_, hr⟩
  rw [hc.block g (hlt g rfl).2 (hs g rfl)]; exact hcc
theorem Chs.of_grown {w w' : World} {s : Option Nat} (h : w.grownBy w' s) : Chs (fun k => some k = s) w w' := ⟨h.os, h.tape, h.output, h.size, fun k hk hn => h.block k hk hn⟩
section
variable {B : Nat} {W W' : World} {g R n : Nat} {ru pu : Value} {bk : Nat → Nat} {G : Gd} {pv : List Nat} {f : Rat}
theorem GR.below (h : GR B W g ru pu R n bk G pv f) (hb : Below W.heap.size W W') : GR B W' g ru pu R n bk G pv f :=
 ⟨h.hg.below hb, own_below9 h.hr hb, own_below9 h.hp hb, fun i hi => ⟨(h.hB i hi).1, (h.hB i hi).2.below hb⟩, h.inj, h.gB, Nat.le_trans h.bs hb.size, h.ng, h.nr, h.np, h.rg, h.pg, h.rp⟩
/-- A row has been written. -/
theorem GR.row (h : GR B W g ru pu R n bk G pv f) (i : Nat) (hi : i < R) (A : Nat → Rat) (hc : Chs (· = bk i) W W') (hd : Hd W' (bk i) (frCs (tabV n A))) : GR B W' g ru pu R n bk (fun a => if a = i then A else G a) pv f :=
 ⟨h.hg.chs hc fun e => h.ng i hi e.symm, own_chs h.hr hc fun z hz e => h.nr i hi (e ▸ hz), own_chs h.hp hc fun z hz e => h.np i hi (e ▸ hz), fun a ha => ⟨(h.hB a ha).1, by
  by_cases e : a = i
  ·subst e; rw [if_pos rfl]; exact hd
  ·rw [if_neg e]; exact (h.hB a ha).2.chs hc fun e2 => e (h.inj a i ha hi e2)⟩, h.inj, h.gB, Nat.le_trans h.bs hc.size, h.ng, h.nr, h.np, h.rg, h.pg, h.rp⟩
/-- The factor has been written. -/
theorem GR.fac (h : GR B W g ru pu R n bk G pv f) (q : Rat) (hu : Upd g W W') (hd : Hd W' g (ru :: pu :: frC q)) : GR B W' g ru pu R n bk G pv q :=
 have hc := Chs.of_upd hu
 ⟨hd, own_chs h.hr hc fun z hz e => h.rg (e ▸ hz), own_chs h.hp hc fun z hz e => h.pg (e ▸ hz), fun a ha => ⟨(h.hB a ha).1, (h.hB a ha).2.chs hc (h.ng a ha)⟩, h.inj, h.gB, Nat.le_trans h.bs hc.size, h.ng, h.nr, h.np, h.rg, h.pg, h.rp⟩
theorem GR.congr {H : Gd} (h : GR B W g ru pu R n bk G pv f) (e : ∀ i, i < R → ∀ j, j < n → G i j = H i j) : GR B W g ru pu R n bk H pv f :=
 ⟨h.hg, h.hr, h.hp, fun i hi => ⟨(h.hB i hi).1, by rw [← tab_ext (e i hi)]; exact (h.hB i hi).2⟩, h.inj, h.gB, h.bs, h.ng, h.nr, h.np, h.rg, h.pg, h.rp⟩
theorem GR.rform (h : GR B W g ru pu R n bk G pv f) : ∃ a c, ru = .slice a R c := own_form12 h.hr
theorem GR.pform (h : GR B W g ru pu R n bk G pv f) : ∃ a c, pu = .slice a pv.length c := own_form12 h.hp
theorem GR.rpos (h : GR B W g ru pu R n bk G pv f) (h0 : 0 < R) : ∃ z c, ru = .slice (some ⟨z, 0, none⟩) R c ∧ B ≤ z ∧ z < W.heap.size ∧ R ≤ c ∧ z ≠ g ∧ (∀ i, i < R → W.cell? ⟨z, i, none⟩ = some (.slice (some ⟨bk i, 0, none⟩) n n)) ∧ (∀ j, W.frozen? ⟨z, j, none⟩ = false) := by
 have h1 := h.hr
 have hlt := h1.lt
 have hrg := h.rg
 rcases id h1.2 with ⟨_, e⟩ | ⟨z, c, cur, rfl, hb, -, hc, -⟩
 ·omega
 ·exact ⟨z, c, rfl, hb, (hlt z rfl).2, hc, fun e => hrg (by rw [e]; rfl), fun i hi => (h1.cellAt i (by omega)).trans (rw_at hi), fun j => h1.frozenAt j⟩
theorem GR.ppos (h : GR B W g ru pu R n bk G pv f) (h0 : 0 < pv.length) : ∃ z c, pu = .slice (some ⟨z, 0, none⟩) pv.length c ∧ B ≤ z ∧ z < W.heap.size ∧ (∀ i (hi : i < pv.length), W.cell? ⟨z, i, none⟩ = some (.int .i64 ((pv[i] : Nat) : Int))) := by
 have h1 := h.hp
 have hlt := h1.lt
 rcases id h1.2 with ⟨_, e⟩ | ⟨z, c, cur, rfl, hb, -⟩
 ·omega
 ·exact ⟨z, c, rfl, hb, (hlt z rfl).2, fun i hi => (h1.cellAt i (by omega)).trans (pv_at hi)⟩
/-- The cells of the grid itself. -/
theorem GR.cells (h : GR B W g ru pu R n bk G pv f) : W.cell? ⟨g, 0, none⟩ = some ru ∧ W.cell? ⟨g, 1, none⟩ = some pu ∧ FC W g 2 f := by
 have hl : (ru :: pu :: frC f).length = 7 := by simp [frC_length]
 exact ⟨h.hg.cell 0 (by omega), h.hg.cell 1 (by omega), h.hg.cell 2 (by omega), h.hg.cell 3 (by omega), h.hg.cell 4 (by omega), h.hg.cell 5 (by omega), h.hg.cell 6 (by omega)⟩
theorem fac_hd {q : Rat} (h : Hd W g (ru :: pu :: frC f)) : Hd (put5 W g 2 q) g (ru :: pu :: frC q) := setAll_hdn (frC q) 2 W (ru :: pu :: frC f) (by simp [frC_length]) h
theorem GR.putF (h : GR B W g ru pu R n bk G pv f) (q : Rat) : GR B (put5 W g 2 q) g ru pu R n bk G pv q := h.fac q (put5_upd W g 2 q) (fac_hd h.hg)
/-- Two rows have been exchanged. -/
def swpB (bk : Nat → Nat) (a b : Nat) : Nat → Nat := fun i => if i = a then bk b else if i = b then bk a else bk i
theorem rw_set {i j : Nat} (hi : i < R) (hj : j < R) : ((rwE n bk R).set i (.slice (some ⟨bk j, 0, none⟩) n n)).set j (.slice (some ⟨bk i, 0, none⟩) n n) = rwE n (swpB bk i j) R := by
 refine List.ext_getElem? fun a => ?_
 rw [List.getElem?_set, List.length_set, rw_len, List.getElem?_set, rw_len]
 rcases Nat.lt_or_ge a R with h | h
 ·rw [rw_at h, rw_at h]
  unfold swpB
  by_cases e1 : j = a
  ·subst e1
   rw [if_pos rfl, if_pos hj]
   by_cases e2 : j = i
   ·subst e2; rw [if_pos rfl]
   ·rw [if_neg e2, if_pos rfl]
  ·rw [if_neg e1]
   by_cases e2 : i = a
   ·subst e2; rw [if_pos rfl, if_pos hi, if_pos rfl]
   ·rw [if_neg e2, if_neg (show ¬ a = i from fun e => e2 e.symm), if_neg (show ¬ a = j from fun e => e1 e.symm)]
 ·rw [if_neg (by omega), if_neg (by omega), List.getElem?_eq_none (by rw [rw_len]; exact h), List.getElem?_eq_none (by rw [rw_len]; exact h)]
theorem swpB_mem {i j a : Nat} (hi : i < R) (hj : j < R) (ha : a < R) : ∃ b, b < R ∧ swpB bk i j a = bk b ∧ swpG G i j a = G b ∧ (a = i ∧ b = j ∨ a = j ∧ b = i ∨ a ≠ i ∧ a ≠ j ∧ b = a) := by
 unfold swpB swpG
 by_cases e1 : a = i
 ·exact ⟨j, hj, by rw [if_pos e1], by rw [if_pos e1], .inl ⟨e1, rfl⟩⟩
 ·by_cases e2 : a = j
  ·exact ⟨i, hi, by rw [if_neg e1, if_pos e2], by rw [if_neg e1, if_pos e2], .inr (.inl ⟨e2, rfl⟩)⟩
  ·exact ⟨a, ha, by rw [if_neg e1, if_neg e2], by rw [if_neg e1, if_neg e2], .inr (.inr ⟨e1, e2, rfl⟩)⟩
theorem GR.swap {z c : Nat} (h : GR B W g (.slice (some ⟨z, 0, none⟩) R c) pu R n bk G pv f) {i j : Nat} (hi : i < R) (hj : j < R) :
  GR B ((W.setCell ⟨z, i, none⟩ (.slice (some ⟨bk j, 0, none⟩) n n)).setCell ⟨z, j, none⟩ (.slice (some ⟨bk i, 0, none⟩) n n)) g (.slice (some ⟨z, 0, none⟩) R c) pu R n (swpB bk i j) (swpG G i j) pv f ∧ Upd z W ((W.setCell ⟨z, i, none⟩ (.slice (some ⟨bk j, 0, none⟩) n n)).setCell ⟨z, j, none⟩ (.slice (some ⟨bk i, 0, none⟩) n n)) := by
 have hu : Upd z W ((W.setCell ⟨z, i, none⟩ (.slice (some ⟨bk j, 0, none⟩) n n)).setCell ⟨z, j, none⟩ (.slice (some ⟨bk i, 0, none⟩) n n)) := ((Upd.refl z W).setCell _ _).setCell _ _
 have hc := Chs.of_upd hu
 have h1 := (h.hr.stored i (.slice (some ⟨bk j, 0, none⟩) n n)).1
 have h2 := (World.ownsRow.stored h1 j (.slice (some ⟨bk i, 0, none⟩) n n)).1
 rw [rw_set hi hj] at h2
 have hz : ∀ a, a < R → bk a ≠ z := fun a ha e => h.nr a ha (by rw [e]; rfl)
 refine ⟨⟨h.hg.chs hc fun e => h.rg (by rw [e]; rfl), h2, own_chs h.hp hc fun y hy e => h.rp z rfl (e ▸ hy), fun a ha => ?_, fun a b ha hb e => ?_, h.gB, by rw [hu.size]; exact h.bs, fun a ha => ?_, fun a ha => ?_, fun a ha => ?_, h.rg, h.pg, h.rp⟩, hu⟩
 ·obtain ⟨b, hb, e1, e2, -⟩ := swpB_mem (bk := bk) (G := G) hi hj ha
  rw [e1, e2]
  exact ⟨(h.hB b hb).1, (h.hB b hb).2.chs hc (hz b hb)⟩
 ·obtain ⟨a1, ha1, e1, -, c1⟩ := swpB_mem (bk := bk) (G := G) hi hj ha
  obtain ⟨b1, hb1, e2, -, c2⟩ := swpB_mem (bk := bk) (G := G) hi hj hb
  rw [e1, e2] at e
  have := h.inj a1 b1 ha1 hb1 e
  omega
 ·obtain ⟨b, hb, e1, -⟩ := swpB_mem (bk := bk) (G := G) hi hj ha
  rw [e1]; exact h.ng b hb
 ·obtain ⟨b, hb, e1, -⟩ := swpB_mem (bk := bk) (G := G) hi hj ha
  rw [e1]; exact h.nr b hb
 ·obtain ⟨b, hb, e1, -⟩ := swpB_mem (bk := bk) (G := G) hi hj ha
  rw [e1]; exact h.np b hb
end
end Go.Proofs.YthffglapmkkohaaGreatDoor
namespace Go.Proofs.YthffglapmkkohaaGreatDoor
open Go.RowKit
attribute [local irreducible] lo hs sm s64 c64 d64 b64 mh ml pd pc qd qc val hiB str cmpI srD lz nb zl zh zs fe rowV tabV gv bsV tabM
theorem swp_self (G : Gd) (i : Nat) : swpG G i i = G := by
 funext a
 unfold swpG
 by_cases e : a = i
 ·rw [if_pos e, e]
 ·rw [if_neg e, if_neg e]
theorem eraise_w (B g R n K : Nat) (ru pu : Value) (bk : Nat → Nat) (G : Gd) (pv : List Nat) (f : Rat) (i t : Nat) (hi : i < R) (ht : t < R) (hR : R ≤ 100000) (w : World) (h : GR B w g ru pu R n bk G pv f) :
  Calls Tryz.prog 157 #[.pointer (some ⟨g, 0, none⟩), .int .i64 (i : Int), .int .i64 (t : Int)] w fun e w' => e = .returned (.tuple #[]) ∧ (∃ bk', GR B w' g ru pu R n bk' (swpG G i t) pv (if i = t then f else -f)) ∧ Chs (fun k => B ≤ k) w w' := by
 by_cases e : i = t
 ·subst e
  rw [swp_self, if_pos rfl]
  go_enter Tryz.func157, Tryz.ntmps157
  go_wp2_with fail
  exact bodyPost_ret (v := .tuple #[]) (by simp [results, Tryz.results157, go_sem]) rfl ⟨rfl, ⟨bk, h⟩, Chs.refl _ _⟩
 ·rw [if_neg e]
  have HN := fun w => negF f w
  generalize -f = q at HN ⊢
  replace HN := Lib.hid HN
  have i0 : (0 : Int) ≤ (i : Int) := Int.natCast_nonneg _
  have i1 : (i : Int) < (R : Int) := by omega
  have t0 : (0 : Int) ≤ (t : Int) := Int.natCast_nonneg _
  have t1 : (t : Int) < (R : Int) := by omega
  have ib : (i : Int) ≤ 100000 := by omega
  have tb : (t : Int) ≤ 100000 := by omega
  have ne1 : ¬ (i : Int) = (t : Int) := by omega
  have ne2 : ((i : Int) == (t : Int)) = false := by simpa using ne1
  obtain ⟨z, c, rfl, hz1, hz2, hz3, hz4, hz5, hz6⟩ := h.rpos (by omega)
  have ci := hz5 i hi
  have ct := hz5 t ht
  have cg := h.cells.1
  obtain ⟨hs1, hs2⟩ := h.swap hi ht
  go_enter Tryz.func157, Tryz.ntmps157
  go_upto_region 1 with fail
  have ne3 : z ≠ g := hz4
  have ne4 : g ≠ z := fun e => hz4 e.symm
  have ne5 : i ≠ t := e
  have ne6 : t ≠ i := fun x => e x.symm
  have hzB := hz1
  clear hz1 hz2 hz3 hz4 hz5
  go_region
  have hs3 := hs1.below ((Below.refl _ _).drew)
  have hc3 : Chs (fun k => B ≤ k) w _ := ((Chs.of_upd hs2).mono (T := fun k => B ≤ k) fun k _ e => by rw [e]; exact hzB).trans (Chs.of_below ((Below.refl _ _).drew))
  generalize ((w.setCell ⟨z, i, none⟩ (.slice (some ⟨bk t, 0, none⟩) n n)).setCell ⟨z, t, none⟩ (.slice (some ⟨bk i, 0, none⟩) n n)).drew = x1 at hs3 hc3 ⊢
  clear h hs1 hs2 ci ct cg hz6
  obtain ⟨-, -, f0, f1, f2, f3, f4⟩ := hs3.cells
  go_wp2_with fail
  with_reducible refine Calls.mono (HN.out _) ?_
  rintro e y1 ⟨rfl, hb⟩
  replace hs3 := hs3.below hb
  replace hc3 := hc3.trans (Chs.of_below hb)
  clear hb f0 f1 f2 f3 f4
  obtain ⟨-, -, f0, f1, f2, f3, f4⟩ := hs3.cells
  have zz := hs3.hg.frz
  have hu := put5_upd y1 g 2 q
  have hP := hs3.putF q
  have hgB := hs3.gB
  obtain ⟨y2, hy⟩ : ∃ y, put5 y1 g 2 q = y := ⟨_, rfl⟩
  rw [hy] at hP hu
  simp only [put5, Nat.reduceAdd] at hy
  have hc4 := hc3.trans ((Chs.of_upd hu).mono (T := fun k => B ≤ k) fun k _ e => by rw [e]; exact hgB)
  clear hs3 hu
  go_wp2_with fail
  exact bodyPost_end (v := .tuple #[]) (by simp [results, Tryz.results157, go_sem]) rfl ⟨rfl, ⟨_, hP⟩, hc4⟩
end Go.Proofs.YthffglapmkkohaaGreatDoor
namespace Go.Proofs.YthffglapmkkohaaGreatDoor
open Go.RowKit
attribute [local irreducible] lo hs sm s64 c64 d64 b64 mh ml pd pc qd qc val hiB str cmpI srD lz nb zl zh zs fe rowV tabV gv bsV tabM
theorem fnd_zero {G : Gd} {k : Nat} : ∀ {n t : Nat}, (∀ j, t ≤ j → j < t + n → G j k = 0) → fnd G k t n = none := by
 intro n
 induction n with
 | zero => intro t _; rfl
 | succ n ih =>
  intro t h
  unfold fnd
  rw [if_neg (fun g => g (h t (Nat.le_refl _) (by omega)))]
  exact ih fun j h1 h2 => h j (by omega) (by omega)
theorem fnd_is {G : Gd} {k i : Nat} : ∀ {n t : Nat}, t ≤ i → i < t + n → G i k ≠ 0 → (∀ j, t ≤ j → j < i → G j k = 0) → fnd G k t n = some i := by
 intro n
 induction n with
 | zero => intro t h1 h2; omega
 | succ n ih =>
  intro t h1 h2 h3 h4
  unfold fnd
  by_cases e : t = i
  ·subst e; rw [if_pos h3]
  ·rw [if_neg (fun g => g (h4 t (Nat.le_refl _) (by omega)))]
   exact ih (by omega) (by omega) h3 fun j a b => h4 j (by omega) b
theorem step_none {R k : Nat} {s : ES} (hl : s.pv.length ≤ R) (h : ∀ j, s.pv.length ≤ j → j < R → s.G j k = 0) : stepE R k s = s := by
 unfold stepE
 rw [fnd_zero fun j h1 h2 => h j h1 (by omega)]
theorem step_some {R k i : Nat} {s : ES} (h1 : s.pv.length ≤ i) (h2 : i < R) (h3 : s.G i k ≠ 0) (h4 : ∀ j, s.pv.length ≤ j → j < i → s.G j k = 0) :
  stepE R k s = ⟨clrG (divG (swpG s.G i s.pv.length) s.pv.length k) s.pv.length k R, s.pv ++ [k], (if i = s.pv.length then s.f else -s.f) * swpG s.G i s.pv.length s.pv.length k⟩ := by
 unfold stepE
 rw [fnd_is h1 (by omega) h3 h4]
theorem clr_zero (G : Gd) (t k : Nat) : clrG G t k (t + 1) = G := by
 funext a j; unfold clrG; rw [if_neg fun h => by omega]
theorem clr_step (G : Gd) (t k i : Nat) (hi : t < i) : (fun a => if a = i then (fun j => if k ≤ j then clrG G t k i i j - clrG G t k i i k * clrG G t k i t j else clrG G t k i i j) else clrG G t k i a) = clrG G t k (i + 1) := by
 funext a j
 by_cases e : a = i
 ·subst e
  rw [if_pos rfl]
  have e1 : clrG G t k a a = G a := by funext j; unfold clrG; rw [if_neg fun h => by omega]
  have e2 : clrG G t k a t = G t := by funext j; unfold clrG; rw [if_neg fun h => by omega]
  rw [e1, e2]
  unfold clrG
  by_cases g : k ≤ j
  ·rw [if_pos g, if_pos ⟨hi, by omega, g⟩]
  ·rw [if_neg g, if_neg fun h => g h.2.2]
 ·rw [if_neg e]
  unfold clrG
  by_cases g : t < a ∧ a < i ∧ k ≤ j
  ·rw [if_pos g, if_pos ⟨g.1, by omega, g.2.2⟩]
  ·rw [if_neg g, if_neg fun h => g ⟨h.1, by omega, h.2.2⟩]
theorem div_row (G : Gd) (t k : Nat) : (fun a => if a = t then (fun j => if k ≤ j then G t j / G t k else G t j) else G a) = divG G t k := by
 funext a j
 unfold divG
 by_cases e : a = t
 ·subst e
  rw [if_pos rfl]
  by_cases g : k ≤ j
  ·rw [if_pos g, if_pos ⟨rfl, g⟩]
  ·rw [if_neg g, if_neg fun h => g h.2]
 ·rw [if_neg e, if_neg fun h => e h.1]
theorem infoRw : (Tryz.prog.info? 3).map (fun i => (i.zero, i.size, i.bytes)) = some (some (.int .i64 0), 1, 8) := by kernel_rfl
theorem undRw : Tryz.prog.underlying 24 = some (.slice 3) := by kernel_rfl
/-- One integer more in a row of integers. -/
theorem wp_appendI {w : World} {ops : Array Oper} {rest : List Oper} {o : Oper} {a : Act} {Q : Exit → Act → World → Prop} (hgd : o.guard = none) (s x : Operand)
  (ho : o.op = .call { callee := .builtin .append, args := #[s, x], argTypes := #[24, 24] }) (B : Nat) (v : Value) (n : Nat) (xs : List Value) (hs : a.eval s = v) (hown : w.ownsRow B 3 1 v n xs) (ad : Addr) (t : Int) (c : Nat) (hx : a.eval x = .slice (some ad) 1 c) (hH : w.cell? ad = some (.int .i64 t))
  (hn : n ≤ 100000) (hbase : B ≤ w.heap.size)
  (h : ∀ v' w', w'.ownsRow B 3 1 v' (n + 1) (xs ++ [.int .i64 t]) → w.grownBy w' v.ownBlock → (v'.ownBlock = v.ownBlock ∨ v'.ownBlock = some w.heap.size) → wpList Tryz.prog ops Q rest (a.put o.dst v') w') : wpList Tryz.prog ops Q (o :: rest) a w := by
 obtain ⟨i0, hi, hz1, hz2, hz3⟩ := info_parts infoRw
 refine wpList_append_own_at w hgd s x 24 ho B 3 i0 _ 1 8 undRw hi hz1 hz2 hz3 rfl (by decide) v n xs hs hown ad 1 c [.int .i64 t] hx rfl (fun j u hj => ?_) (by simp [Value.oneCell']) (by unfold maxLen; omega) (by omega) hbase fun v' w' h1 h2 _ h4 => h v' w' h1 h2 h4
 match j, hj with
 | 0, hj =>
  simp at hj
  subst hj
  rw [show ad.add 0 = ad from by unfold Addr.add; simp]
  exact hH
/-- One row more. -/
theorem wp_appendW {w : World} {ops : Array Oper} {rest : List Oper} {o : Oper} {a : Act} {Q : Exit → Act → World → Prop} (hgd : o.guard = none) (s x : Operand)
  (ho : o.op = .call { callee := .builtin .append, args := #[s, x], argTypes := #[26, 26] }) (B : Nat) (v : Value) (n : Nat) (xs : List Value) (hs : a.eval s = v) (hown : w.ownsRow B 28 1 v n xs) (ad : Addr) (t : Value) (ht : t.oneCell' = true) (c : Nat) (hx : a.eval x = .slice (some ad) 1 c) (hH : w.cell? ad = some t)
  (hn : n ≤ 100000) (hbase : B ≤ w.heap.size)
  (h : ∀ v' w', w'.ownsRow B 28 1 v' (n + 1) (xs ++ [t]) → w.grownBy w' v.ownBlock → (v'.ownBlock = v.ownBlock ∨ v'.ownBlock = some w.heap.size) → wpList Tryz.prog ops Q rest (a.put o.dst v') w') : wpList Tryz.prog ops Q (o :: rest) a w := by
 obtain ⟨i0, hi, hz1, hz2, hz3⟩ := info_parts infoVec
 refine wpList_append_own_at w hgd s x 26 ho B 28 i0 _ 1 24 undVec hi hz1 hz2 hz3 rfl (by decide) v n xs hs hown ad 1 c [t] hx rfl (fun j u hj => ?_) (by simpa using ht) (by unfold maxLen; omega) (by omega) hbase fun v' w' h1 h2 _ h4 => h v' w' h1 h2 h4
 match j, hj with
 | 0, hj =>
  simp at hj
  subst hj
  rw [show ad.add 0 = ad from by unfold Addr.add; simp]
  exact hH
section
variable {B : Nat} {W W' : World} {g R n : Nat} {ru pu : Value} {bk : Nat → Nat} {G : Gd} {pv : List Nat} {f : Rat}
/-- A pivot more. -/
theorem GR.push (h : GR B W g ru pu R n bk G pv f) {v : Value} (k : Nat) (ho : W'.ownsRow B 3 1 v (pv.length + 1) (pvE pv ++ [.int .i64 (k : Int)])) (hg : W.grownBy W' pu.ownBlock) (hv : v.ownBlock = pu.ownBlock ∨ v.ownBlock = some W.heap.size) :
  GR B (W'.setCell ⟨g, 1, none⟩ v) g ru v R n bk G (pv ++ [k]) f ∧ Hd W' g (ru :: pu :: frC f) ∧ Upd g W' (W'.setCell ⟨g, 1, none⟩ v) := by
 have hc := Chs.of_grown hg
 have hu : Upd g W' (W'.setCell ⟨g, 1, none⟩ v) := (Upd.refl g W').setCell _ _
 have hc2 := Chs.of_upd hu
 have hG := h.hg.chs hc fun e => h.pg e.symm
 have hlt := h.hr.lt
 have hvg : v.ownBlock ≠ some g := by
  rcases hv with e | e
  ·rw [e]; exact h.pg
  ·rw [e]; intro e2; have := h.hg.lt; simp at e2; omega
 have e1 : pvE (pv ++ [k]) = pvE pv ++ [.int .i64 (k : Int)] := by unfold pvE; rw [List.map_append]; rfl
 refine ⟨⟨?_, own_chs (own_chs h.hr hc fun z hz e => h.rp z hz e.symm) hc2 fun z hz e => h.rg (e ▸ hz), ?_, fun i hi => ⟨(h.hB i hi).1, ((h.hB i hi).2.chs hc fun e => h.np i hi e.symm).chs hc2 (h.ng i hi)⟩, h.inj, h.gB, by rw [hu.size]; exact Nat.le_trans h.bs hg.size, h.ng, h.nr, fun i hi => ?_, h.rg, hvg, fun z hz => ?_⟩, hG, hu⟩
 ·exact hd_set hG 1 v (by simp)
 ·rw [e1, List.length_append]; exact own_chs ho hc2 fun z hz e => hvg (e ▸ hz)
 ·rcases hv with e | e
  ·rw [e]; exact h.np i hi
  ·rw [e]; intro e2; have := (h.hB i hi).2.lt; simp at e2; omega
 ·rcases hv with e | e
  ·rw [e]; exact h.rp z hz
  ·rw [e]; intro e2; have := (hlt z hz).2; simp at e2; omega
/-- What is behind a place of the rows. -/
theorem rows_drop {z R c t : Nat} (hR : R ≤ 100000) (ht : t ≤ R) (hc : R ≤ c) : ∃ a2 c2, (∀ W, (Instr.slice 26 (.slice (some ⟨z, 0, none⟩) R c) (some (.int .i64 ((t : Nat) : Int))) none none).run Tryz.prog W = .ok (.slice a2 (R - t) c2) W) ∧ (t < R → a2 = some ⟨z, t, none⟩) := by
 obtain ⟨i0, hi0, hz1, hz2, hz3⟩ := info_parts infoVec
 have hsz : ∀ W, (sizeOf 28).run Tryz.prog W = .ok 1 W := fun W => by simp [sizeOf, typeInfo, hi0, hz2]
 have b1 : (0 : Int) ≤ ((t : Nat) : Int) := by omega
 have b2 : ((t : Nat) : Int) ≤ (R : Int) := by omega
 have b3 : (R : Int) ≤ (c : Int) := by omega
 have b4 : (0 : Int) ≤ (R : Int) := by omega
 refine ⟨if c = t then some ⟨z, 0, none⟩ else some ⟨z, t, none⟩, c - t, fun W => ?_, fun h => by rw [if_neg (by omega)]⟩
 simp [Instr.slice, Instr.sliceBounds, run_underlying Tryz.underlying26, run_sliceBound, b1, b2, b3, b4, hsz, go_sem, Addr.add]
 by_cases e : t = 0
 ·subst e; simp
 ·rw [if_neg e]
end
end Go.Proofs.YthffglapmkkohaaGreatDoor
namespace Go.Proofs.YthffglapmkkohaaGreatDoor
open Go.RowKit
attribute [local irreducible] lo hs sm s64 c64 d64 b64 mh ml pd pc qd qc val hiB str cmpI srD lz nb zl zh zs fe rowV tabV gv bsV tabM
theorem edescend_w (B g R n c K : Nat) (ru pu : Value) (bk : Nat → Nat) (s0 : ES) (hK : K ≤ 1000000) (hcn : c ≤ n) (hn : n ≤ 5000) (hR : R ≤ 5000)
    (HI : ∀ k, k ≤ c → (descE R s0 k).pv.length ≤ R)
    (HS : ∀ k, k ≤ c → Sz (descE R s0 k).f K ∧ ∀ i, i < R → ∀ j, j < n → Sz ((descE R s0 k).G i j) K) (w : World) (h : GR B w g ru pu R n bk s0.G s0.pv s0.f) :
    Calls Tryz.prog 110 #[.pointer (some ⟨g, 0, none⟩), .int .i64 (c : Int)] w fun e w' => e = .returned (.tuple #[]) ∧ (∃ pu' bk', GR B w' g ru pu' R n bk' (descE R s0 c).G (descE R s0 c).pv (descE R s0 c).f) ∧ Chs (fun k => B ≤ k) w w' := by
  replace HS := Lib.hid HS
  replace HI := Lib.hid HI
  replace hK := Lib.hid hK
  replace hcn := Lib.hid hcn
  replace hn := Lib.hid hn
  replace hR := Lib.hid hR
  obtain ⟨ra, rc, hru⟩ := h.rform
  subst hru
  have hch : Chs (fun k => B ≤ k) w w := Chs.refl _ _
  go_enter Tryz.func110, Tryz.ntmps110
  go_wp2_with fail
  go_step3
  go_wp2_with fail
  go_step3
  go_wp2_with fail
  go_loopg [10] c (fun gk kv wr => ∃ (k : Nat) (zk : Int) (pu' : Value) (bk' : Nat → Nat), k + gk = c ∧ kv = .int .i64 zk ∧ zk = (k : Int) ∧ GR B wr g (.slice ra R rc) pu' R n bk' (descE R s0 k).G (descE R s0 k).pv (descE R s0 k).f ∧ Chs (fun k => B ≤ k) w wr)
  case atStart => exact ⟨0, 0, pu, bk, Nat.zero_add c, by first | rfl | go_num, rfl, h, hch⟩
  case round =>
    clear h hch
    obtain ⟨k, zk, pu', bk', hkc, rfl, hzk, hG, hch⟩ := hrel
    rcases Nat.lt_or_ge k c with hk | hk
    · subst hzk
      have k1 : (k : Int) < (c : Int) := by omega
      have k0 : (0 : Int) ≤ (k : Int) := Int.natCast_nonneg _
      have kb : (k : Int) ≤ 5000 := by have := hcn.out; have := hn.out; omega
      have kn : (k : Int) < (n : Int) := by have := hcn.out; omega
      have hs1 := Lib.hid (HS.out k (by omega))
      have hl1 := Lib.hid (HI.out k (by omega))
      have hstep : Hid (descE R s0 (k + 1) = stepE R k (descE R s0 k)) := rfl
      obtain ⟨s, hs⟩ : ∃ s, s = descE R s0 k := ⟨_, rfl⟩
      rw [← hs] at hG hs1 hl1 hstep
      replace hs := Lib.hid hs
      obtain ⟨pa, pc', hpu⟩ := hG.pform
      subst hpu
      obtain ⟨t, ht⟩ : ∃ t, t = s.pv.length := ⟨_, rfl⟩
      rw [← ht] at hG hl1
      obtain ⟨c0, c1, c2⟩ := hG.cells
      have tb : (t : Int) ≤ 5000 := by have := hl1.out; have := hR.out; omega
      have t0 : (0 : Int) ≤ (t : Int) := Int.natCast_nonneg _
      have rb : (R : Int) ≤ 5000 := by have := hR.out; omega
      replace ht := Lib.hid ht
      go_wp2_with fail
      obtain ⟨wo, hwo⟩ : ∃ wo, wo = wr := ⟨_, rfl⟩
      subst hwo
      go_loopg [6] (R - t) (fun gk2 iv wr2 => ∃ (i : Nat) (zi : Int), i + gk2 = R ∧ t ≤ i ∧ iv = .int .i64 zi ∧ zi = (i : Int) ∧ (∀ a, t ≤ a → a < i → s.G a k = 0) ∧ wr2 = wo)
      case atStart => exact ⟨t, (t : Int), by have := hl1.out; omega, Nat.le_refl _, rfl, rfl, (fun a h1 h2 => by omega), rfl⟩
      case round =>
        obtain ⟨i, zi, hir, hti, rfl, hzi, hz, rfl⟩ := hrel
        replace hz := Lib.hid hz
        rcases Nat.lt_or_ge i R with hi | hi
        · subst hzi
          have i0 : (0 : Int) ≤ (i : Int) := Int.natCast_nonneg _
          have i1 : (i : Int) < (R : Int) := by omega
          have ib : (i : Int) ≤ 5000 := by omega
          have e1 : ((i : Int) == (R : Int)) = false := by have : ¬ (i : Int) = (R : Int) := by omega
                                                           simpa using this
          have e2 : ¬ (i : Int) = (R : Int) := by omega
          obtain ⟨z, rc', hz9, hzB, hzl, hzc, hzg, hrw, hzf⟩ := hG.rpos (by omega)
          obtain ⟨rfl, rfl⟩ : ra = some ⟨z, 0, none⟩ ∧ rc = rc' := by simpa using hz9
          clear hz9
          have ci := hrw i hi
          have hfc := FC.row (hG.hB i hi).2 k (by rw [tabV_len]; omega)
          rw [gv_tab (by omega)] at hfc
          obtain ⟨f0, f1, f2, f3, f4⟩ := hfc
          obtain ⟨q, hq0⟩ : ∃ q, q = s.G i k := ⟨_, rfl⟩
          rw [← hq0] at f0 f1 f2 f3 f4
          replace hq0 := Lib.hid hq0
          by_cases hqz : q = 0
          · have hq : ∀ W, (binOp .neq 36 (fracV q) (.agg #[.int .u64 0, .string ⟨#[]⟩, .bool false, .int .u64 0, .string ⟨#[]⟩])).run Tryz.prog W = .ok (.bool false) W := fun W => by have := run_neZ q true (by simp [hqz]) W; exact this
            replace hqz := Lib.hid hqz
            replace hrw := Lib.hid hrw
            go_wp2_with fail
            go_roundg (R - (i + 1))
            case measure => omega
            case rel => exact ⟨i + 1, _, by omega, by omega, by first | rfl | go_num, by omega, fun a h1 h2 => by
              rcases Nat.lt_or_ge a i with g9 | g9
              · exact hz.out a h1 g9
              · obtain rfl : a = i := by omega
                rw [← hq0.out]; exact hqz.out, rfl⟩
          · have hq : ∀ W, (binOp .neq 36 (fracV q) (.agg #[.int .u64 0, .string ⟨#[]⟩, .bool false, .int .u64 0, .string ⟨#[]⟩])).run Tryz.prog W = .ok (.bool true) W := fun W => by have := run_neZ q false (by simp [hqz]) W; exact this
            have HRa := Lib.hid (eraise_w B g R n K _ _ bk' s.G s.pv s.f i t hi (by omega) (by omega) _ hG)
            have est := step_some (R := R) (k := k) (s := s) (i := i) (by rw [← ht.out]; exact hti) hi (by rw [← hq0.out]; exact hqz) (by rw [← ht.out]; exact hz.out)
            rw [← ht.out] at est
            replace est := Lib.hid est
            replace hqz := Lib.hid hqz
            replace hrw := Lib.hid hrw
            go_wp2_with fail
            with_reducible refine Calls.mono HRa.out ?_
            rintro e y1 ⟨rfl, ⟨bk1, hG1⟩, hc1⟩
            replace hch := hch.trans hc1
            clear hG hc1 HRa f0 f1 f2 f3 f4 hq ci c0 c1 c2 hrw hzf
            have hlt : t < R := by omega
            have t1 : (t : Int) < (R : Int) := by omega
            obtain ⟨G1, hG1e⟩ : ∃ G1, G1 = swpG s.G i t := ⟨_, rfl⟩
            rw [← hG1e] at hG1
            have hsz := Lib.hid (show ∀ a, a < R → ∀ j, j < n → Sz (G1 a j) K from fun a ha j hj => by
              obtain ⟨b, hb, -, e2, -⟩ := swpB_mem (bk := bk1) (G := s.G) hi hlt ha
              rw [hG1e, e2]; exact hs1.out.2 b hb j hj)
            have hpq : G1 t k = q := by
              rw [hG1e, hq0.out]; unfold swpG
              by_cases e : t = i
              · rw [if_pos e, e]
              · rw [if_neg e, if_pos rfl]
            obtain ⟨f1, hf1⟩ : ∃ f1, f1 = if i = t then s.f else -s.f := ⟨_, rfl⟩
            rw [← hf1] at hG1
            have hfz : Sz f1 K := by
              rw [hf1]; split
              · exact hs1.out.1
              · exact hs1.out.1.neg
            have HM := Lib.hid (fun w => mulF f1 q K hfz (by rw [← hpq]; exact hsz.out t hlt k (by omega)) (by have := hK.out; omega) w)
            have est2 : stepE R k s = ⟨clrG (divG G1 t k) t k R, s.pv ++ [k], f1 * q⟩ := by rw [est.out, ← hG1e, ← hf1, hpq]
            replace est2 := Lib.hid est2
            obtain ⟨r, hr⟩ : ∃ r, r = f1 * q := ⟨_, rfl⟩
            rw [← hr] at HM est2
            clear hfz hf1 hG1e est hr
            obtain ⟨c0, -, f0, f1', f2, f3, f4⟩ := hG1.cells
            simp only [Nat.reduceAdd] at f1' f2 f3 f4
            obtain ⟨z2, rc2, hz9, -, -, -, -, hrw1, hzf1⟩ := hG1.rpos (by omega)
            obtain ⟨rfl, rfl⟩ : z = z2 ∧ rc = rc2 := by simpa using hz9
            clear hz9
            have ct := hrw1 t hlt
            have hfc := FC.row (hG1.hB t hlt).2 k (by rw [tabV_len]; omega)
            rw [gv_tab (by omega), hpq] at hfc
            obtain ⟨p0, p1, p2, p3, p4⟩ := hfc
            replace hrw1 := Lib.hid hrw1
            go_upto_region 9 with fail
            obtain ⟨α, iα, F, hF1, hF2⟩ := cls y1
            have qc0 := fun yz => keepsC (hF1 yz) c0
            have qct := fun yz => keepsC (hF1 yz) ct
            have qf0 := fun yz => keepsC (hF1 yz) f0
            have qf1 := fun yz => keepsC (hF1 yz) f1'
            have qf2 := fun yz => keepsC (hF1 yz) f2
            have qf3 := fun yz => keepsC (hF1 yz) f3
            have qf4 := fun yz => keepsC (hF1 yz) f4
            have qp0 := fun yz => keepsC (hF1 yz) p0
            have qp1 := fun yz => keepsC (hF1 yz) p1
            have qp2 := fun yz => keepsC (hF1 yz) p2
            have qp3 := fun yz => keepsC (hF1 yz) p3
            have qp4 := fun yz => keepsC (hF1 yz) p4
            clear c0 ct f0 f1' f2 f3 f4 p0 p1 p2 p3 p4
            refine region_qs 18 (C := fun w' => ∃ x, w' = F x) (by kernel_rfl) (by kernel_rfl) (cls_drew hF2) ?_
            simp only [zT]
            repeat (go_big_quiet_step (first | fail | (go_at_call 15; with_reducible exact cls_call hF1 hF2 HM.out _)))
            refine wpQuiet_nil ?_
            rintro wq ⟨xq, rfl⟩
            replace hG1 := hG1.below (hF1 xq)
            replace hch := hch.trans (Chs.of_below (hF1 xq))
            clear qc0 qct qf0 qf1 qf2 qf3 qf4 qp0 qp1 qp2 qp3 qp4 hF2
            generalize F xq = y2 at hG1 hch ⊢
            clear hF1 xq iα F α HM
            have hzz := hG1.hg.frz
            obtain ⟨-, -, f0, f1', f2, f3, f4⟩ := hG1.cells
            simp only [Nat.reduceAdd] at f1' f2 f3 f4
            have hgB := hG1.gB
            have hu := put5_upd y2 g 2 r
            replace hG1 := hG1.putF r
            obtain ⟨y3, hy⟩ : ∃ y, put5 y2 g 2 r = y := ⟨_, rfl⟩
            rw [hy] at hG1 hu
            simp only [put5, Nat.reduceAdd] at hy
            replace hch := hch.trans ((Chs.of_upd hu).mono (T := fun k => B ≤ k) fun k _ e => by rw [e]; exact hgB)
            have c0 := hG1.cells.1
            obtain ⟨z2, rc2, hz9, -, -, hrc, -, hrw2, hzf2⟩ := hG1.rpos (by omega)
            obtain ⟨rfl, rfl⟩ : z = z2 ∧ rc = rc2 := by simpa using hz9
            clear hz9 hu
            have ct := hrw2 t hlt
            have HDi := Lib.hid (edivide_w (bk1 t) n k K (G1 t) (by rw [hpq]; exact hqz.out) (hsz.out t hlt) (by have := hK.out; omega) (by omega) (by have := hn.out; omega) y3 (hG1.hB t hlt).2)
            replace hrw2 := Lib.hid hrw2
            go_wp2_with fail
            with_reducible refine Calls.mono HDi.out ?_
            rintro e y4 ⟨rfl, hd4, hc4⟩
            clear HDi hy f0 f1' f2 f3 f4 hzz c0 ct hzf1 hzf2
            have hbB := (hG1.hB t hlt).1
            replace hG1 := hG1.row t hlt _ hc4 hd4
            rw [div_row] at hG1
            replace hch := hch.trans (hc4.mono (T := fun k => B ≤ k) fun k _ e => by rw [e]; exact hbB)
            clear hc4 hd4
            have hsz2 := Lib.hid (show ∀ a, a < R → ∀ j, j < n → Sz (divG G1 t k a j) (2 * K) from fun a ha j hj => by
              unfold divG
              split
              · exact ((hsz.out t hlt j hj).div (hsz.out t hlt k (by omega)) (by rw [hpq]; exact hqz.out)).mono (by omega)
              · exact (hsz.out a ha j hj).mono (by omega))
            obtain ⟨G2, hG2e⟩ : ∃ G2, G2 = divG G1 t k := ⟨_, rfl⟩
            rw [← hG2e] at hG1 hsz2 est2
            clear hG2e hsz hpq
            have c0 := hG1.cells.1
            obtain ⟨a2, rc2, hsl, ha2⟩ := rows_drop (z := z) (R := R) (c := rc) (t := t + 1) (by omega) (by omega) hrc
            have hsl2 : ∀ W, (Instr.slice 26 (.slice (some ⟨z, 0, none⟩) R rc) (some (.int .i64 ((t : Int) + 1))) none none).run Tryz.prog W = .ok (.slice a2 (R - (t + 1)) rc2) W := hsl
            clear hsl
            rw [← clr_zero G2 t k] at hG1
            obtain ⟨m, hm⟩ : ∃ m, m = R - (t + 1) := ⟨_, rfl⟩
            rw [← hm] at hsl2
            replace hm := Lib.hid hm
            have mb : (m : Int) ≤ 5000 := by have := hm.out; omega
            go_wp2_with fail
            clear hsl2 c0
            go_loopg [79] m (fun gk3 av wr3 => ∃ (a : Nat) (za : Int), a + gk3 = m ∧ av = .int .i64 za ∧ za = (a : Int) ∧ GR B wr3 g (.slice (some ⟨z, 0, none⟩) R rc) (.slice pa t pc') R n bk1 (clrG G2 t k (t + 1 + a)) s.pv r ∧ Chs (fun k => B ≤ k) w wr3)
            case atStart => exact ⟨0, 0, Nat.zero_add m, by first | rfl | go_num, rfl, hG1, hch⟩
            case round =>
              clear hG1 hch
              obtain ⟨a, za, ham, rfl, hza, hG1, hch⟩ := hrel
              rcases Nat.lt_or_ge a m with han | han
              · subst hza
                have m1 : (a : Int) < (m : Int) := by omega
                have m0 : (0 : Int) ≤ (a : Int) := Int.natCast_nonneg _
                have mb2 : (a : Int) ≤ 5000 := by omega
                have hiR : t + 1 + a < R := by have := hm.out; omega
                have ha3 := ha2 (by omega)
                subst ha3
                obtain ⟨z2, rc3, hz9, -, -, -, -, hrw2, hzf2⟩ := hG1.rpos (by omega)
                obtain ⟨rfl, rfl⟩ : z = z2 ∧ rc = rc3 := by simpa using hz9
                clear hz9
                have ct := hrw2 t hlt
                have ca := hrw2 (t + 1 + a) hiR
                have c0 := hG1.cells.1
                have e3 : ∀ b, t + 1 + a ≤ b → clrG G2 t k (t + 1 + a) b = G2 b := fun b hb => by funext j; unfold clrG; rw [if_neg fun h => by omega]
                have e4 : clrG G2 t k (t + 1 + a) t = G2 t := by funext j; unfold clrG; rw [if_neg fun h => by omega]
                have HCl := Lib.hid (eclearAt_w (bk1 (t + 1 + a)) (bk1 t) n k (2 * K) (2 * K) (clrG G2 t k (t + 1 + a) (t + 1 + a)) (clrG G2 t k (t + 1 + a) t) (fun e => by have := hG1.inj _ _ hiR hlt e; omega)
                  (fun j hj => by rw [e3 _ (Nat.le_refl _)]; exact hsz2.out _ hiR j hj) (fun j hj => by rw [e4]; exact hsz2.out _ hlt j hj) (by have := hK.out; omega) (by omega) (by have := hn.out; omega) _ (hG1.hB _ hiR).2 (hG1.hB t hlt).2)
                clear e3 e4
                replace hrw2 := Lib.hid hrw2
                replace hiR := Lib.hid hiR
                go_wp2_with fail
                with_reducible refine Calls.mono HCl.out ?_
                rintro e y5 ⟨rfl, hd5, hc5⟩
                have hbB2 := (hG1.hB _ hiR.out).1
                replace hG1 := hG1.row _ hiR.out _ hc5 hd5
                rw [clr_step G2 t k (t + 1 + a) (by omega)] at hG1
                replace hch := hch.trans (hc5.mono (T := fun k => B ≤ k) fun k _ e => by rw [e]; exact hbB2)
                clear hd5 hc5 HCl ct ca c0 hrw2 hzf2
                go_wp2_with fail
                go_roundg (m - (a + 1))
                case measure => omega
                case rel => exact ⟨a + 1, _, by omega, by first | rfl | go_num, by omega, hG1, hch⟩
              · obtain rfl : m = a := by omega
                subst hza
                have m1 : ¬ (m : Int) < (m : Int) := by omega
                have hmR : t + 1 + m = R := by have := hm.out; omega
                rw [hmR] at hG1
                clear hm hmR mb ha2
                have c1 := hG1.cells.2.1
                have hM := (GL.start wr).new rfl [.int .i64 (k : Int)] 3
                generalize hweq : wr.alloc (.cells #[.int .i64 (k : Int)] 3) = yd at hM
                have c2 := keepsC hM.bl c1
                have hcu := (hM.get _ _ mZ).cell 0 (by simp)
                simp only [List.getElem_cons_zero] at hcu
                replace hG1 := hG1.below hM.bl
                replace hch := hch.trans (Chs.of_below hM.bl)
                have hown := hG1.hp
                rw [← ht.out] at hown
                replace hcu := Lib.hid hcu
                replace hown := Lib.hid hown
                clear hM
                go_wp2_with (at_builtin; refine wp_appendI rfl _ _ rfl B (.slice pa t pc') t (pvE s.pv) rfl hown.out ⟨_, 0, none⟩ (k : Int) 1 rfl hcu.out (by omega) hG1.bs ?_)
                intro v' w8 h8 hgr hor
                rw [ht.out] at h8
                obtain ⟨hG3, hHd, hup⟩ := hG1.push k h8 hgr hor
                obtain ⟨va, vc, rfl⟩ := own_form12 h8
                have hgB2 := hG1.gB
                have hpl := hG1.hp.lt
                have hzz := hHd.frz
                have d0 := hHd.cell 0 (by simp)
                have d1 := hHd.cell 1 (by simp)
                simp only [List.getElem_cons_zero, List.getElem_cons_succ] at d0 d1
                replace hch := hch.trans ((Chs.of_grown hgr).mono (T := fun k => B ≤ k) fun k _ e => (hpl k e.symm).1)
                generalize hput : w8.setCell ⟨g, 1, none⟩ (.slice va (s.pv.length + 1) vc) = y9 at hup hG3
                replace hch := hch.trans ((Chs.of_upd hup).mono (T := fun k => B ≤ k) fun k _ e => by rw [e]; exact hgB2)
                have hGf : GR B y9 g (.slice (some ⟨z, 0, none⟩) R rc) (.slice va (s.pv.length + 1) vc) R n bk1 (descE R s0 (k + 1)).G (descE R s0 (k + 1)).pv (descE R s0 (k + 1)).f := by
                  rw [hstep.out, est2.out]; exact hG3
                clear hup hgr hor hHd hG3 hpl h8
                replace hGf := Lib.hid hGf
                replace hch := Lib.hid hch
                go_wp2_with fail
                go_roundg (c - (k + 1))
                case measure => omega
                case rel => exact ⟨k + 1, _, _, bk1, by omega, by first | rfl | go_num, by omega, hGf.out, hch.out⟩
        · obtain rfl : R = i := by omega
          subst hzi
          have e1 : ((R : Int) == (R : Int)) = true := by simp
          have est : stepE R k s = s := step_none (by rw [← ht.out]; exact hl1.out) (by rw [← ht.out]; exact hz.out)
          have hG2 := Lib.hid (show ∀ W, GR B W g (.slice ra R rc) (.slice pa t pc') R n bk' s.G s.pv s.f → GR B W g (.slice ra R rc) (.slice pa t pc') R n bk' (descE R s0 (k + 1)).G (descE R s0 (k + 1)).pv (descE R s0 (k + 1)).f from fun W h => by rw [hstep.out, est]; exact h)
          clear est
          go_wp2_with fail
          go_roundg (c - (k + 1))
          case measure => omega
          case rel => exact ⟨k + 1, _, _, bk', by omega, by first | rfl | go_num, by omega, hG2.out _ hG, hch⟩
    · obtain rfl : c = k := by omega
      subst hzk
      have k1 : ¬ (c : Int) < (c : Int) := by omega
      go_wp2_with fail
      exact bodyPost_end (v := .tuple #[]) (by simp [results, Tryz.results110, go_sem]) rfl ⟨rfl, ⟨_, _, hG⟩, hch⟩
end Go.Proofs.YthffglapmkkohaaGreatDoor
namespace Go.Proofs.YthffglapmkkohaaGreatDoor
open Go.RowKit
attribute [local irreducible] lo hs sm s64 c64 d64 b64 mh ml pd pc qd qc val hiB str cmpI srD lz nb zl zh zs fe rowV tabV gv bsV tabM
def clrP (G : Gd) (i k a : Nat) : Gd := fun r j => if r < a ∧ k ≤ j then G r j - G r k * G i j else G r j
theorem clrP_zero (G : Gd) (i k : Nat) : clrP G i k 0 = G := by funext r j; unfold clrP; rw [if_neg fun h => by omega]
theorem clrP_step (G : Gd) (i k a : Nat) (ha : a < i) : (fun r => if r = a then (fun j => if k ≤ j then clrP G i k a a j - clrP G i k a a k * clrP G i k a i j else clrP G i k a a j) else clrP G i k a r) = clrP G i k (a + 1) := by
 have e1 : clrP G i k a a = G a := by funext j; unfold clrP; rw [if_neg fun h => by omega]
 have e2 : clrP G i k a i = G i := by funext j; unfold clrP; rw [if_neg fun h => by omega]
 funext r j
 by_cases e : r = a
 ·subst e
  rw [if_pos rfl, e1, e2]
  unfold clrP
  by_cases g : k ≤ j
  ·rw [if_pos g, if_pos ⟨by omega, g⟩]
  ·rw [if_neg g, if_neg fun h => g h.2]
 ·rw [if_neg e]
  unfold clrP
  by_cases g : r < a ∧ k ≤ j
  ·rw [if_pos g, if_pos ⟨by omega, g.2⟩]
  ·rw [if_neg g, if_neg fun h => g ⟨by omega, h.2⟩]
theorem asc_last (pv : List Nat) (G : Gd) (m : Nat) (h : pv.length ≤ m + 1) : m < pv.length → ascE pv G pv.length = ascE pv G m := fun h1 => by
 have e : pv.length = m + 1 := by omega
 rw [e]
 show clrU (ascE pv G m) (pv.length - 1 - m) _ = _
 funext r j
 unfold clrU
 rw [if_neg fun g => by omega]
theorem rows_take {z R c i : Nat} (hR : R ≤ 100000) (hi : i ≤ R) (hc : R ≤ c) : ∀ W, (Instr.slice 26 (.slice (some ⟨z, 0, none⟩) R c) none (some (.int .i64 ((i : Nat) : Int))) none).run Tryz.prog W = .ok (.slice (some ⟨z, 0, none⟩) i c) W := fun W => by
 obtain ⟨i0, hi0, hz1, hz2, hz3⟩ := info_parts infoVec
 have hsz : ∀ W, (sizeOf 28).run Tryz.prog W = .ok 1 W := fun W => by simp [sizeOf, typeInfo, hi0, hz2]
 have b1 : (0 : Int) ≤ ((i : Nat) : Int) := by omega
 have b2 : ((i : Nat) : Int) ≤ (c : Int) := by omega
 simp [Instr.slice, Instr.sliceBounds, run_underlying Tryz.underlying26, run_sliceBound, b1, b2, hsz, go_sem, Addr.add]
theorem eascend_w (B g R n K : Nat) (ru pu : Value) (bk : Nat → Nat) (G : Gd) (pv : List Nat) (f : Rat) (hK : K ≤ 1000000) (hn : n ≤ 5000) (hR : R ≤ 5000) (hl : pv.length ≤ R) (hp : ∀ r (h : r < pv.length), pv[r] < n)
  (HS : ∀ m, m ≤ pv.length → ∀ i, i < R → ∀ j, j < n → Sz (ascE pv G m i j) K) (w : World) (h : GR B w g ru pu R n bk G pv f) :
  Calls Tryz.prog 111 #[.pointer (some ⟨g, 0, none⟩)] w fun e w' => e = .returned (.tuple #[]) ∧ GR B w' g ru pu R n bk (ascE pv G pv.length) pv f ∧ Chs (fun k => B ≤ k) w w' := by
 replace HS := Lib.hid HS
 replace hp := Lib.hid hp
 replace hK := Lib.hid hK
 replace hn := Lib.hid hn
 replace hR := Lib.hid hR
 obtain ⟨l, hl9⟩ : ∃ l, l = pv.length := ⟨_, rfl⟩
 obtain ⟨ra, rc, hru⟩ := h.rform
 subst hru
 obtain ⟨pa, pc', hpu⟩ := h.pform
 rw [← hl9] at hpu hl
 subst hpu
 have hch : Chs (fun k => B ≤ k) w w := Chs.refl _ _
 have c1 := h.cells.2.1
 have lb : (l : Int) ≤ 5000 := by have := hR.out; omega
 have l0 : (0 : Int) ≤ (l : Int) := Int.natCast_nonneg _
 replace hl9 := Lib.hid hl9
 go_enter Tryz.func111, Tryz.ntmps111
 go_wp2_with fail
 go_loopg [2] l (fun gk iv wr => ∃ (m : Nat) (zi : Int), m + gk = l ∧ iv = .int .i64 zi ∧ zi = (l : Int) - 1 - (m : Int) ∧ GR B wr g (.slice ra R rc) (.slice pa l pc') R n bk (ascE pv G m) pv f ∧ Chs (fun k => B ≤ k) w wr)
 case atStart => exact ⟨0, (l : Int) - 1, Nat.zero_add l, by first | rfl | go_num, by omega, h, hch⟩
 case round =>
  clear h hch c1
  obtain ⟨m, zi, hml, rfl, hzi, hG, hch⟩ := hrel
  rcases Nat.lt_or_ge (m + 1) l with hm | hm
  ·obtain ⟨i, hi⟩ : ∃ i, i = l - 1 - m := ⟨_, rfl⟩
   have hzi2 : zi = (i : Int) := by omega
   subst hzi2
   have i0 : (0 : Int) < (i : Int) := by omega
   have i00 : (0 : Int) ≤ (i : Int) := by omega
   have i0n : 0 < i := by omega
   have i0d : decide (0 < i) = true := decide_eq_true i0n
   have ib : (i : Int) ≤ 5000 := by omega
   have il : (i : Int) < (l : Int) := by omega
   have iR : (i : Int) < (R : Int) := by omega
   have hiR : i < R := by omega
   have hil : i < pv.length := by have := hl9.out; omega
   have hgd : pv.getD i 0 = pv[i] := by rw [List.getD_eq_getElem?_getD, List.getElem?_eq_getElem hil]; rfl
   have hst : Hid (ascE pv G (m + 1) = clrU (ascE pv G m) i pv[i]) := by
    show clrU (ascE pv G m) (pv.length - 1 - m) (pv.getD (pv.length - 1 - m) 0) = _
    rw [show pv.length - 1 - m = i by have := hl9.out; omega, hgd]
   have hkn := hp.out i hil
   have hsz := Lib.hid (HS.out m (by have := hl9.out; omega))
   obtain ⟨z, rc', hz9, hzB, hzl, hzc, hzg, hrw, hzf⟩ := hG.rpos (by omega)
   obtain ⟨rfl, rfl⟩ : ra = some ⟨z, 0, none⟩ ∧ rc = rc' := by simpa using hz9
   clear hz9 hrw hzf hgd
   have c0 := hG.cells.1
   have hsl := rows_take (z := z) (R := R) (c := rc) (i := i) (by have := hR.out; omega) (by omega) hzc
   obtain ⟨pz, pc2, hpz9, hpzB, hpzl, hpcl⟩ := hG.ppos (by omega)
   obtain ⟨rfl, -, rfl⟩ : pa = some ⟨pz, 0, none⟩ ∧ l = pv.length ∧ pc' = pc2 := by simpa using hpz9
   clear hpz9 hpcl
   obtain ⟨k, hk⟩ : ∃ k, k = pv[i] := ⟨_, rfl⟩
   rw [← hk] at hst hkn
   obtain ⟨Gm, hGm⟩ : ∃ Gm, Gm = ascE pv G m := ⟨_, rfl⟩
   rw [← hGm] at hG hst hsz
   rw [← clrP_zero Gm i k] at hG
   replace hGm := Lib.hid hGm
   replace hk := Lib.hid hk
   replace hm := Lib.hid hm
   replace hi := Lib.hid hi
   replace hzi := Lib.hid hzi
   have kb : (k : Int) < (n : Int) := by omega
   have k0 : (0 : Int) ≤ (k : Int) := Int.natCast_nonneg _
   go_wp2_with fail
   clear c0 hsl
   obtain ⟨wo, hwo⟩ : ∃ wo, wo = wr := ⟨_, rfl⟩
   subst hwo
   go_loopg [22] i (fun gk2 av wr2 => ∃ (a : Nat) (za : Int), a + gk2 = i ∧ av = .int .i64 za ∧ za = (a : Int) ∧ GR B wr2 g (.slice (some ⟨z, 0, none⟩) R rc) (.slice (some ⟨pz, 0, none⟩) l pc') R n bk (clrP Gm i k a) pv f ∧ Chs (fun k => B ≤ k) w wr2)
   case atStart => exact ⟨0, 0, Nat.zero_add i, by first | rfl | go_num, rfl, hG, hch⟩
   case round =>
    clear hG hch
    obtain ⟨a, za, hai, rfl, hza, hG, hch⟩ := hrel
    rcases Nat.lt_or_ge a i with han | han
    ·subst hza
     have m1 : (a : Int) < (i : Int) := by omega
     have m0 : (0 : Int) ≤ (a : Int) := Int.natCast_nonneg _
     have mb2 : (a : Int) ≤ 5000 := by omega
     obtain ⟨z2, rc3, hz9, -, -, -, -, hrw2, hzf2⟩ := hG.rpos (by omega)
     obtain ⟨rfl, rfl⟩ : z = z2 ∧ rc = rc3 := by simpa using hz9
     clear hz9 hzf2
     obtain ⟨pz2, pc3, hpz9, -, -, hpcl⟩ := hG.ppos (by omega)
     obtain ⟨rfl, -, rfl⟩ : pz = pz2 ∧ l = pv.length ∧ pc' = pc3 := by simpa using hpz9
     clear hpz9
     have cp := hpcl i hil
     rw [← hk.out] at cp
     have ci := hrw2 i hiR
     have ca := hrw2 a (by omega)
     have c0 := hG.cells.1
     have c1 := hG.cells.2.1
     have e3 : clrP Gm i k a a = Gm a := by funext j; unfold clrP; rw [if_neg fun h => by omega]
     have e4 : clrP Gm i k a i = Gm i := by funext j; unfold clrP; rw [if_neg fun h => by omega]
     have HCl := fun W (hb : Below wr.heap.size wr W) => eclearAt_w (bk a) (bk i) n k K K (clrP Gm i k a a) (clrP Gm i k a i) (fun e => by have := hG.inj _ _ (by omega) hiR e; omega)
      (fun j hj => by rw [e3]; exact hsz.out _ (by omega) j hj) (fun j hj => by rw [e4]; exact hsz.out _ hiR j hj) (by have := hK.out; omega) (by omega) (by have := hn.out; omega) W ((hG.hB _ (by omega)).2.below hb) ((hG.hB i hiR).2.below hb)
     clear e3 e4 hrw2 hpcl
     replace HCl := Lib.hid HCl
     replace hil := Lib.hid hil
     go_upto_region 6 with fail
     clear ca
     obtain ⟨α, iα, F, hF1, hF2⟩ := cls wr
     have q0 := fun yz => keepsC (hF1 yz) c0
     have q1 := fun yz => keepsC (hF1 yz) c1
     have q2 := fun yz => keepsC (hF1 yz) ci
     have q3 := fun yz => keepsC (hF1 yz) cp
     clear c0 c1 ci cp
     refine region_qs 15 (C := fun w' => ∃ x, w' = F x) (by kernel_rfl) (by kernel_rfl) (cls_drew hF2) ?_
     simp only [zT]
     repeat (go_big_quiet_step (first | fail))
     refine wpQuiet_nil ?_
     rintro wq ⟨xq, rfl⟩
     have hbx := hF1 xq
     replace hG := hG.below hbx
     replace hch := hch.trans (Chs.of_below hbx)
     replace HCl := Lib.hid (HCl.out _ hbx)
     clear q0 q1 q2 q3 hF2 hbx
     generalize F xq = y2 at hG hch HCl ⊢
     clear hF1 xq iα F α
     go_wp2_with fail
     with_reducible refine Calls.mono HCl.out ?_
     rintro e y5 ⟨rfl, hd5, hc5⟩
     have hbB2 := (hG.hB a (by omega)).1
     replace hG := hG.row a (by omega) _ hc5 hd5
     rw [clrP_step Gm i k a han] at hG
     replace hch := hch.trans (hc5.mono (T := fun k => B ≤ k) fun k _ e => by rw [e]; exact hbB2)
     clear hd5 hc5 HCl
     replace hil := hil.out
     go_wp2_with fail
     go_roundg (i - (a + 1))
     case measure => omega
     case rel => exact ⟨a + 1, _, by omega, by first | rfl | go_num, by omega, hG, hch⟩
    ·obtain rfl : i = a := by omega
     subst hza
     have m1 : ¬ (i : Int) < (i : Int) := by omega
     have hGf : GR B wr g (.slice (some ⟨z, 0, none⟩) R rc) (.slice (some ⟨pz, 0, none⟩) l pc') R n bk (ascE pv G (m + 1)) pv f := by rw [hst.out]; exact hG
     clear hG
     go_wp2_with fail
     go_roundg (l - (m + 1))
     case measure => have := hm.out; omega
     case rel => exact ⟨m + 1, _, by have := hm.out; omega, by first | rfl | go_num, by have := hzi.out; have := hi.out; omega, hGf, hch⟩
  ·have hz : ¬ (0 : Int) < zi := by omega
   have hfin : ascE pv G pv.length = ascE pv G m := by
    rcases Nat.eq_zero_or_pos l with e | e
    ·have h0 : pv.length = 0 := by rw [← hl9.out]; exact e
     have : m = 0 := by omega
     rw [h0, this]
    ·rcases Nat.lt_or_ge m l with e2 | e2
     ·exact asc_last pv G m (by rw [← hl9.out]; exact hm) (by rw [← hl9.out]; exact e2)
     ·have : m = pv.length := by rw [← hl9.out]; omega
      rw [this]
   rw [← hfin] at hG
   clear hfin hzi
   go_wp2_with fail
   exact bodyPost_end (v := .tuple #[]) (by simp [results, Tryz.results111, go_sem]) rfl ⟨rfl, hG, hch⟩
end Go.Proofs.YthffglapmkkohaaGreatDoor
namespace Go.Proofs.YthffglapmkkohaaGreatDoor
open Go.RowKit
attribute [local irreducible] lo hs sm s64 c64 d64 b64 mh ml pd pc qd qc val hiB str cmpI srD lz nb zl zh zs fe rowV tabV gv bsV tabM
theorem setCells_all (b : Nat) : ∀ (vs : List Value) (o : Nat) (w : World), w.setCells b o vs = setAll w b o vs
 | [], _, _ => rfl
 | v :: r, o, w => setCells_all b r (o + 1) _
theorem run_copyF (P : Program) (w : World) (dT sT ty elem : TypeId) (b o dLen dCap : Nat) (a : Addr) (sLen sCap n : Nat) (cs : List Value)
  (hu : P.underlying dT = some (.slice elem)) (hs : (P.info? elem).map (·.size) = some 5) (hn : n = Nat.min sLen dLen) (hl5 : cs.length = n * 5)
  (hsrc : ∀ j v, cs[j]? = some v → w.cell? (a.add j) = some v) (hc : ∀ j, j < cs.length → (w.cell? ⟨b, o + j, none⟩).isSome = true) (hf : ∀ j, j < cs.length → w.frozen? ⟨b, o + j, none⟩ = false) (h1 : ∀ v ∈ cs, v.oneCell' = true) :
  (Builtin.copy_ #[dT, sT] ty #[.slice (some ⟨b, o, none⟩) dLen dCap, .slice (some a) sLen sCap]).run P w = .ok (goInt n) (setAll w b o cs) := by
 have hl := run_loadCells_list (P := P) w a cs hsrc
 have hst := run_storeCells_cells (P := P) b o cs 0 w (by simpa using hc) (by simpa using hf) h1
 rw [setCells_all] at hst
 rw [hl5] at hl
 cases hq : P.info? elem with
 | none => simp [hq] at hs
 | some i =>
  have hi : i.size = 5 := by simpa [hq] using hs
  simp [Builtin.copy_, run_underlying hu, Builtin.lenOf, Builtin.firstCells, sizeOf, typeInfo, hq, hi, ← hn, hl, hst]
theorem run_copy0 (P : Program) (w : World) (dT sT ty elem : TypeId) (d a : Option Addr) (dLen dCap sLen sCap : Nat) (hu : P.underlying dT = some (.slice elem)) (hs : (P.info? elem).map (·.size) = some 5) (hn : Nat.min sLen dLen = 0) :
  (Builtin.copy_ #[dT, sT] ty #[.slice d dLen dCap, .slice a sLen sCap]).run P w = .ok (goInt 0) w := by
 cases hq : P.info? elem with
 | none => simp [hq] at hs
 | some i =>
  have hl : ∀ (x : Addr), (loadCells x 0).run P w = .ok #[] w := fun x => by simpa using run_loadCells_list (P := P) w x [] (by simp)
  cases d <;> cases a <;> simp [Builtin.copy_, run_underlying hu, Builtin.lenOf, Builtin.firstCells, sizeOf, typeInfo, hq, hn, storeCells, hl]
/-- S laid over L from a place on. -/
def laid : List Rat → Nat → List Rat → List Rat
 | L, _, [] => L
 | L, o, q :: S => laid (L.set o q) (o + 1) S
theorem laid_len : ∀ (S L : List Rat) (o : Nat), (laid L o S).length = L.length
 | [], _, _ => rfl
 | q :: S, L, o => by show (laid (L.set o q) (o + 1) S).length = _; rw [laid_len S, List.length_set]
theorem laid_at : ∀ (S L : List Rat) (o p : Nat), o + S.length ≤ L.length → gv (laid L o S) p = if o ≤ p ∧ p < o + S.length then gv S (p - o) else gv L p
 | [], L, o, p, _ => by rw [if_neg fun h => by rw [List.length_nil] at h; omega]; rfl
 | q :: S, L, o, p, h => by
  rw [List.length_cons] at h
  show gv (laid (L.set o q) (o + 1) S) p = _
  rw [laid_at S _ _ p (by rw [List.length_set]; omega), List.length_cons]
  by_cases e : p = o
  ·subst e
   rw [if_neg (by omega), if_pos (by omega), Nat.sub_self, gv_get (by rw [List.length_set]; omega), List.getElem_set_self]
   exact (gv_get (l := q :: S) (i := 0) (by simp)).symm
  ·by_cases g : o + 1 ≤ p ∧ p < o + 1 + S.length
   ·rw [if_pos g, if_pos (by omega)]
    have e2 : p - o = (p - (o + 1)) + 1 := by omega
    rw [e2, gv_get (l := q :: S) (by rw [List.length_cons]; omega), gv_get (l := S) (by omega), List.getElem_cons_succ]
   ·rw [if_neg g, if_neg (by omega)]
    rcases Nat.lt_or_ge p L.length with hl | hl
    ·rw [gv_get (by rw [List.length_set]; exact hl), gv_get hl, List.getElem_set_ne (fun e2 => e e2.symm)]
    ·rw [gv_out (by rw [List.length_set]; exact hl), gv_out hl]
theorem laid_tab {N o m : Nat} {A S : Nat → Rat} (h : o + m ≤ N) : laid (tabV N A) o (tabV m S) = tabV N fun p => if o ≤ p ∧ p < o + m then S (p - o) else A p := by
 refine List.ext_getElem (by rw [laid_len, tabV_len, tabV_len]) fun p h1 h2 => ?_
 have hp : p < N := by rwa [tabV_len] at h2
 rw [← gv_get h1, ← gv_get h2, laid_at _ _ _ _ (by rw [tabV_len, tabV_len]; exact h), tabV_len, gv_tab hp, gv_tab hp]
 by_cases g : o ≤ p ∧ p < o + m
 ·rw [if_pos g, if_pos g, gv_tab (by omega)]
 ·rw [if_neg g, if_neg g]
theorem setCells_app2 : ∀ (c d c0 : List Value) (o : Nat), setCells c0 o (c ++ d) = setCells (setCells c0 o c) (o + c.length) d
 | [], d, c0, o => rfl
 | v :: c, d, c0, o => by
  show setCells (c0.set o v) (o + 1) (c ++ d) = setCells (setCells (c0.set o v) (o + 1) c) (o + (c.length + 1)) d
  rw [setCells_app2 c d _ (o + 1), Nat.add_assoc, Nat.add_comm 1]
theorem setCells_laid : ∀ (S L : List Rat) (o : Nat), o + S.length ≤ L.length → setCells (frCs L) (o * 5) (frCs S) = frCs (laid L o S)
 | [], _, _, _ => rfl
 | q :: S, L, o, h => by
  rw [List.length_cons] at h
  show setCells (frCs L) (o * 5) (frC q ++ frCs S) = frCs (laid (L.set o q) (o + 1) S)
  rw [setCells_app2, setF_frC L o q (by omega), frC_length, show o * 5 + 5 = (o + 1) * 5 by omega]
  exact setCells_laid S _ _ (by rw [List.length_set]; omega)
theorem frCs_c1 : ∀ (L : List Rat), ∀ v ∈ frCs L, v.oneCell' = true
 | [], v, h => by cases h
 | q :: L, v, h => by
  rcases List.mem_append.1 (show v ∈ frC q ++ frCs L from h) with g | g
  ·exact frC_one q v g
  ·exact frCs_c1 L v g
theorem fo_cells {w : World} {g o : Nat} {S : List Rat} (h : FO w g o S) : ∀ j v, (frCs S)[j]? = some v → w.cell? ((⟨g, o, none⟩ : Addr).add j) = some v := fun j v hj => by
 have hlt : j < (frCs S).length := (List.getElem?_eq_some_iff.1 hj).1
 rw [frCs_length] at hlt
 have hi : j / 5 < S.length := by omega
 have e := frCs_at S (j / 5) (j % 5) hi (Nat.mod_lt _ (by decide))
 rw [show j / 5 * 5 + j % 5 = j by omega] at e
 rw [e] at hj
 have ha : (⟨g, o, none⟩ : Addr).add j = ⟨g, o + j, none⟩ := by
  unfold Addr.add
  by_cases h0 : j = 0
  ·subst h0; simp
  ·simp [h0]
 rw [ha]
 obtain ⟨h0, h1, h2, h3, h4⟩ := h (j / 5) hi
 rw [gv_get hi] at h0 h1 h2 h3 h4
 have h5 := Nat.mod_lt j (show 0 < 5 by decide)
 have hm : j % 5 = 0 ∨ j % 5 = 1 ∨ j % 5 = 2 ∨ j % 5 = 3 ∨ j % 5 = 4 := by omega
 rcases hm with m | m | m | m | m <;> rw [m] at hj <;> simp [frC] at hj <;> subst hj
 ·rw [show o + j = o + j / 5 * 5 by omega]; exact h0
 ·rw [show o + j = o + j / 5 * 5 + 1 by omega]; exact h1
 ·rw [show o + j = o + j / 5 * 5 + 2 by omega]; exact h2
 ·rw [show o + j = o + j / 5 * 5 + 3 by omega]; exact h3
 ·rw [show o + j = o + j / 5 * 5 + 4 by omega]; exact h4
theorem infoFr5 : (Tryz.prog.info? 36).map (·.size) = some 5 := by kernel_rfl
theorem wp_copyF {w : World} {ops : Array Oper} {rest : List Oper} {o : Oper} {a : Act} {Q : Exit → Act → World → Prop} (hgd : o.guard = none) (d s : Operand) (dT sT : TypeId)
  (ho : o.op = .call { callee := .builtin .copy, args := #[d, s], argTypes := #[dT, sT] }) (hu : Tryz.prog.underlying dT = some (.slice 36))
  (dp sp : Option Addr) (dLen dCap sLen sCap : Nat) (hd : a.eval d = .slice dp dLen dCap) (hs : a.eval s = .slice sp sLen sCap) (S : List Rat) (hS : S.length = Nat.min sLen dLen) (b off : Nat) (L : List Rat) (hH : Hd w b (frCs L)) (hfit : off + S.length ≤ L.length)
  (hpos : 0 < S.length → dp = some ⟨b, off * 5, none⟩ ∧ ∃ g o, sp = some ⟨g, o, none⟩ ∧ FO w g o S)
  (h : ∀ w', Hd w' b (frCs (laid L off S)) → Upd b w w' → wpList Tryz.prog ops Q rest (a.put o.dst (goInt S.length)) w') : wpList Tryz.prog ops Q (o :: rest) a w := by
 by_cases h0 : S.length = 0
 ·obtain rfl : S = [] := List.eq_nil_of_length_eq_zero h0
  refine wpList_plain hgd fun K hK => ?_
  have hrun := run_copy0 Tryz.prog w dT sT o.type 36 dp sp dLen dCap sLen sCap hu infoFr5 (by simpa using hS.symm)
  unfold Oper.wp
  simp [execOp, ho, resolve, invoke, builtin, hd, hs, hrun, Result.andThen]
  exact hK _ _ (h w hH (Upd.refl _ _))
 ·obtain ⟨rfl, g, o2, rfl, hF⟩ := hpos (by omega)
  refine wpList_plain hgd fun K hK => ?_
  have hcl : ∀ j, j < (frCs S).length → off * 5 + j < (frCs L).length := fun j hj => by rw [frCs_length] at hj ⊢; omega
  have hrun := run_copyF Tryz.prog w dT sT o.type 36 b (off * 5) dLen dCap ⟨g, o2, none⟩ sLen sCap S.length (frCs S) hu infoFr5 hS (by rw [frCs_length]) (fo_cells hF) (fun j hj => by rw [hH.cell _ (hcl j hj)]; rfl) (fun j _ => hH.frz _) (frCs_c1 S)
  unfold Oper.wp
  simp [execOp, ho, resolve, invoke, builtin, hd, hs, hrun, Result.andThen]
  refine hK _ _ (h _ ?_ (setAll_upd b (frCs S) (off * 5) w))
  have := setAll_hdn (frCs S) (off * 5) w (frCs L) (by rw [frCs_length, frCs_length]; omega) hH
  rw [setCells_laid S L off hfit] at this
  exact this
end Go.Proofs.YthffglapmkkohaaGreatDoor
namespace Go.Proofs.YthffglapmkkohaaGreatDoor
open Go.RowKit
attribute [local irreducible] lo hs sm s64 c64 d64 b64 mh ml pd pc qd qc val hiB str cmpI srD lz nb zl zh zs fe rowV tabV gv bsV
theorem mdot1_w (i na nb ca cb ga gb oa ob b1 b2 : Nat) (x y r : Rat) (HC : ∀ w, Calls Tryz.prog 15 #[fracV x, fracV y] w fun xe w' => xe = .returned (fracV r) ∧ Below w.heap.size w w') (hi : i < na) (hj : i < nb) (w : World) (c0 : w.cell? ⟨b1, 0, none⟩ = some (.slice (some ⟨ga, oa, none⟩) na ca)) (c1 : w.cell? ⟨b2, 0, none⟩ = some (.slice (some ⟨gb, ob, none⟩) nb cb)) (c2 : w.cell? ⟨ga, oa + i * 5, none⟩ = some (.int .u64 ((zl x.num : Nat) : Int))) (c3 : w.cell? ⟨ga, oa + i * 5 + 1, none⟩ = some (.string (zh x.num))) (c4 : w.cell? ⟨ga, oa + i * 5 + 2, none⟩ = some (.bool (zs x.num))) (c5 : w.cell? ⟨ga, oa + i * 5 + 3, none⟩ = some (.int .u64 ((lo (fe x) : Nat) : Int))) (c6 : w.cell? ⟨ga, oa + i * 5 + 4, none⟩ = some (.string (hs (fe x)))) (c7 : w.cell? ⟨gb, ob + i * 5, none⟩ = some (.int .u64 ((zl y.num : Nat) : Int))) (c8 : w.cell? ⟨gb, ob + i * 5 + 1, none⟩ = some (.string (zh y.num))) (c9 : w.cell? ⟨gb, ob + i * 5 + 2, none⟩ = some (.bool (zs y.num))) (c10 : w.cell? ⟨gb, ob + i * 5 + 3, none⟩ = some (.int .u64 ((lo (fe y) : Nat) : Int))) (c11 : w.cell? ⟨gb, ob + i * 5 + 4, none⟩ = some (.string (hs (fe y)))) :
  Calls Tryz.prog 151 #[.int .i64 (i : Int), .pointer (some ⟨b1, 0, none⟩), .pointer (some ⟨b2, 0, none⟩)] w fun xe w' => xe = .returned (fracV r) ∧ Below w.heap.size w w' := by
 replace HC := Lib.hid HC
 have k0 : (0 : Int) ≤ (i : Int) := Int.natCast_nonneg _
 have k1 : (i : Int) < (na : Int) := by omega
 have k2 : (i : Int) < (nb : Int) := by omega
 clear hi hj
 have hL0 : GL w w [] := GL.start w
 have hb0 : Below w.heap.size w (w.alloc (.cells #[.int .u64 0, .string ⟨#[]⟩, .bool false, .int .u64 0, .string ⟨#[]⟩] 36)) := (Below.refl _ _).alloc (Nat.le_refl _) _
 replace c0 := keepsC hb0 c0
 replace c1 := keepsC hb0 c1
 replace c2 := keepsC hb0 c2
 replace c3 := keepsC hb0 c3
 replace c4 := keepsC hb0 c4
 replace c5 := keepsC hb0 c5
 replace c6 := keepsC hb0 c6
 replace c7 := keepsC hb0 c7
 replace c8 := keepsC hb0 c8
 replace c9 := keepsC hb0 c9
 replace c10 := keepsC hb0 c10
 replace c11 := keepsC hb0 c11
 replace hL0 := hL0.new rfl [.int .u64 0, .string ⟨#[]⟩, .bool false, .int .u64 0, .string ⟨#[]⟩] 36
 generalize hweq : w.alloc (.cells #[.int .u64 0, .string ⟨#[]⟩, .bool false, .int .u64 0, .string ⟨#[]⟩] 36) = x1 at hL0 c0 c1 c2 c3 c4 c5 c6 c7 c8 c9 c10 c11
 clear hb0
 replace c0 := Lib.hid c0
 replace c1 := Lib.hid c1
 replace c2 := Lib.hid c2
 replace c3 := Lib.hid c3
 replace c4 := Lib.hid c4
 replace c5 := Lib.hid c5
 replace c6 := Lib.hid c6
 replace c7 := Lib.hid c7
 replace c8 := Lib.hid c8
 replace c9 := Lib.hid c9
 replace c10 := Lib.hid c10
 replace c11 := Lib.hid c11
 go_enter Tryz.func151, Tryz.ntmps151
 go_upto_region 1 with fail
 clear hweq
 obtain ⟨α, iα, F, hF1, hF2⟩ := cls x1
 have hq0 : ∀ yz, (F yz).cell? ⟨b1, 0, none⟩ = some (.slice (some ⟨ga, oa, none⟩) na ca) := fun yz => keepsC (hF1 yz) c0.out
 have hq1 : ∀ yz, (F yz).cell? ⟨b2, 0, none⟩ = some (.slice (some ⟨gb, ob, none⟩) nb cb) := fun yz => keepsC (hF1 yz) c1.out
 have hq2 : ∀ yz, (F yz).cell? ⟨ga, oa + i * 5, none⟩ = some (.int .u64 ((zl x.num : Nat) : Int)) := fun yz => keepsC (hF1 yz) c2.out
 have hq3 : ∀ yz, (F yz).cell? ⟨ga, oa + i * 5 + 1, none⟩ = some (.string (zh x.num)) := fun yz => keepsC (hF1 yz) c3.out
 have hq4 : ∀ yz, (F yz).cell? ⟨ga, oa + i * 5 + 2, none⟩ = some (.bool (zs x.num)) := fun yz => keepsC (hF1 yz) c4.out
 have hq5 : ∀ yz, (F yz).cell? ⟨ga, oa + i * 5 + 3, none⟩ = some (.int .u64 ((lo (fe x) : Nat) : Int)) := fun yz => keepsC (hF1 yz) c5.out
 have hq6 : ∀ yz, (F yz).cell? ⟨ga, oa + i * 5 + 4, none⟩ = some (.string (hs (fe x))) := fun yz => keepsC (hF1 yz) c6.out
 have hq7 : ∀ yz, (F yz).cell? ⟨gb, ob + i * 5, none⟩ = some (.int .u64 ((zl y.num : Nat) : Int)) := fun yz => keepsC (hF1 yz) c7.out
 have hq8 : ∀ yz, (F yz).cell? ⟨gb, ob + i * 5 + 1, none⟩ = some (.string (zh y.num)) := fun yz => keepsC (hF1 yz) c8.out
 have hq9 : ∀ yz, (F yz).cell? ⟨gb, ob + i * 5 + 2, none⟩ = some (.bool (zs y.num)) := fun yz => keepsC (hF1 yz) c9.out
 have hq10 : ∀ yz, (F yz).cell? ⟨gb, ob + i * 5 + 3, none⟩ = some (.int .u64 ((lo (fe y) : Nat) : Int)) := fun yz => keepsC (hF1 yz) c10.out
 have hq11 : ∀ yz, (F yz).cell? ⟨gb, ob + i * 5 + 4, none⟩ = some (.string (hs (fe y))) := fun yz => keepsC (hF1 yz) c11.out
 refine region_qs 9 (C := fun w' => ∃ x, w' = F x) (by kernel_rfl) (by kernel_rfl) (cls_drew hF2) ?_
 simp only [zT]
 repeat (go_big_quiet_step (first | fail | (go_at_call 15; with_reducible exact cls_call hF1 hF2 HC.out _)))
 refine wpQuiet_nil ?_
 rintro wq ⟨xq, rfl⟩
 replace hL0 := hL0.call (hF1 xq)
 clear hq0 hq1 hq2 hq3 hq4 hq5 hq6 hq7 hq8 hq9 hq10 hq11 hF2
 generalize F xq = x2 at hL0 ⊢
 clear hF1 xq iα F α
 have hA := hL0.fc
 simp only [zF, Nat.reduceAdd] at hA
 have hPt := hL0.put 0 (w.heap.size) _ rfl [.int .u64 ((zl r.num : Nat) : Int), .string (zh r.num), .bool (zs r.num), .int .u64 ((lo (fe r) : Nat) : Int), .string (hs (fe r))] rfl
 simp only [setAll, List.set_cons_zero, List.set_cons_succ] at hPt
 generalize hput1 : (((((x2.setCell ⟨w.heap.size, 0, none⟩ (.int .u64 ((zl r.num : Nat) : Int))).setCell ⟨w.heap.size, 1, none⟩ (.string (zh r.num))).setCell ⟨w.heap.size, 2, none⟩ (.bool (zs r.num))).setCell ⟨w.heap.size, 3, none⟩ (.int .u64 ((lo (fe r) : Nat) : Int))).setCell ⟨w.heap.size, 4, none⟩ (.string (hs (fe r)))) = x9 at hPt
 have hB1 := hPt.fc
 simp only [zF, Nat.reduceAdd] at hB1
 go_wp2_with fail
 exact bodyPost_ret (v := fracV r) (by simp [results, Tryz.results151, go_sem, hB1]) rfl ⟨rfl, hPt.bl⟩
theorem sumF2 (ao : Option Addr) (n c : Nat) (qs : List Rat) (k : Nat) (hk : qs.length * (k + 1) ≤ 9000000) (hk2 : k ≤ 2000000) (hl : qs.length ≤ 1000) (hs : ∀ q ∈ qs, Sz q k) (w : World) (h : SlQ w (.slice ao n c) qs) :
  Calls Tryz.prog 72 #[.slice ao n c] w fun xe w' => xe = .returned (fracV (qsum qs)) ∧ Below w.heap.size w w' := by
 have hp := slq_parts' h (by omega)
 refine sum_w ao n c qs hp.2.2 (fun w0 t hn w hG => each_add w0 t ao n c qs 0 rfl hn (fun q a i ha hq w hG => total_add w0 t q a (q + a) (fun w => addF q a 9500000 ?_ ((hs a ha).mono (by omega)) (by omega) w) w hG) w hG) w hp
 rw [hq]
 have h0 : Sz 0 1 := ⟨digs_length_iff.2 (by unfold Bs; decide), digs_length_iff.2 (by unfold Bs; decide)⟩
 have hz := qsum_sz (qs.take i) 1 0 h0 (fun q hq => hs q (List.mem_of_mem_take hq))
 refine hz.mono ?_
 rw [List.length_take]
 have h1 : min i qs.length * (k + 1) ≤ qs.length * (k + 1) := Nat.mul_le_mul_right _ (by omega)
 omega
theorem sum_tab2 (n k : Nat) (f : Nat → Rat) (hn : n ≤ 1000) (hk : n * (k + 1) ≤ 9000000) (hk2 : k ≤ 2000000) (hf : ∀ i, i < n → Sz (f i) k) (v : Value) (w : World) (h : SlQ w v (tabV n f)) :
  Calls Tryz.prog 72 #[v] w fun xe w' => xe = .returned (fracV (bsV n f)) ∧ Below w.heap.size w w' := by
 obtain ⟨ao, c, rfl⟩ := slq_form' h
 have := sumF2 ao (tabV n f).length c (tabV n f) k (by rw [tabV_len]; exact hk) hk2 (by rw [tabV_len]; exact hn) (tab_all hf) w h
 rwa [qsum_tab] at this
theorem mdot_at (x y : List Rat) (n k b1 b2 : Nat) (va vb : Value) (hx : x.length = n) (hy : y.length = n) (hk : k ≤ 1000000) (sx : ∀ q ∈ x, Sz q k) (sy : ∀ q ∈ y, Sz q k) (i : Nat) (hi : i < n) (w : World)
  (hw : RQ w va x ∧ RQ w vb y ∧ w.cell? ⟨b1, 0, none⟩ = some va ∧ w.cell? ⟨b2, 0, none⟩ = some vb) :
  Calls Tryz.prog 151 (#[.int .i64 (i : Int)] ++ #[.pointer (some ⟨b1, 0, none⟩), .pointer (some ⟨b2, 0, none⟩)]) w fun xe w' => xe = .returned (fracV (gv x i * gv y i)) ∧ Below w.heap.size w w' := by
 obtain ⟨h1, h2, h3, h4⟩ := hw
 obtain ⟨aa, ca, rfl⟩ := h1.form
 obtain ⟨ab, cb, rfl⟩ := h2.form
 obtain ⟨ga, oa, rfl, -, f1⟩ := rq_at h1 (by omega)
 obtain ⟨gb, ob, rfl, -, f2⟩ := rq_at h2 (by omega)
 obtain ⟨p0, p1, p2, p3, p4⟩ := f1 i (by omega)
 obtain ⟨q0, q1, q2, q3, q4⟩ := f2 i (by omega)
 exact mdot1_w i x.length y.length ca cb ga gb oa ob b1 b2 (gv x i) (gv y i) (gv x i * gv y i) (fun w => mulF _ _ k (qsk x sx i (by omega)) (qsk y sy i (by omega)) (by omega) w) (by omega) (by omega) w h3 h4 p0 p1 p2 p3 p4 q0 q1 q2 q3 q4
theorem mdotS (x y : List Rat) (n k : Nat) (hx : x.length = n) (hy : y.length = n) (hn : n ≤ 1000) (hk : n * (k + k + 1) ≤ 9000000) (hk2 : k + k ≤ 2000000) (sx : ∀ q ∈ x, Sz q k) (sy : ∀ q ∈ y, Sz q k) (va vb : Value) (w : World) (hv : RQ w va x) (hu : RQ w vb y) :
  Calls Tryz.prog 76 #[va, vb] w fun xe w' => xe = .returned (fracV (bsV n fun i => gv x i * gv y i)) ∧ Below w.heap.size w w' := by
 obtain ⟨aa, ca, rfl⟩ := hv.form
 obtain ⟨ab, cb, rfl⟩ := hu.form
 rw [hx] at hv ⊢
 rw [hy] at hu ⊢
 have HCl := fun b1 b2 => mdot_at x y n k b1 b2 (.slice aa n ca) (.slice ab n cb) hx hy (by omega) sx sy
 have HS := Lib.hid (fun v w h => sum_tab2 n (k + k) (fun i => gv x i * gv y i) hn hk hk2 (fun i hi => (qsk x sx i (by omega)).mul (qsk y sy i (by omega))) v w h)
 generalize bsV n (fun i => gv x i * gv y i) = r at *
 have hL0 : GL w w [] := GL.start w
 obtain ⟨x1, hweq, hL0⟩ := GL.named (((hL0.new rfl [.slice aa n ca] 28).new (K := w.heap.size + 1) (szA _ _) [.slice ab n cb] 28).new (K := w.heap.size + 1 + 1) (by simp only [World.size_alloc]) [.int .u64 0, .string ⟨#[]⟩, .bool false, .int .u64 0, .string ⟨#[]⟩] 36)
 have hv1 := hv.below hL0.bl
 have hu1 := hu.below hL0.bl
 have hc1 := (hL0.get _ _ (mK (mK mZ))).cell 0 (by simp)
 simp only [List.getElem_cons_zero, List.getElem_cons_succ] at hc1
 have hc2 := (hL0.get _ _ (mK mZ)).cell 0 (by simp)
 simp only [List.getElem_cons_zero, List.getElem_cons_succ] at hc2
 have HC := veach_w 151 #[.pointer (some ⟨w.heap.size, 0, none⟩), .pointer (some ⟨w.heap.size + 1, 0, none⟩)] endot n (fun i => gv x i * gv y i) (fun w => RQ w (.slice aa n ca) x ∧ RQ w (.slice ab n cb) y ∧ w.cell? ⟨_, 0, none⟩ = some (.slice aa n ca) ∧ w.cell? ⟨_, 0, none⟩ = some (.slice ab n cb)) (Keeps.and (RQ.keeps _ _) (Keeps.and (RQ.keeps _ _) (Keeps.and (keepsB _ _) (keepsB _ _)))) (HCl _ _) (by omega) x1 ⟨hv1, hu1, hc1, hc2⟩
 replace HC := Lib.hid HC
 clear hv hu hv1 hu1 HCl sx sy hx hy hk hk2
 go_enter Tryz.func76, Tryz.ntmps76
 go_wp2_with fail
 with_reducible refine Calls.mono HC.out ?_
 rintro e y1 ⟨u, rfl, hnv, hb⟩
 replace hL0 := hL0.call hb
 clear hb hc1 hc2 hweq
 have hsl := Lib.hid hnv.slq
 obtain ⟨gu, rfl, -, -⟩ := hnv
 go_wp2_with fail
 with_reducible refine Calls.mono (HS.out _ _ hsl.out) ?_
 rintro e y2 ⟨rfl, hb⟩
 replace hL0 := hL0.call hb
 clear hb hsl
 have hA := hL0.fc
 simp only [zF, Nat.reduceAdd] at hA
 have hPt := hL0.put 0 (w.heap.size + 1 + 1) _ rfl [.int .u64 ((zl r.num : Nat) : Int), .string (zh r.num), .bool (zs r.num), .int .u64 ((lo (fe r) : Nat) : Int), .string (hs (fe r))] rfl
 simp only [setAll, List.set_cons_zero, List.set_cons_succ] at hPt
 generalize hput1 : (((((y2.setCell ⟨w.heap.size + 1 + 1, 0, none⟩ (.int .u64 ((zl r.num : Nat) : Int))).setCell ⟨w.heap.size + 1 + 1, 1, none⟩ (.string (zh r.num))).setCell ⟨w.heap.size + 1 + 1, 2, none⟩ (.bool (zs r.num))).setCell ⟨w.heap.size + 1 + 1, 3, none⟩ (.int .u64 ((lo (fe r) : Nat) : Int))).setCell ⟨w.heap.size + 1 + 1, 4, none⟩ (.string (hs (fe r)))) = y3 at hPt
 have hB1 := hPt.fc
 simp only [zF, Nat.reduceAdd] at hB1
 go_wp2_with fail
 exact bodyPost_ret (v := fracV r) (by simp [results, Tryz.results76, go_sem, hB1]) rfl ⟨rfl, hPt.bl⟩
theorem mDotV (x y : List Rat) (n k : Nat) (hx : x.length = n) (hy : y.length = n) (hn : n ≤ 1000) (hk : n * (k + k + 1) ≤ 9000000) (hk2 : k + k ≤ 2000000) (sx : ∀ q ∈ x, Sz q k) (sy : ∀ q ∈ y, Sz q k) (va vb : Value) (w : World) (hv : RQ w va x) (hu : RQ w vb y) :
  Calls Tryz.prog 52 #[va, vb] w fun xe w' => xe = .returned (.tuple #[fracV (bsV n fun i => gv x i * gv y i), .int .i64 0]) ∧ Below w.heap.size w w' := by
 have HD := Lib.hid (fun w hv hu => mdotS x y n k hx hy hn hk hk2 sx sy va vb w hv hu)
 obtain ⟨aa, ca, rfl⟩ := hv.form
 obtain ⟨ab, cb, rfl⟩ := hu.form
 rw [hx] at hv HD ⊢
 rw [hy] at hu HD ⊢
 generalize bsV n (fun i => gv x i * gv y i) = r at *
 have hL0 : GL w w [] := GL.start w
 obtain ⟨x1, hweq, hL0⟩ := GL.named (hL0.new rfl [.int .u64 0, .string ⟨#[]⟩, .bool false, .int .u64 0, .string ⟨#[]⟩] 36)
 have hv1 := hv.below hL0.bl
 have hu1 := hu.below hL0.bl
 replace hL0 := (hL0.new rfl [.slice aa n ca, .slice ab n cb] 28)
 generalize hweq2 : (x1.alloc (.cells #[.slice aa n ca, .slice ab n cb] 28)) = x2 at hL0
 have hb2 : Below x1.heap.size x1 x2 := hweq2 ▸ ((Below.refl _ _).alloc (Nat.le_refl _) _)
 have hv2 := hv1.below hb2
 have hu2 := hu1.below hb2
 have hd := hL0.get _ _ mZ
 have HF := vfault_w 2 2 x1.heap.size (some ⟨x1.heap.size, 0, none⟩) (fun _ => n) (by omega) (fun i hi => by omega) x2 (fun _ => rfl) (fun i hi => by
  rcases (by omega : i = 0 ∨ i = 1) with rfl | rfl
  ·exact ⟨aa, ca, hd.cell 0 (by simp)⟩
  ·exact ⟨ab, cb, hd.cell 1 (by simp)⟩)
 replace HF := Lib.hid HF
 clear hd
 replace hv2 := Lib.hid hv2
 replace hu2 := Lib.hid hu2
 clear hv hu hv1 hu1 sx sy hb2 hk hk2
 go_enter Tryz.func52, Tryz.ntmps52
 go_wp2_with fail
 with_reducible refine Calls.mono HF.out ?_
 rintro e y1 ⟨ze, rfl, hor, hb⟩
 obtain rfl : ze = 0 := by
  rcases hor with ⟨h, -⟩ | ⟨-, i, -, h⟩
  ·exact h
  ·exact absurd rfl h
 clear hor
 have hv3 := Lib.hid (hv2.out.below hb)
 have hu3 := Lib.hid (hu2.out.below hb)
 replace hL0 := hL0.call hb
 clear hb hweq hweq2 hv2 hu2 HF
 go_wp2_with fail
 with_reducible refine Calls.mono (HD.out _ hv3.out hu3.out) ?_
 rintro e y2 ⟨rfl, hb⟩
 replace hL0 := hL0.call hb
 clear hb hv3 hu3
 have hA := hL0.fc
 simp only [zF, Nat.reduceAdd] at hA
 have hPt := hL0.put 1 (w.heap.size) _ rfl [.int .u64 ((zl r.num : Nat) : Int), .string (zh r.num), .bool (zs r.num), .int .u64 ((lo (fe r) : Nat) : Int), .string (hs (fe r))] rfl
 simp only [setAll, List.set_cons_zero, List.set_cons_succ] at hPt
 generalize hput1 : (((((y2.setCell ⟨w.heap.size, 0, none⟩ (.int .u64 ((zl r.num : Nat) : Int))).setCell ⟨w.heap.size, 1, none⟩ (.string (zh r.num))).setCell ⟨w.heap.size, 2, none⟩ (.bool (zs r.num))).setCell ⟨w.heap.size, 3, none⟩ (.int .u64 ((lo (fe r) : Nat) : Int))).setCell ⟨w.heap.size, 4, none⟩ (.string (hs (fe r)))) = y3 at hPt
 have hB1 := hPt.fc
 simp only [zF, Nat.reduceAdd] at hB1
 go_wp2_with fail
 exact bodyPost_ret (v := .tuple #[fracV r, .int .i64 0]) (by simp [results, Tryz.results52, go_sem, hB1]) rfl ⟨rfl, hPt.bl⟩
end Go.Proofs.YthffglapmkkohaaGreatDoor
namespace Go.Proofs.YthffglapmkkohaaGreatDoor
open Go.RowKit
attribute [local irreducible] lo hs sm s64 c64 d64 b64 mh ml pd pc qd qc val hiB str cmpI srD lz nb zl zh zs fe rowV tabV gv bsV
theorem msize_ok (r c : Nat) (hr : r ≤ 2048) (hc : c ≤ 2048) (w : World) : Calls Tryz.prog 85 #[.int .i64 (r : Int), .int .i64 (c : Int)] w fun xe w' => xe = .returned (.int .i64 0) ∧ Below w.heap.size w w' := by
 have k0 : ¬ (r : Int) < 0 := by omega
 have k1 : ¬ (c : Int) < 0 := by omega
 have k2 : ¬ (2048 : Int) < (r : Int) := by omega
 have k3 : ¬ (2048 : Int) < (c : Int) := by omega
 have k4 : ¬ 2048 < r := by omega
 have k5 : ¬ 2048 < c := by omega
 clear hr hc
 go_enter Tryz.func85, Tryz.ntmps85
 go_wp2_with fail
 exact bodyPost_ret (v := .int .i64 0) (by simp [results, Tryz.results85, go_sem]) rfl ⟨rfl, Below.refl _ _⟩
theorem mcheck_ok (r c n d : Nat) (ao : Option Addr) (hr : r ≤ 2048) (hc : c ≤ 2048) (hn : n = r * c) (w : World) : Calls Tryz.prog 89 #[.agg #[.int .i64 (r : Int), .int .i64 (c : Int), .slice ao n d]] w fun xe w' => xe = .returned (.int .i64 0) ∧ Below w.heap.size w w' := by
 have HS := Lib.hid (msize_ok r c hr hc)
 have hmul : (r : Int) * (c : Int) = (n : Int) := by rw [hn, Int.natCast_mul]
 have hle : n ≤ 2048 * 2048 := by rw [hn]; exact Nat.mul_le_mul hr hc
 have hb1 : (n : Int) ≤ 5000000 := by omega
 have hb0 : (0 : Int) ≤ (n : Int) := Int.natCast_nonneg _
 clear hr hc hn hle
 have hL0 : GL w w [] := GL.start w
 obtain ⟨x1, hweq, hL0⟩ := GL.named (hL0.new rfl [.int .i64 (r : Int), .int .i64 (c : Int), .slice ao n d] 56)
 have hA := hL0.fc
 simp only [zF, Nat.reduceAdd] at hA
 go_enter Tryz.func89, Tryz.ntmps89
 go_wp2_with fail
 with_reducible refine Calls.mono (HS.out _) ?_
 rintro e y1 ⟨rfl, hb⟩
 replace hL0 := hL0.call hb
 clear hb hA hweq
 have hA := hL0.fc
 simp only [zF, Nat.reduceAdd] at hA
 go_wp2_with fail
 exact bodyPost_ret (v := .int .i64 0) (by simp [results, Tryz.results89, go_sem]) rfl ⟨rfl, hL0.bl⟩
theorem mat_w (r c n d g i k p : Nat) (q : Rat) (hp : p = i * c) (hk : p + k < n) (hn : n ≤ 5000000) (w : World)
  (f0 : w.cell? ⟨g, (p + k) * 5, none⟩ = some (.int .u64 ((zl q.num : Nat) : Int))) (f1 : w.cell? ⟨g, (p + k) * 5 + 1, none⟩ = some (.string (zh q.num))) (f2 : w.cell? ⟨g, (p + k) * 5 + 2, none⟩ = some (.bool (zs q.num))) (f3 : w.cell? ⟨g, (p + k) * 5 + 3, none⟩ = some (.int .u64 ((lo (fe q) : Nat) : Int))) (f4 : w.cell? ⟨g, (p + k) * 5 + 4, none⟩ = some (.string (hs (fe q)))) :
  Calls Tryz.prog 92 #[.agg #[.int .i64 (r : Int), .int .i64 (c : Int), .slice (some ⟨g, 0, none⟩) n d], .int .i64 (i : Int), .int .i64 (k : Int)] w fun xe w' => xe = .returned (fracV q) ∧ Below w.heap.size w w' := by
 have hmul : (i : Int) * (c : Int) = (p : Int) := by rw [hp, Int.natCast_mul]
 have k0 : (0 : Int) ≤ (p : Int) + (k : Int) := by omega
 have k1 : (p : Int) + (k : Int) < (n : Int) := by omega
 have k2 : (p : Int) ≤ 5000000 := by omega
 have k3 : (p : Int) + (k : Int) ≤ 5000000 := by omega
 clear hp hk hn
 have hL0 : GL w w [] := GL.start w
 obtain ⟨x1, hweq, hL0⟩ := GL.named ((hL0.new rfl [.int .i64 (r : Int), .int .i64 (c : Int), .slice (some ⟨g, 0, none⟩) n d] 56).new (K := w.heap.size + 1) (szA _ _) [.int .u64 0, .string ⟨#[]⟩, .bool false, .int .u64 0, .string ⟨#[]⟩] 36)
 replace f0 := keepsC hL0.bl f0
 replace f1 := keepsC hL0.bl f1
 replace f2 := keepsC hL0.bl f2
 replace f3 := keepsC hL0.bl f3
 replace f4 := keepsC hL0.bl f4
 have hA := hL0.fc
 simp only [zF, Nat.reduceAdd] at hA
 go_enter Tryz.func92, Tryz.ntmps92
 have hPt := hL0.put 0 (w.heap.size + 1) _ rfl [.int .u64 ((zl q.num : Nat) : Int), .string (zh q.num), .bool (zs q.num), .int .u64 ((lo (fe q) : Nat) : Int), .string (hs (fe q))] rfl
 simp only [setAll, List.set_cons_zero, List.set_cons_succ] at hPt
 generalize hput1 : (((((x1.setCell ⟨w.heap.size + 1, 0, none⟩ (.int .u64 ((zl q.num : Nat) : Int))).setCell ⟨w.heap.size + 1, 1, none⟩ (.string (zh q.num))).setCell ⟨w.heap.size + 1, 2, none⟩ (.bool (zs q.num))).setCell ⟨w.heap.size + 1, 3, none⟩ (.int .u64 ((lo (fe q) : Nat) : Int))).setCell ⟨w.heap.size + 1, 4, none⟩ (.string (hs (fe q)))) = x9 at hPt
 have hB1 := hPt.fc
 simp only [zF, Nat.reduceAdd] at hB1
 go_wp2_with fail
 exact bodyPost_ret (v := fracV q) (by simp [results, Tryz.results92, go_sem, hB1]) rfl ⟨rfl, hPt.bl⟩
theorem mrow_w (r c n d i p e : Nat) (ao a2 : Option Addr) (hp : p = i * c) (he : e = (i + 1) * c) (hi : i ≤ 100000) (hn : e ≤ 5000000)
  (hs : ∀ W, (Instr.slice 27 (.slice ao n d) (some (.int .i64 (p : Int))) (some (.int .i64 (e : Int))) (some (.int .i64 (e : Int)))).run Tryz.prog W = .ok (.slice a2 c c) W) (w : World) :
  Calls Tryz.prog 108 #[.agg #[.int .i64 (r : Int), .int .i64 (c : Int), .slice ao n d], .int .i64 (i : Int)] w fun xe w' => xe = .returned (.slice a2 c c) ∧ Below w.heap.size w w' := by
 have hmul : (i : Int) * (c : Int) = (p : Int) := by rw [hp, Int.natCast_mul]
 have hmul2 : ((i : Int) + 1) * (c : Int) = (e : Int) := by rw [he, Int.natCast_mul]; rfl
 have hle : p ≤ e := by rw [hp, he]; exact Nat.mul_le_mul_right _ (by omega)
 have k0 : (0 : Int) ≤ (i : Int) + 1 := by omega
 have k1 : (i : Int) + 1 ≤ 100001 := by omega
 have k2 : (0 : Int) ≤ (p : Int) := by omega
 have k3 : (p : Int) ≤ 5000000 := by omega
 have k4 : (0 : Int) ≤ (e : Int) := by omega
 have k5 : (e : Int) ≤ 5000000 := by omega
 clear hp he hle hi hn
 have hL0 : GL w w [] := GL.start w
 obtain ⟨x1, hweq, hL0⟩ := GL.named (hL0.new rfl [.int .i64 (r : Int), .int .i64 (c : Int), .slice ao n d] 56)
 have hA := hL0.fc
 simp only [zF, Nat.reduceAdd] at hA
 go_enter Tryz.func108, Tryz.ntmps108
 go_upto_region 1 with fail
 clear hweq hA
 obtain ⟨α, iα, F, hF1, hF2⟩ := cls x1
 have hq := GL.fcC hF1 hL0
 simp only [zC, Nat.reduceAdd] at hq
 refine region_cls (F := F) (by kernel_rfl) (lexB_of_fast (by kernel_rfl)) (cls_drew hF2) ?_
 repeat (go_big_quiet_step (first | fail))
 refine wpQuiet_nil ?_
 rintro wq ⟨xq, rfl⟩
 replace hL0 := hL0.call (hF1 xq)
 clear hq hF2
 generalize F xq = x2 at hL0 ⊢
 clear hF1 xq iα F α
 have hA := hL0.fc
 simp only [zF, Nat.reduceAdd] at hA
 go_wp2_with fail
 exact bodyPost_ret (v := .slice a2 c c) (by simp [results, Tryz.results108, go_sem]) rfl ⟨rfl, hL0.bl⟩
theorem makeM (w : World) (c : Int) (n : Nat) (hc : c = n) (h : n ≤ 1000000) :
  (Instr.makeSlice 27 (.int .i64 c) (.int .i64 c)).run Tryz.prog w = .ok (.slice (some ⟨w.heap.size, 0, none⟩) n n) (w.alloc (.cells (frCs (List.replicate n 0)).toArray 36)) := by
 subst hc
 obtain ⟨i, hi, hz, h1, h2⟩ := info_parts infoFr
 have := run_make (P := Tryz.prog) w 27 36 i _ Tryz.underlying27 hi hz .i64 .i64 (n : Int) (n : Int) (by omega) (Int.le_refl _) (by rw [h2]; omega) (by omega)
 rw [this, h1]
 simp only [Int.toNat_natCast]
 rw [made_zerosF]
theorem mbuild_w (K : FuncId) (caps : Array Value) (eg : ∀ (args : Array Value) (w : World), (callFunc K args).run Tryz.prog w = .ok (.enter K args) w) (r c : Nat) (f : Nat → Nat → Rat) (P : World → Prop) (hP : Keeps P)
  (HC : ∀ i k, i < r → k < c → ∀ w, P w → Calls Tryz.prog K (#[.int .i64 (i : Int), .int .i64 (k : Int)] ++ caps) w fun xe w' => xe = .returned (fracV (f i k)) ∧ Below w.heap.size w w')
  (hr : r ≤ 2048) (hc : c ≤ 2048) (hn : r * c ≤ 100000) (w : World) (kP : P w) :
  Calls Tryz.prog 88 #[.int .i64 (r : Int), .int .i64 (c : Int), .func (.func K) #[] caps] w fun xe w' => ∃ v, xe = .returned (.agg #[.int .i64 (r : Int), .int .i64 (c : Int), v]) ∧ NV w.heap.size (tabM r c f).l v w' ∧ Below w.heap.size w w' := by
 show Calls _ _ _ _ fun xe w' => ∃ v, _ ∧ NV w.heap.size (tabV (r * c) fun q => f (q / c) (q % c)) v w' ∧ _
 obtain ⟨m, hm⟩ : ∃ m, m = r * c := ⟨_, rfl⟩
 rw [← hm] at hn ⊢
 have hmk := fun W => makeM W (m : Int) m rfl (by omega)
 have hmul : (r : Int) * (c : Int) = (m : Int) := by rw [hm, Int.natCast_mul]
 have hm1 : (m : Int) ≤ 100000 := by omega
 have hm0 : (0 : Int) ≤ (m : Int) := Int.natCast_nonneg _
 replace hP := Lib.hid hP
 replace HC := Lib.hid HC
 replace hm := Lib.hid hm
 replace hr := Lib.hid hr
 replace hc := Lib.hid hc
 have hL0 : GL w w [] := GL.start w
 obtain ⟨x1, hweq, hL0⟩ := GL.named (hL0.new rfl [.int .i64 0, .int .i64 0, .slice none 0 0] 56)
 have hx1 : w.heap.size ≤ x1.heap.size := hL0.bl.size
 replace hL0 := hL0.new (K := x1.heap.size) rfl (frCs (List.replicate m 0)) 36
 generalize hweq2 : x1.alloc (.cells (frCs (List.replicate m 0)).toArray 36) = x2 at hL0
 rw [← rowV_zero (fun q => f (q / c) (q % c)) m] at hL0
 replace kP := Lib.hid kP
 go_enter Tryz.func88, Tryz.ntmps88
 go_wp2_with fail
 clear hweq hweq2 hmk
 obtain ⟨g, hg⟩ : ∃ g, g = x1.heap.size := ⟨_, rfl⟩
 rw [← hg] at hL0 ⊢
 rw [← hg] at hx1
 replace hg := Lib.hid hg
 replace hx1 := Lib.hid hx1
 obtain ⟨b, hbw⟩ : ∃ b, b = w.heap.size := ⟨_, rfl⟩
 rw [← hbw] at hL0 hx1 ⊢
 replace hbw := Lib.hid hbw
 go_loopg [15] r (fun gk iv wr => ∃ (i : Nat) (zi : Int), i + gk = r ∧ iv = .int .i64 zi ∧ zi = (i : Int) ∧ GL w wr [(g, frCs (rowV (fun q => f (q / c) (q % c)) m (i * c))), (b, [.int .i64 0, .int .i64 0, .slice none 0 0])])
 case atStart => exact ⟨0, 0, Nat.zero_add r, by first | rfl | go_num, rfl, by rw [Nat.zero_mul]; exact hL0⟩
 case round =>
  clear hL0
  obtain ⟨i, zi, hik, rfl, hzi, hL0⟩ := hrel
  rcases Nat.lt_or_ge i r with hin | hin
  ·subst hzi
   have k1 : (i : Int) < (r : Int) := by omega
   have k0 : (0 : Int) ≤ (i : Int) := Int.natCast_nonneg _
   have kb : (i : Int) ≤ 100000 := by have := hr.out; omega
   obtain ⟨p, hp⟩ : ∃ p, p = i * c := ⟨_, rfl⟩
   have hmu2 : (i : Int) * (c : Int) = (p : Int) := by rw [hp, Int.natCast_mul]
   rw [← hp] at hL0
   replace hp := Lib.hid hp
   have hpm := Lib.hid (show ∀ k, k < c → p + k < m by intro k hk; rw [hp.out, hm.out]; exact ix_lt hin hk)
   have hpc := Lib.hid (show p + c = (i + 1) * c by rw [hp.out, Nat.add_mul, Nat.one_mul])
   go_wp2_with fail
   obtain ⟨wo, hwo⟩ : ∃ wo, wo = wr := ⟨_, rfl⟩
   subst hwo
   go_loopg [19] c (fun gk kv wr2 => ∃ (k : Nat) (zk : Int), k + gk = c ∧ kv = .int .i64 zk ∧ zk = (k : Int) ∧ GL w wr2 [(g, frCs (rowV (fun q => f (q / c) (q % c)) m (p + k))), (b, [.int .i64 0, .int .i64 0, .slice none 0 0])])
   case atStart => exact ⟨0, 0, Nat.zero_add c, by first | rfl | go_num, rfl, hL0⟩
   case round =>
    clear hL0
    obtain ⟨k, zk, hkk, rfl, hzk, hL0⟩ := hrel
    rcases Nat.lt_or_ge k c with hkn | hkn
    ·subst hzk
     have m1 : (k : Int) < (c : Int) := by omega
     have m0 : (0 : Int) ≤ (k : Int) := Int.natCast_nonneg _
     have hpk := hpm.out k hkn
     have m2 : (p : Int) + (k : Int) < (m : Int) := by omega
     have m3 : (0 : Int) ≤ (p : Int) + (k : Int) := by omega
     have m4 : (p : Int) + (k : Int) ≤ 100000 := by omega
     have HC1 := HC.out i k hin hkn
     obtain ⟨q, hq⟩ : ∃ q, q = f i k := ⟨_, rfl⟩
     rw [← hq] at HC1
     have hq2 := Lib.hid (show q = (fun q => f (q / c) (q % c)) (p + k) by show q = f ((p + k) / c) ((p + k) % c); rw [hp.out, ix_div hkn, ix_mod hkn]; exact hq)
     replace hq := Lib.hid hq
     replace HC1 := Lib.hid HC1
     go_wp2_with fail
     with_reducible refine Calls.mono (HC1.out _ (hP.out.at hL0.bl kP.out)) ?_
     rintro e y1 ⟨rfl, hb⟩
     replace hL0 := hL0.call hb
     clear hb
     have zh := hL0.get _ _ mZ
     have hlen := rowV_len (fun q => f (q / c) (q % c)) m (p + k) (Nat.le_of_lt hpk)
     obtain ⟨z0, z1, z2, z3, z4⟩ := (hd_fs zh).cell (p + k) (by omega)
     have zz := zh.frz
     clear zh
     have hPt := hL0.putF 0 g (rowV (fun q => f (q / c) (q % c)) m (p + k)) rfl (p + k) q (by omega)
     simp only [List.set_cons_zero, List.set_cons_succ] at hPt
     generalize hputr : (((((y1.setCell ⟨g, (p + k) * 5, none⟩ (.int .u64 ((zl q.num : Nat) : Int))).setCell ⟨g, (p + k) * 5 + 1, none⟩ (.string (zh q.num))).setCell ⟨g, (p + k) * 5 + 2, none⟩ (.bool (zs q.num))).setCell ⟨g, (p + k) * 5 + 3, none⟩ (.int .u64 ((lo (fe q) : Nat) : Int))).setCell ⟨g, (p + k) * 5 + 4, none⟩ (.string (hs (fe q)))) = y2 at hPt
     rw [hq2.out, rowV_step _ m (p + k) hpk] at hPt
     clear hL0
     have hL0 := hPt
     clear hPt
     go_wp2_with fail
     go_roundg (c - (k + 1))
     case measure => omega
     case rel => exact ⟨k + 1, _, by omega, by first | rfl | go_num, by omega, hL0⟩
    ·obtain rfl : c = k := by omega
     subst hzk
     have m1 : ¬ (c : Int) < (c : Int) := by omega
     rw [hpc.out] at hL0
     go_wp2_with fail
     go_roundg (r - (i + 1))
     case measure => omega
     case rel => exact ⟨i + 1, _, by omega, by first | rfl | go_num, by omega, hL0⟩
  ·obtain rfl : r = i := by omega
   subst hzi
   have k1 : ¬ (r : Int) < (r : Int) := by omega
   rw [← hm.out, rowV_end] at hL0
   have hA := cells_of _ 0 [] rfl (hL0.get _ _ (mK mZ))
   simp only [zF, Nat.reduceAdd] at hA
   have zf := (hL0.get _ _ (mK mZ)).frz
   have hPt := hL0.put 1 b _ rfl [.int .i64 (r : Int), .int .i64 (c : Int), .slice (some ⟨g, 0, none⟩) m m] rfl
   simp only [setAll, List.set_cons_zero, List.set_cons_succ] at hPt
   generalize hput1 : (((wr.setCell ⟨b, 0, none⟩ (.int .i64 (r : Int))).setCell ⟨b, 1, none⟩ (.int .i64 (c : Int))).setCell ⟨b, 2, none⟩ (.slice (some ⟨g, 0, none⟩) m m)) = y9 at hPt
   have hB1 := cells_of _ 0 [] rfl (hPt.get _ _ (mK mZ))
   simp only [zF, Nat.reduceAdd] at hB1
   have hNV : NV w.heap.size (tabV m fun q => f (q / c) (q % c)) (.slice (some ⟨g, 0, none⟩) m m) y9 := ⟨g, by rw [tabV_len], by rw [← hbw.out]; exact hx1.out, hPt.get _ _ mZ⟩
   replace hNV := Lib.hid hNV
   clear hL0
   go_wp2_with fail
   exact bodyPost_ret (v := .agg #[.int .i64 (r : Int), .int .i64 (c : Int), .slice (some ⟨g, 0, none⟩) m m]) (by simp [results, Tryz.results88, go_sem, hB1]) rfl ⟨_, rfl, hNV.out, hPt.bl⟩
end Go.Proofs.YthffglapmkkohaaGreatDoor
namespace Go.Proofs.YthffglapmkkohaaGreatDoor
open Go.RowKit
attribute [local irreducible] lo hs sm s64 c64 d64 b64 mh ml pd pc qd qc val hiB str cmpI srD lz nb zl zh zs fe rowV tabV gv bsV tabM
/-- A matrix in a box. -/
def BM (w : World) (b : Nat) (u : Value) (x : Mx) : Prop := w.cell? ⟨b, 0, none⟩ = some (.int .i64 (x.r : Int)) ∧ w.cell? ⟨b, 1, none⟩ = some (.int .i64 (x.c : Int)) ∧ w.cell? ⟨b, 2, none⟩ = some u ∧ CQ w u x.l
theorem BM.keeps (b : Nat) (u : Value) (x : Mx) : Keeps fun w => BM w b u x := fun _ _ hb h => ⟨keepsC hb h.1, keepsC hb h.2.1, keepsC hb h.2.2.1, h.2.2.2.below hb⟩
theorem BM.of {w : World} {b : Nat} {u : Value} {x : Mx} (h : Hd w b [.int .i64 (x.r : Int), .int .i64 (x.c : Int), u]) (hu : CQ w u x.l) : BM w b u x := ⟨h.cell 0 (by simp), h.cell 1 (by simp), h.cell 2 (by simp), hu⟩
structure OKM (x : Mx) : Prop where
 r : x.r ≤ 2048
 c : x.c ≤ 2048
 len : x.l.length = x.r * x.c
theorem OKM.le {x : Mx} (h : OKM x) : x.r * x.c ≤ 5000000 := by
 have := Nat.mul_le_mul h.r h.c
 omega
theorem GM.ok {x : Mx} {n k K : Nat} (h : GM x n k K) (hn : n ≤ 2048) (hk : k ≤ 2048) : OKM x := ⟨by rw [h.r]; exact hn, by rw [h.c]; exact hk, by rw [h.len, h.r, h.c]⟩
/-- An element. -/
theorem matV (x : Mx) (hx : OKM x) (i k : Nat) (hi : i < x.r) (hk : k < x.c) (u : Value) (w : World) (hu : CQ w u x.l) :
  Calls Tryz.prog 92 #[.agg #[.int .i64 (x.r : Int), .int .i64 (x.c : Int), u], .int .i64 (i : Int), .int .i64 (k : Int)] w fun xe w' => xe = .returned (fracV (ent x i k)) ∧ Below w.heap.size w w' := by
 obtain ⟨ao, d, rfl, -⟩ := hu.form
 have hlt := ix_lt hi hk
 obtain ⟨g, rfl, -, ff⟩ := slq_at hu.1 (i * x.c + k) (by rw [hx.len]; exact hlt)
 obtain ⟨f0, f1, f2, f3, f4⟩ := fsc ff (i * x.c + k) (by rw [hx.len]; exact hlt)
 exact mat_w x.r x.c x.l.length d g i k (i * x.c) (ent x i k) rfl (by rw [hx.len]; exact hlt) (by rw [hx.len]; exact hx.le) w f0 f1 f2 f3 f4
/-- A row. -/
theorem mrowV (x : Mx) (hx : OKM x) (i : Nat) (hi : i < x.r) (u : Value) (w0 : World) (hu : CQ w0 u x.l) :
  ∃ a2, (∀ w, Calls Tryz.prog 108 #[.agg #[.int .i64 (x.r : Int), .int .i64 (x.c : Int), u], .int .i64 (i : Int)] w fun xe w' => xe = .returned (.slice a2 x.c x.c) ∧ Below w.heap.size w w') ∧ RQ w0 (.slice a2 x.c x.c) (rowL x i) := by
 obtain ⟨ao, d, rfl, hd⟩ := hu.form
 obtain ⟨a2, h1, h2⟩ := row_slice hu.1 hd hx.len i hi
 have hle : (i + 1) * x.c ≤ x.r * x.c := Nat.mul_le_mul_right _ hi
 have := hx.le
 have := hx.r
 exact ⟨a2, fun w => mrow_w x.r x.c x.l.length d i (i * x.c) ((i + 1) * x.c) ao a2 rfl rfl (by omega) (by omega) h1 w, h2⟩
theorem mturn1_w (i k r c n d b1 : Nat) (ao : Option Addr) (q : Rat) (KC : World → Prop) (hKC : Keeps KC) (HA : ∀ w, KC w → Calls Tryz.prog 92 #[.agg #[.int .i64 (r : Int), .int .i64 (c : Int), .slice ao n d], .int .i64 (k : Int), .int .i64 (i : Int)] w fun xe w' => xe = .returned (fracV q) ∧ Below w.heap.size w w') (w : World) (kC : KC w) (c0 : w.cell? ⟨b1, 0, none⟩ = some (.int .i64 (r : Int))) (c1 : w.cell? ⟨b1, 1, none⟩ = some (.int .i64 (c : Int))) (c2 : w.cell? ⟨b1, 2, none⟩ = some (.slice ao n d)) :
  Calls Tryz.prog 156 #[.int .i64 (i : Int), .int .i64 (k : Int), .pointer (some ⟨b1, 0, none⟩)] w fun xe w' => xe = .returned (fracV q) ∧ Below w.heap.size w w' := by
 replace HA := Lib.hid HA
 replace hKC := Lib.hid hKC
 have hL0 : GL w w [] := GL.start w
 have hb0 : Below w.heap.size w (w.alloc (.cells #[.int .u64 0, .string ⟨#[]⟩, .bool false, .int .u64 0, .string ⟨#[]⟩] 36)) := (Below.refl _ _).alloc (Nat.le_refl _) _
 replace c0 := keepsC hb0 c0
 replace c1 := keepsC hb0 c1
 replace c2 := keepsC hb0 c2
 replace kC := hKC.out _ _ hb0 kC
 replace hL0 := hL0.new rfl [.int .u64 0, .string ⟨#[]⟩, .bool false, .int .u64 0, .string ⟨#[]⟩] 36
 generalize hweq : w.alloc (.cells #[.int .u64 0, .string ⟨#[]⟩, .bool false, .int .u64 0, .string ⟨#[]⟩] 36) = x1 at hL0 c0 c1 c2 kC
 clear hb0
 go_enter Tryz.func156, Tryz.ntmps156
 go_wp2_with fail
 with_reducible refine Calls.mono (HA.out _ kC) ?_
 rintro e x2 ⟨rfl, hb⟩
 replace hL0 := hL0.call hb
 clear hb hweq c0 c1 c2
 have hA := hL0.fc
 simp only [zF, Nat.reduceAdd] at hA
 have hPt := hL0.put 0 (w.heap.size) _ rfl [.int .u64 ((zl q.num : Nat) : Int), .string (zh q.num), .bool (zs q.num), .int .u64 ((lo (fe q) : Nat) : Int), .string (hs (fe q))] rfl
 simp only [setAll, List.set_cons_zero, List.set_cons_succ] at hPt
 generalize hput1 : (((((x2.setCell ⟨w.heap.size, 0, none⟩ (.int .u64 ((zl q.num : Nat) : Int))).setCell ⟨w.heap.size, 1, none⟩ (.string (zh q.num))).setCell ⟨w.heap.size, 2, none⟩ (.bool (zs q.num))).setCell ⟨w.heap.size, 3, none⟩ (.int .u64 ((lo (fe q) : Nat) : Int))).setCell ⟨w.heap.size, 4, none⟩ (.string (hs (fe q)))) = x9 at hPt
 have hB1 := hPt.fc
 simp only [zF, Nat.reduceAdd] at hB1
 go_wp2_with fail
 exact bodyPost_ret (v := fracV q) (by simp [results, Tryz.results156, go_sem, hB1]) rfl ⟨rfl, hPt.bl⟩
theorem mapp1_w (i k r c n d b1 b2 : Nat) (ao : Option Addr) (u v : Value) (q : Rat) (KC : World → Prop) (hKC : Keeps KC) (HR : ∀ w, Calls Tryz.prog 108 #[.agg #[.int .i64 (r : Int), .int .i64 (c : Int), .slice ao n d], .int .i64 (i : Int)] w fun xe w' => xe = .returned (u) ∧ Below w.heap.size w w') (HD : ∀ w, KC w → Calls Tryz.prog 107 #[u, v] w fun xe w' => xe = .returned (fracV q) ∧ Below w.heap.size w w') (w : World) (kC : KC w) (c0 : w.cell? ⟨b1, 0, none⟩ = some (.int .i64 (r : Int))) (c1 : w.cell? ⟨b1, 1, none⟩ = some (.int .i64 (c : Int))) (c2 : w.cell? ⟨b1, 2, none⟩ = some (.slice ao n d)) (c3 : w.cell? ⟨b2, 0, none⟩ = some (v)) :
  Calls Tryz.prog 161 #[.int .i64 (i : Int), .int .i64 (k : Int), .pointer (some ⟨b1, 0, none⟩), .pointer (some ⟨b2, 0, none⟩)] w fun xe w' => xe = .returned (fracV q) ∧ Below w.heap.size w w' := by
 replace HR := Lib.hid HR
 replace HD := Lib.hid HD
 replace hKC := Lib.hid hKC
 have hL0 : GL w w [] := GL.start w
 have hb0 : Below w.heap.size w (w.alloc (.cells #[.int .u64 0, .string ⟨#[]⟩, .bool false, .int .u64 0, .string ⟨#[]⟩] 36)) := (Below.refl _ _).alloc (Nat.le_refl _) _
 replace c0 := keepsC hb0 c0
 replace c1 := keepsC hb0 c1
 replace c2 := keepsC hb0 c2
 replace c3 := keepsC hb0 c3
 replace kC := hKC.out _ _ hb0 kC
 replace hL0 := hL0.new rfl [.int .u64 0, .string ⟨#[]⟩, .bool false, .int .u64 0, .string ⟨#[]⟩] 36
 generalize hweq : w.alloc (.cells #[.int .u64 0, .string ⟨#[]⟩, .bool false, .int .u64 0, .string ⟨#[]⟩] 36) = x1 at hL0 c0 c1 c2 c3 kC
 clear hb0
 replace c0 := Lib.hid c0
 replace c1 := Lib.hid c1
 replace c2 := Lib.hid c2
 replace c3 := Lib.hid c3
 replace kC := Lib.hid kC
 go_enter Tryz.func161, Tryz.ntmps161
 go_upto_region 1 with fail
 clear hweq
 obtain ⟨α, iα, F, hF1, hF2⟩ := cls x1
 have hq0 : ∀ yz, (F yz).cell? ⟨b1, 0, none⟩ = some (.int .i64 (r : Int)) := fun yz => keepsC (hF1 yz) c0.out
 have hq1 : ∀ yz, (F yz).cell? ⟨b1, 1, none⟩ = some (.int .i64 (c : Int)) := fun yz => keepsC (hF1 yz) c1.out
 have hq2 : ∀ yz, (F yz).cell? ⟨b1, 2, none⟩ = some (.slice ao n d) := fun yz => keepsC (hF1 yz) c2.out
 have hq3 : ∀ yz, (F yz).cell? ⟨b2, 0, none⟩ = some (v) := fun yz => keepsC (hF1 yz) c3.out
 have kC1 := kC.out
 refine region_qs 5 (C := fun w' => ∃ x, w' = F x) (by kernel_rfl) (by kernel_rfl) (cls_drew hF2) ?_
 simp only [zT]
 repeat (go_big_quiet_step (first | fail | (go_at_call 108; with_reducible exact cls_call hF1 hF2 HR.out _) | (go_at_call 107; with_reducible exact cls_callK hKC.out hF1 hF2 kC1 HD.out _)))
 refine wpQuiet_nil ?_
 rintro wq ⟨xq, rfl⟩
 replace hL0 := hL0.call (hF1 xq)
 clear hq0 hq1 hq2 hq3 hF2 kC1
 generalize F xq = x2 at hL0 ⊢
 clear hF1 xq iα F α
 have hA := hL0.fc
 simp only [zF, Nat.reduceAdd] at hA
 have hPt := hL0.put 0 (w.heap.size) _ rfl [.int .u64 ((zl q.num : Nat) : Int), .string (zh q.num), .bool (zs q.num), .int .u64 ((lo (fe q) : Nat) : Int), .string (hs (fe q))] rfl
 simp only [setAll, List.set_cons_zero, List.set_cons_succ] at hPt
 generalize hput1 : (((((x2.setCell ⟨w.heap.size, 0, none⟩ (.int .u64 ((zl q.num : Nat) : Int))).setCell ⟨w.heap.size, 1, none⟩ (.string (zh q.num))).setCell ⟨w.heap.size, 2, none⟩ (.bool (zs q.num))).setCell ⟨w.heap.size, 3, none⟩ (.int .u64 ((lo (fe q) : Nat) : Int))).setCell ⟨w.heap.size, 4, none⟩ (.string (hs (fe q)))) = x9 at hPt
 have hB1 := hPt.fc
 simp only [zF, Nat.reduceAdd] at hB1
 go_wp2_with fail
 exact bodyPost_ret (v := fracV q) (by simp [results, Tryz.results161, go_sem, hB1]) rfl ⟨rfl, hPt.bl⟩
theorem mpart1_w (i k r c n d b1 b2 b3 gp np cp gq nq cq p q0 : Nat) (ao : Option Addr) (q : Rat) (KC : World → Prop) (hKC : Keeps KC) (HA : ∀ w, KC w → Calls Tryz.prog 92 #[.agg #[.int .i64 (r : Int), .int .i64 (c : Int), .slice ao n d], .int .i64 (p : Int), .int .i64 (q0 : Int)] w fun xe w' => xe = .returned (fracV q) ∧ Below w.heap.size w w') (hi : i < np) (hk : k < nq) (w : World) (kC : KC w) (c0 : w.cell? ⟨b1, 0, none⟩ = some (.int .i64 (r : Int))) (c1 : w.cell? ⟨b1, 1, none⟩ = some (.int .i64 (c : Int))) (c2 : w.cell? ⟨b1, 2, none⟩ = some (.slice ao n d)) (c3 : w.cell? ⟨b2, 0, none⟩ = some (.slice (some ⟨gp, 0, none⟩) np cp)) (c4 : w.cell? ⟨b3, 0, none⟩ = some (.slice (some ⟨gq, 0, none⟩) nq cq)) (c5 : w.cell? ⟨gp, i, none⟩ = some (.int .i64 (p : Int))) (c6 : w.cell? ⟨gq, k, none⟩ = some (.int .i64 (q0 : Int))) :
  Calls Tryz.prog 97 #[.int .i64 (i : Int), .int .i64 (k : Int), .pointer (some ⟨b1, 0, none⟩), .pointer (some ⟨b2, 0, none⟩), .pointer (some ⟨b3, 0, none⟩)] w fun xe w' => xe = .returned (fracV q) ∧ Below w.heap.size w w' := by
 replace HA := Lib.hid HA
 replace hKC := Lib.hid hKC
 have k0 : (0 : Int) ≤ (i : Int) := Int.natCast_nonneg _
 have k1 : (i : Int) < (np : Int) := by omega
 have k2 : (0 : Int) ≤ (k : Int) := Int.natCast_nonneg _
 have k3 : (k : Int) < (nq : Int) := by omega
 clear hi hk
 have hL0 : GL w w [] := GL.start w
 have hb0 : Below w.heap.size w (w.alloc (.cells #[.int .u64 0, .string ⟨#[]⟩, .bool false, .int .u64 0, .string ⟨#[]⟩] 36)) := (Below.refl _ _).alloc (Nat.le_refl _) _
 replace c0 := keepsC hb0 c0
 replace c1 := keepsC hb0 c1
 replace c2 := keepsC hb0 c2
 replace c3 := keepsC hb0 c3
 replace c4 := keepsC hb0 c4
 replace c5 := keepsC hb0 c5
 replace c6 := keepsC hb0 c6
 replace kC := hKC.out _ _ hb0 kC
 replace hL0 := hL0.new rfl [.int .u64 0, .string ⟨#[]⟩, .bool false, .int .u64 0, .string ⟨#[]⟩] 36
 generalize hweq : w.alloc (.cells #[.int .u64 0, .string ⟨#[]⟩, .bool false, .int .u64 0, .string ⟨#[]⟩] 36) = x1 at hL0 c0 c1 c2 c3 c4 c5 c6 kC
 clear hb0
 replace c0 := Lib.hid c0
 replace c1 := Lib.hid c1
 replace c2 := Lib.hid c2
 replace c3 := Lib.hid c3
 replace c4 := Lib.hid c4
 replace c5 := Lib.hid c5
 replace c6 := Lib.hid c6
 replace kC := Lib.hid kC
 go_enter Tryz.func97, Tryz.ntmps97
 go_upto_region 1 with fail
 clear hweq
 obtain ⟨α, iα, F, hF1, hF2⟩ := cls x1
 have hq0 : ∀ yz, (F yz).cell? ⟨b1, 0, none⟩ = some (.int .i64 (r : Int)) := fun yz => keepsC (hF1 yz) c0.out
 have hq1 : ∀ yz, (F yz).cell? ⟨b1, 1, none⟩ = some (.int .i64 (c : Int)) := fun yz => keepsC (hF1 yz) c1.out
 have hq2 : ∀ yz, (F yz).cell? ⟨b1, 2, none⟩ = some (.slice ao n d) := fun yz => keepsC (hF1 yz) c2.out
 have hq3 : ∀ yz, (F yz).cell? ⟨b2, 0, none⟩ = some (.slice (some ⟨gp, 0, none⟩) np cp) := fun yz => keepsC (hF1 yz) c3.out
 have hq4 : ∀ yz, (F yz).cell? ⟨b3, 0, none⟩ = some (.slice (some ⟨gq, 0, none⟩) nq cq) := fun yz => keepsC (hF1 yz) c4.out
 have hq5 : ∀ yz, (F yz).cell? ⟨gp, i, none⟩ = some (.int .i64 (p : Int)) := fun yz => keepsC (hF1 yz) c5.out
 have hq6 : ∀ yz, (F yz).cell? ⟨gq, k, none⟩ = some (.int .i64 (q0 : Int)) := fun yz => keepsC (hF1 yz) c6.out
 have kC1 := kC.out
 refine region_qs 10 (C := fun w' => ∃ x, w' = F x) (by kernel_rfl) (by kernel_rfl) (cls_drew hF2) ?_
 simp only [zT]
 repeat (go_big_quiet_step (first | fail | (go_at_call 92; with_reducible exact cls_callK hKC.out hF1 hF2 kC1 HA.out _)))
 refine wpQuiet_nil ?_
 rintro wq ⟨xq, rfl⟩
 replace hL0 := hL0.call (hF1 xq)
 clear hq0 hq1 hq2 hq3 hq4 hq5 hq6 hF2 kC1
 generalize F xq = x2 at hL0 ⊢
 clear hF1 xq iα F α
 have hA := hL0.fc
 simp only [zF, Nat.reduceAdd] at hA
 have hPt := hL0.put 0 (w.heap.size) _ rfl [.int .u64 ((zl q.num : Nat) : Int), .string (zh q.num), .bool (zs q.num), .int .u64 ((lo (fe q) : Nat) : Int), .string (hs (fe q))] rfl
 simp only [setAll, List.set_cons_zero, List.set_cons_succ] at hPt
 generalize hput1 : (((((x2.setCell ⟨w.heap.size, 0, none⟩ (.int .u64 ((zl q.num : Nat) : Int))).setCell ⟨w.heap.size, 1, none⟩ (.string (zh q.num))).setCell ⟨w.heap.size, 2, none⟩ (.bool (zs q.num))).setCell ⟨w.heap.size, 3, none⟩ (.int .u64 ((lo (fe q) : Nat) : Int))).setCell ⟨w.heap.size, 4, none⟩ (.string (hs (fe q)))) = x9 at hPt
 have hB1 := hPt.fc
 simp only [zF, Nat.reduceAdd] at hB1
 go_wp2_with fail
 exact bodyPost_ret (v := fracV q) (by simp [results, Tryz.results97, go_sem, hB1]) rfl ⟨rfl, hPt.bl⟩
end Go.Proofs.YthffglapmkkohaaGreatDoor
namespace Go.Proofs.YthffglapmkkohaaGreatDoor
open Go.RowKit
attribute [local irreducible] lo hs sm s64 c64 d64 b64 mh ml pd pc qd qc val hiB str cmpI srD lz nb zl zh zs fe rowV tabV gv bsV tabM
theorem enmturn : ∀ (args : Array Value) (w : World), (callFunc 156 args).run Tryz.prog w = .ok (.enter 156 args) w := enters_of Tryz.func156 (by kernel_rfl) rfl
theorem enmapp : ∀ (args : Array Value) (w : World), (callFunc 161 args).run Tryz.prog w = .ok (.enter 161 args) w := enters_of Tryz.func161 (by kernel_rfl) rfl
theorem enmpart : ∀ (args : Array Value) (w : World), (callFunc 97 args).run Tryz.prog w = .ok (.enter 97 args) w := enters_of Tryz.func97 (by kernel_rfl) rfl
/-- The dot product. -/
theorem mdotV (x y : List Rat) (n k : Nat) (hx : x.length = n) (hy : y.length = n) (hn : n ≤ 1000) (hk : n * (k + k + 1) ≤ 9000000) (hk2 : k + k ≤ 2000000) (sx : ∀ q ∈ x, Sz q k) (sy : ∀ q ∈ y, Sz q k) (va vb : Value) (w : World) (hv : RQ w va x) (hu : RQ w vb y) :
  Calls Tryz.prog 107 #[va, vb] w fun xe w' => xe = .returned (fracV (bsV n fun i => gv x i * gv y i)) ∧ Below w.heap.size w w' := by
 have HD := fun (w : World) (h : RQ w va x ∧ RQ w vb y) => mDotV x y n k hx hy hn hk hk2 sx sy va vb w h.1 h.2
 generalize bsV n (fun i => gv x i * gv y i) = q at HD ⊢
 obtain ⟨aa, ca, rfl⟩ := hv.form
 obtain ⟨ab, cb, rfl⟩ := hu.form
 have HD1 := Lib.hid HD
 clear HD
 have hL0 : GL w w [] := GL.start w
 obtain ⟨x1, hweq, hL0⟩ := GL.named (hL0.new rfl [.int .u64 0, .string ⟨#[]⟩, .bool false, .int .u64 0, .string ⟨#[]⟩] 36)
 have hv1 := Lib.hid (hv.below hL0.bl)
 have hu1 := Lib.hid (hu.below hL0.bl)
 clear hv hu hx hy sx sy hn hk hk2
 go_enter Tryz.func107, Tryz.ntmps107
 go_wp2_with fail
 with_reducible refine Calls.mono (HD1.out _ ⟨hv1.out, hu1.out⟩) ?_
 rintro e y1 ⟨rfl, hb⟩
 replace hL0 := hL0.call hb
 clear hb hweq hv1 hu1
 have hL1 := hL0.new rfl [.int .u64 0, .string ⟨#[]⟩, .bool false, .int .u64 0, .string ⟨#[]⟩] 36
 generalize hweq : y1.alloc (.cells #[.int .u64 0, .string ⟨#[]⟩, .bool false, .int .u64 0, .string ⟨#[]⟩] 36) = y2 at hL1
 have hP := hL1.put 0 (y1.heap.size) _ rfl [.int .u64 ((zl q.num : Nat) : Int), .string (zh q.num), .bool (zs q.num), .int .u64 ((lo (fe q) : Nat) : Int), .string (hs (fe q))] rfl
 simp only [setAll, List.set_cons_zero, List.set_cons_succ] at hP
 have hA := hL1.fc
 simp only [zF, Nat.reduceAdd] at hA
 generalize hput0 : (((((y2.setCell ⟨y1.heap.size, 0, none⟩ (.int .u64 ((zl q.num : Nat) : Int))).setCell ⟨y1.heap.size, 1, none⟩ (.string (zh q.num))).setCell ⟨y1.heap.size, 2, none⟩ (.bool (zs q.num))).setCell ⟨y1.heap.size, 3, none⟩ (.int .u64 ((lo (fe q) : Nat) : Int))).setCell ⟨y1.heap.size, 4, none⟩ (.string (hs (fe q)))) = y3 at hP
 clear hL0 hL1
 have hL0 := hP
 clear hP
 have hB0 := hL0.fc
 simp only [zF, Nat.reduceAdd] at hB0
 have hPt := hL0.put 1 (w.heap.size) _ rfl [.int .u64 ((zl q.num : Nat) : Int), .string (zh q.num), .bool (zs q.num), .int .u64 ((lo (fe q) : Nat) : Int), .string (hs (fe q))] rfl
 simp only [setAll, List.set_cons_zero, List.set_cons_succ] at hPt
 generalize hput1 : (((((y3.setCell ⟨w.heap.size, 0, none⟩ (.int .u64 ((zl q.num : Nat) : Int))).setCell ⟨w.heap.size, 1, none⟩ (.string (zh q.num))).setCell ⟨w.heap.size, 2, none⟩ (.bool (zs q.num))).setCell ⟨w.heap.size, 3, none⟩ (.int .u64 ((lo (fe q) : Nat) : Int))).setCell ⟨w.heap.size, 4, none⟩ (.string (hs (fe q)))) = y9 at hPt
 have hB1 := hPt.fc
 simp only [zF, Nat.reduceAdd] at hB1
 go_wp2_with fail
 exact bodyPost_ret (v := fracV q) (by simp [results, Tryz.results107, go_sem, hB1]) rfl ⟨rfl, hPt.bl⟩
theorem mturn_at (x : Mx) (hx : OKM x) (b1 : Nat) (u : Value) (i k : Nat) (hi : i < x.c) (hk : k < x.r) (w : World) (hw : BM w b1 u x) :
  Calls Tryz.prog 156 (#[.int .i64 (i : Int), .int .i64 (k : Int)] ++ #[.pointer (some ⟨b1, 0, none⟩)]) w fun xe w' => xe = .returned (fracV (ent x k i)) ∧ Below w.heap.size w w' := by
 obtain ⟨ao, d, rfl, -⟩ := hw.2.2.2.form
 exact mturn1_w i k x.r x.c x.l.length d b1 ao (ent x k i) (fun w => CQ w _ x.l) (CQ.keeps _ _) (fun w h => matV x hx k i hk hi _ w h) w hw.2.2.2 hw.1 hw.2.1 hw.2.2.1
theorem mapp_at (x : Mx) (v : List Rat) (K : Nat) (hx : OKM x) (hv : v.length = x.c) (h1 : x.c ≤ 1000) (h2 : x.c * (K + K + 1) ≤ 9000000) (h3 : K + K ≤ 2000000) (sx : ∀ q ∈ x.l, Sz q K) (sv : ∀ q ∈ v, Sz q K) (b1 b2 : Nat) (u s : Value) (i k : Nat) (hi : i < x.r) (w : World) (hw : BM w b1 u x ∧ RQ w s v ∧ w.cell? ⟨b2, 0, none⟩ = some s) :
  Calls Tryz.prog 161 (#[.int .i64 (i : Int), .int .i64 (k : Int)] ++ #[.pointer (some ⟨b1, 0, none⟩), .pointer (some ⟨b2, 0, none⟩)]) w fun xe w' => xe = .returned (fracV (bsV x.c fun t => ent x i t * gv v t)) ∧ Below w.heap.size w w' := by
 obtain ⟨hb, hs, hc⟩ := hw
 obtain ⟨a2, g1, g2⟩ := mrowV x hx i hi u w hb.2.2.2
 obtain ⟨ao, d, rfl, -⟩ := hb.2.2.2.form
 have HD := fun (w : World) (h : RQ w (.slice a2 x.c x.c) (rowL x i) ∧ RQ w s v) => mdotV (rowL x i) v x.c K (row_len x i) hv h1 h2 h3 (fun q hq => by
  obtain ⟨t, ht, rfl⟩ := tab_mem hq
  exact sx _ (gv_mem (by rw [hx.len]; exact ix_lt hi ht))) sv _ _ w h.1 h.2
 rw [bs_congr (g := fun t => ent x i t * gv v t) fun t ht => by rw [gv_row ht]] at HD
 exact mapp1_w i k x.r x.c x.l.length d b1 b2 ao _ s _ _ (Keeps.and (RQ.keeps _ _) (RQ.keeps _ _)) g1 HD w ⟨g2, hs⟩ hb.1 hb.2.1 hb.2.2.1 hc
theorem mpart_at (x : Mx) (hx : OKM x) (ps qs : List Nat) (hp : ∀ p ∈ ps, p < x.r) (hq : ∀ p ∈ qs, p < x.c) (b1 b2 b3 : Nat) (u va vb : Value) (i k : Nat) (hi : i < ps.length) (hk : k < qs.length) (w : World) (hw : BM w b1 u x ∧ ILs w va (ps.map Int.ofNat) ∧ ILs w vb (qs.map Int.ofNat) ∧ w.cell? ⟨b2, 0, none⟩ = some va ∧ w.cell? ⟨b3, 0, none⟩ = some vb) :
  Calls Tryz.prog 97 (#[.int .i64 (i : Int), .int .i64 (k : Int)] ++ #[.pointer (some ⟨b1, 0, none⟩), .pointer (some ⟨b2, 0, none⟩), .pointer (some ⟨b3, 0, none⟩)]) w fun xe w' => xe = .returned (fracV (ent x (ps.getD i 0) (qs.getD k 0))) ∧ Below w.heap.size w w' := by
 obtain ⟨hb, h1, h2, h3, h4⟩ := hw
 obtain ⟨ao, d, rfl, -⟩ := hb.2.2.2.form
 obtain ⟨ap, cp, gp, rfl, e1, e2⟩ := h1
 obtain ⟨aq, cr, gq, rfl, e3, e4⟩ := h2
 rw [List.length_map] at e1 e3 h3 h4
 obtain ⟨rfl, -⟩ := e1 (by omega)
 obtain ⟨rfl, -⟩ := e3 (by omega)
 have c1 := e2 i (by rw [List.length_map]; exact hi)
 have c2 := e4 k (by rw [List.length_map]; exact hk)
 rw [List.getElem_map] at c1 c2
 rw [getN hi, getN hk]
 exact mpart1_w i k x.r x.c x.l.length d b1 b2 b3 gp ps.length cp gq qs.length cr ps[i] qs[k] ao _ (fun w => CQ w _ x.l) (CQ.keeps _ _) (fun w h => matV x hx _ _ (hp _ (List.getElem_mem hi)) (hq _ (List.getElem_mem hk)) _ w h) hi hk w hb.2.2.2 hb.1 hb.2.1 hb.2.2.1 h3 h4 c1 c2
end Go.Proofs.YthffglapmkkohaaGreatDoor
namespace Go.Proofs.YthffglapmkkohaaGreatDoor
open Go.RowKit
attribute [local irreducible] lo hs sm s64 c64 d64 b64 mh ml pd pc qd qc val hiB str cmpI srD lz nb zl zh zs fe rowV tabV gv bsV tabM
theorem mfaultWith_w (r q n d m c g : Nat) (a ao : Option Addr) (ln : Nat → Nat) (h1 : r ≤ 2048) (h2 : q ≤ 2048) (h3 : n = r * q) (hm : m ≤ 100000) (hln : ∀ i, i < m → ln i ≤ 2048) (w : World)
  (hx : 0 < m → ao = some ⟨g, 0, none⟩) (hc : ∀ i, i < m → ∃ a d, w.cell? ⟨g, i, none⟩ = some (.slice a (ln i) d)) :
  Calls Tryz.prog 116 #[.agg #[.int .i64 (r : Int), .int .i64 (q : Int), .slice a n d], .slice ao m c] w fun xe w' => xe = .returned (.int .i64 0) ∧ Below w.heap.size w w' := by
 have HK := Lib.hid (mcheck_ok r q n d a h1 h2 h3)
 clear h1 h2 h3
 replace hm := Lib.hid hm
 replace hln := Lib.hid hln
 replace hx := Lib.hid hx
 have hL0 : GL w w [] := GL.start w
 obtain ⟨x1, hweq, hL0⟩ := GL.named (hL0.new rfl [.int .i64 (r : Int), .int .i64 (q : Int), .slice a n d] 56)
 have hA := hL0.fc
 simp only [zF, Nat.reduceAdd] at hA
 go_enter Tryz.func116, Tryz.ntmps116
 go_wp2_with fail
 with_reducible refine Calls.mono (HK.out _) ?_
 rintro e y1 ⟨rfl, hb⟩
 replace hL0 := hL0.call hb
 clear hb hA hweq
 have hbl := hL0.bl
 clear hL0
 replace hc := Lib.hid hc
 go_wp2_with fail
 go_loopg [15] m (fun gk iv wr => ∃ (k : Nat) (zi : Int), k + gk = m ∧ iv = .int .i64 zi ∧ zi = (k : Int) ∧ Below w.heap.size w wr)
 case atStart => exact ⟨0, 0, Nat.zero_add m, by first | rfl | go_num, rfl, hbl⟩
 case round =>
  clear hbl
  obtain ⟨k, zi, hik, rfl, hzi, hbl⟩ := hrel
  have hmm := hm.out
  rcases Nat.lt_or_ge k m with hin | hin
  ·subst hzi
   have k1 : (k : Int) < (m : Int) := by omega
   have k0 : (0 : Int) ≤ (k : Int) := Int.natCast_nonneg _
   have kb : (k : Int) ≤ 100000 := by omega
   obtain ⟨a2, d2, hcell⟩ := hc.out k hin
   replace hcell := keepsC hbl hcell
   have hl := hln.out k hin
   have e0 := hx.out (by omega)
   subst e0
   have l1 : ¬ (2048 : Int) < (ln k : Int) := by omega
   have l2 : ¬ 2048 < ln k := by omega
   generalize ln k = lk at *
   replace hbl := Lib.hid hbl
   go_wp2_with fail
   go_roundg (m - (k + 1))
   case measure => omega
   case rel => exact ⟨k + 1, _, by omega, by first | rfl | go_num, by omega, hbl.out⟩
  ·obtain rfl : k = m := by omega
   subst hzi
   have k1 : ¬ (k : Int) < (k : Int) := by omega
   replace hbl := Lib.hid hbl
   go_wp2_with fail
   exact bodyPost_ret (v := .int .i64 0) (by simp [results, Tryz.results116, go_sem]) rfl ⟨rfl, hbl.out⟩
theorem mfaultWith1 (x : Mx) (hx : OKM x) (v : List Rat) (hv : v.length ≤ 2048) (g : Nat) (u s : Value) (w : World) (hu : CQ w u x.l) (hs : SlQ w s v) (hd : Hd w g [s]) :
  Calls Tryz.prog 116 #[.agg #[.int .i64 (x.r : Int), .int .i64 (x.c : Int), u], .slice (some ⟨g, 0, none⟩) 1 1] w fun xe w' => xe = .returned (.int .i64 0) ∧ Below w.heap.size w w' := by
 obtain ⟨ao, d, rfl, -⟩ := hu.form
 obtain ⟨a2, d2, rfl⟩ := slq_form' hs
 refine mfaultWith_w x.r x.c x.l.length d 1 1 g ao _ (fun _ => v.length) hx.r hx.c hx.len (by omega) (fun i _ => hv) w (fun _ => rfl) fun i hi => ?_
 obtain rfl : i = 0 := by omega
 exact ⟨a2, d2, hd.cell 0 (by simp)⟩
theorem mturnedV (x : Mx) (hx : OKM x) (hn : x.r * x.c ≤ 100000) (u : Value) (w : World) (hu : CQ w u x.l) :
  Calls Tryz.prog 104 #[.agg #[.int .i64 (x.r : Int), .int .i64 (x.c : Int), u]] w fun xe w' => ∃ v, xe = .returned (.agg #[.int .i64 (x.c : Int), .int .i64 (x.r : Int), v]) ∧ NV w.heap.size (tabM x.c x.r fun i k => ent x k i).l v w' ∧ Below w.heap.size w w' := by
 have hL0 : GL w w [] := GL.start w
 obtain ⟨x1, hweq, hL0⟩ := GL.named ((hL0.new rfl [.int .i64 (x.r : Int), .int .i64 (x.c : Int), u] 56).new (K := w.heap.size + 1) (szA _ _) [.int .i64 0, .int .i64 0, .slice none 0 0] 56)
 have hu1 := hu.below hL0.bl
 have hB := BM.of (hL0.get _ _ (mK mZ)) hu1
 have HC := mbuild_w 156 #[.pointer (some ⟨w.heap.size, 0, none⟩)] enmturn x.c x.r (fun i k => ent x k i) (fun w => BM w _ u x) (BM.keeps _ _ _) (fun i k hi hk w h => mturn_at x hx _ u i k hi hk w h) hx.c hx.r (by rw [Nat.mul_comm]; exact hn) x1 hB
 generalize (tabM x.c x.r fun i k => ent x k i).l = tl at HC ⊢
 obtain ⟨ao, d, rfl, -⟩ := hu.form
 replace HC := Lib.hid HC
 clear hu hu1 hB hx hn
 have hA := hL0.fc
 simp only [zF, Nat.reduceAdd] at hA
 go_enter Tryz.func104, Tryz.ntmps104
 have hx0 := Lib.hid hL0
 go_wp2_with fail
 with_reducible refine Calls.mono (HC.out) ?_
 rintro e y1 ⟨u, rfl, hnv, hb⟩
 replace hL0 := hL0.call hb
 clear hb hA hweq
 replace hx0 := hx0.out
 obtain ⟨gu, rfl, hge, hHd⟩ := hnv
 replace hL0 := GL.tnew (M := []) hL0 hx0 hHd hge (fun p hp => by cases hp)
 simp only [List.nil_append] at hL0
 have hge2 := Lib.hid (Nat.le_trans hx0.bl.size hge)
 clear hx0 hge hHd
 have hA := cells_of _ 0 [] rfl (hL0.get _ _ (mK mZ))
 simp only [zF, Nat.reduceAdd] at hA
 have zf := (hL0.get _ _ (mK mZ)).frz
 have hPt := hL0.put 1 (w.heap.size + 1) _ rfl [.int .i64 (x.c : Int), .int .i64 (x.r : Int), .slice (some ⟨gu, 0, none⟩) tl.length tl.length] rfl
 simp only [setAll, List.set_cons_zero, List.set_cons_succ] at hPt
 generalize hput1 : (((y1.setCell ⟨w.heap.size + 1, 0, none⟩ (.int .i64 (x.c : Int))).setCell ⟨w.heap.size + 1, 1, none⟩ (.int .i64 (x.r : Int))).setCell ⟨w.heap.size + 1, 2, none⟩ (.slice (some ⟨gu, 0, none⟩) tl.length tl.length)) = y2 at hPt
 have hB1 := cells_of _ 0 [] rfl (hPt.get _ _ (mK mZ))
 simp only [zF, Nat.reduceAdd] at hB1
 have hNV : NV w.heap.size tl (.slice (some ⟨gu, 0, none⟩) tl.length tl.length) y2 := ⟨gu, rfl, hge2.out, hPt.get _ _ mZ⟩
 replace hNV := Lib.hid hNV
 clear hL0 hge2
 go_wp2_with fail
 exact bodyPost_ret (v := .agg #[.int .i64 (x.c : Int), .int .i64 (x.r : Int), .slice (some ⟨gu, 0, none⟩) tl.length tl.length]) (by simp [results, Tryz.results104, go_sem, hB1]) rfl ⟨_, rfl, hNV.out, hPt.bl⟩
theorem m_field2 (r c : Int) (a : Option Addr) (n d : Nat) (w : World) : (Instr.field 56 (.agg #[.int .i64 r, .int .i64 c, .slice a n d]) 2).run Tryz.prog w = .ok (.slice a n d) w := by
 simp [go_sem, Instr.field, asAgg]
theorem tab_col (r : Nat) (f : Nat → Rat) : (tabM r 1 fun i _ => f i).l = tabV r f := by
 unfold tabM
 show tabV (r * 1) (fun p => f (p / 1)) = tabV r f
 rw [Nat.mul_one]
 exact tab_ext fun i _ => by rw [Nat.div_one]
theorem mappliedV (x : Mx) (v : List Rat) (K : Nat) (hx : OKM x) (hv : v.length = x.c) (h1 : x.c ≤ 1000) (h2 : x.c * (K + K + 1) ≤ 9000000) (h3 : K + K ≤ 2000000) (sx : ∀ q ∈ x.l, Sz q K) (sv : ∀ q ∈ v, Sz q K) (u s : Value) (w : World) (hu : CQ w u x.l) (hs : SlQ w s v) :
  Calls Tryz.prog 117 #[.agg #[.int .i64 (x.r : Int), .int .i64 (x.c : Int), u], s] w fun xe w' => ∃ t, xe = .returned t ∧ NV w.heap.size (tabV x.r fun i => bsV x.c fun t => ent x i t * gv v t) t w' ∧ Below w.heap.size w w' := by
 rw [← tab_col]
 have hL0 : GL w w [] := GL.start w
 obtain ⟨x1, hweq, hL0⟩ := GL.named ((hL0.new rfl [.int .i64 (x.r : Int), .int .i64 (x.c : Int), u] 56).new (K := w.heap.size + 1) (szA _ _) [s] 28)
 have hu1 := hu.below hL0.bl
 have hs1 := hs.below hL0.bl
 have hB := BM.of (hL0.get _ _ (mK mZ)) hu1
 have hc1 := (hL0.get _ _ mZ).cell 0 (by simp)
 simp only [List.getElem_cons_zero, List.getElem_cons_succ] at hc1
 have HC := mbuild_w 161 #[.pointer (some ⟨w.heap.size, 0, none⟩), .pointer (some ⟨w.heap.size + 1, 0, none⟩)] enmapp x.r 1 (fun i _ => bsV x.c fun t => ent x i t * gv v t) (fun w => BM w _ u x ∧ RQ w s v ∧ w.cell? ⟨_, 0, none⟩ = some s) (Keeps.and (BM.keeps _ _ _) (Keeps.and (RQ.keeps _ _) (keepsB _ _))) (fun i k hi hk w h => mapp_at x v K hx hv h1 h2 h3 sx sv _ _ u s i k hi w h) hx.r (by omega) (by have := hx.r; omega) x1 ⟨hB, hs1.rq, hc1⟩
 generalize (tabM x.r 1 fun i _ => bsV x.c fun t => ent x i t * gv v t).l = tl at HC ⊢
 obtain ⟨ao, d, rfl, -⟩ := hu.form
 obtain ⟨a5, d5, rfl⟩ := slq_form' hs
 replace HC := Lib.hid HC
 clear hu hu1 hB hs hs1 hc1 hx hv h1 h2 h3 sx sv
 have hA := hL0.fc
 simp only [zF, Nat.reduceAdd] at hA
 go_enter Tryz.func117, Tryz.ntmps117
 have hx0 := Lib.hid hL0
 go_wp2_with fail
 with_reducible refine Calls.mono (HC.out) ?_
 rintro e y1 ⟨u, rfl, hnv, hb⟩
 replace hL0 := hL0.call hb
 clear hb hA hweq
 have hNV := Lib.hid (hnv.mono hx0.out.bl.size)
 obtain ⟨gu, rfl, -, -⟩ := hnv
 clear hx0
 replace hL0 := Lib.hid hL0
 have hfd := fun W => m_field2 (x.r : Int) 1 (some ⟨gu, 0, none⟩) tl.length tl.length W
 go_wp2_with fail
 exact bodyPost_ret (v := .slice (some ⟨gu, 0, none⟩) tl.length tl.length) (by simp [results, Tryz.results117, go_sem]) rfl ⟨_, rfl, hNV.out, hL0.out.bl⟩
end Go.Proofs.YthffglapmkkohaaGreatDoor
namespace Go.Proofs.YthffglapmkkohaaGreatDoor
open Go.RowKit
attribute [local irreducible] lo hs sm s64 c64 d64 b64 mh ml pd pc qd qc val hiB str cmpI srD lz nb zl zh zs fe rowV tabV gv bsV tabM
theorem mTurnV (x : Mx) (hx : OKM x) (n1 : x.r * x.c ≤ 100000) (u : Value) (w : World) (hu : CQ w u x.l) :
  Calls Tryz.prog 41 #[.agg #[.int .i64 (x.r : Int), .int .i64 (x.c : Int), u]] w fun xe w' => ∃ v, xe = .returned (.tuple #[.agg #[.int .i64 (x.c : Int), .int .i64 (x.r : Int), v], .int .i64 0]) ∧ NV w.heap.size (tabM x.c x.r fun i k => ent x k i).l v w' ∧ Below w.heap.size w w' := by
 have HC := fun w h => mturnedV x hx n1 u w h
 have HK := fun (n d : Nat) (ao : Option Addr) (hn : n = x.r * x.c) => mcheck_ok x.r x.c n d ao hx.r hx.c hn
 have hlen := hx.len
 clear n1 hx
 generalize (tabM x.c x.r fun i k => ent x k i).l = tl at HC ⊢
 obtain ⟨ao, d, rfl, -⟩ := id hu.form
 replace HK := Lib.hid (HK x.l.length d ao hlen)
 clear hlen
 replace HC := Lib.hid HC
 have hL0 : GL w w [] := GL.start w
 obtain ⟨x1, hweq, hL0⟩ := GL.named ((hL0.new rfl [.int .i64 (x.r : Int), .int .i64 (x.c : Int), (.slice ao x.l.length d)] 56).new (K := w.heap.size + 1) (szA _ _) [.int .i64 0, .int .i64 0, .slice none 0 0] 56)
 have hu1 := Lib.hid (hu.below hL0.bl)
 clear hu
 have hA := hL0.fc
 simp only [zF, Nat.reduceAdd] at hA
 go_enter Tryz.func41, Tryz.ntmps41
 go_wp2_with fail
 with_reducible refine Calls.mono (HK.out _) ?_
 rintro e y1 ⟨rfl, hb⟩
 replace hu1 := Lib.hid (hu1.out.below hb)
 replace hL0 := hL0.call hb
 clear hb hA hweq HK
 have hx0 := Lib.hid hL0
 have hA := cells_of _ 0 [] rfl (hL0.get _ _ (mK mZ))
 simp only [zF, Nat.reduceAdd] at hA
 have zA := (hL0.get _ _ (mK mZ)).frz
 go_wp2_with fail
 with_reducible refine Calls.mono (HC.out _ hu1.out) ?_
 rintro e y4 ⟨u, rfl, hnv, hb⟩
 replace hL0 := hL0.call hb
 clear hb hA zA hu1 HC
 replace hx0 := hx0.out
 obtain ⟨gu, rfl, hge, hHd⟩ := hnv
 replace hL0 := GL.tnew (M := []) hL0 hx0 hHd hge (fun p hp => by cases hp)
 simp only [List.nil_append] at hL0
 have hge2 := Lib.hid (Nat.le_trans hx0.bl.size hge)
 clear hx0 hge hHd
 have hA := cells_of _ 0 [] rfl (hL0.get _ _ (mK mZ))
 simp only [zF, Nat.reduceAdd] at hA
 have zf := (hL0.get _ _ (mK mZ)).frz
 have hPt := hL0.put 1 (w.heap.size + 1) _ rfl [.int .i64 (x.c : Int), .int .i64 (x.r : Int), .slice (some ⟨gu, 0, none⟩) tl.length tl.length] rfl
 simp only [setAll, List.set_cons_zero, List.set_cons_succ] at hPt
 generalize hput1 : (((y4.setCell ⟨w.heap.size + 1, 0, none⟩ (.int .i64 (x.c : Int))).setCell ⟨w.heap.size + 1, 1, none⟩ (.int .i64 (x.r : Int))).setCell ⟨w.heap.size + 1, 2, none⟩ (.slice (some ⟨gu, 0, none⟩) tl.length tl.length)) = y5 at hPt
 have hB1 := cells_of _ 0 [] rfl (hPt.get _ _ (mK mZ))
 simp only [zF, Nat.reduceAdd] at hB1
 have hNV : NV w.heap.size tl (.slice (some ⟨gu, 0, none⟩) tl.length tl.length) y5 := ⟨gu, rfl, hge2.out, hPt.get _ _ mZ⟩
 replace hNV := Lib.hid hNV
 clear hL0 hge2
 go_wp2_with fail
 exact bodyPost_ret (v := .tuple #[.agg #[.int .i64 (x.c : Int), .int .i64 (x.r : Int), .slice (some ⟨gu, 0, none⟩) tl.length tl.length], .int .i64 0]) (by simp [results, Tryz.results41, go_sem, hB1]) rfl ⟨_, rfl, hNV.out, hPt.bl⟩
theorem mApplyV (x : Mx) (v : List Rat) (K : Nat) (hx : OKM x) (hv : v.length = x.c) (h1 : x.c ≤ 1000) (h2 : x.c * (K + K + 1) ≤ 9000000) (h3 : K + K ≤ 2000000) (sx : ∀ q ∈ x.l, Sz q K) (sv : ∀ q ∈ v, Sz q K) (u s : Value) (w : World) (hu : CQ w u x.l) (hs : SlQ w s v) :
  Calls Tryz.prog 48 #[.agg #[.int .i64 (x.r : Int), .int .i64 (x.c : Int), u], s] w fun xe w' => ∃ t, xe = .returned (.tuple #[t, .int .i64 0]) ∧ NV w.heap.size (tabV x.r fun i => bsV x.c fun t => ent x i t * gv v t) t w' ∧ Below w.heap.size w w' := by
 have HC := fun w h g => mappliedV x v K hx hv h1 h2 h3 sx sv u s w h g
 have HF := fun (g : Nat) (w : World) (a : CQ w u x.l) (b : SlQ w s v) (hd : Hd w g [s]) => mfaultWith1 x hx v (by rw [hv]; exact hx.c) g u s w a b hd
 clear h1 h2 h3 hx sx sv
 generalize (tabV x.r fun i => bsV x.c fun t => ent x i t * gv v t) = tl at HC ⊢
 obtain ⟨ao, d, rfl, -⟩ := id hu.form
 obtain ⟨a5, d5, rfl⟩ := slq_form' hs
 replace HC := Lib.hid HC
 rw [hv] at HC HF hs ⊢
 clear hv
 have hL0 : GL w w [] := GL.start w
 obtain ⟨x1, hweq, hL0⟩ := GL.named (hL0.new rfl [.int .i64 (x.r : Int), .int .i64 (x.c : Int), (.slice ao x.l.length d)] 56)
 have hu1 := hu.below hL0.bl
 have hs1 := hs.below hL0.bl
 have hZ := hL0.fc
 simp only [zF, Nat.reduceAdd] at hZ
 replace hL0 := (hL0.new rfl [.slice a5 x.c d5] 28)
 generalize hweq2 : (x1.alloc (.cells #[.slice a5 x.c d5] 28)) = x2 at hL0
 have hb2 : Below x1.heap.size x1 x2 := hweq2 ▸ ((Below.refl _ _).alloc (Nat.le_refl _) _)
 have hu2 := Lib.hid (hu1.below hb2)
 have hs2 := Lib.hid (hs1.below hb2)
 replace HF := Lib.hid (HF x1.heap.size x2 hu2.out hs2.out (hL0.get _ _ mZ))
 clear hu hs hu1 hs1 hb2
 have hA := hL0.fc
 simp only [zF, Nat.reduceAdd] at hA
 go_enter Tryz.func48, Tryz.ntmps48
 go_wp2_with fail
 with_reducible refine Calls.mono (HF.out) ?_
 rintro e y1 ⟨rfl, hb⟩
 replace hu2 := Lib.hid (hu2.out.below hb)
 replace hs2 := Lib.hid (hs2.out.below hb)
 replace hL0 := hL0.call hb
 clear hb hA hZ hweq hweq2 HF
 have hA := cells_of _ 0 [] rfl (hL0.get _ _ (mK mZ))
 simp only [zF, Nat.reduceAdd] at hA
 have hx0 := Lib.hid hL0
 go_wp2_with fail
 with_reducible refine Calls.mono (HC.out _ hu2.out hs2.out) ?_
 rintro e y4 ⟨u, rfl, hnv, hb⟩
 replace hL0 := hL0.call hb
 clear hb hA hu2 hs2 HC
 have hNV := Lib.hid (hnv.mono hx0.out.bl.size)
 obtain ⟨gu, rfl, -, -⟩ := hnv
 clear hx0
 replace hL0 := Lib.hid hL0
 go_wp2_with fail
 exact bodyPost_ret (v := .tuple #[.slice (some ⟨gu, 0, none⟩) tl.length tl.length, .int .i64 0]) (by simp [results, Tryz.results48, go_sem]) rfl ⟨_, rfl, hNV.out, hL0.out.bl⟩
end Go.Proofs.YthffglapmkkohaaGreatDoor
namespace Go.Proofs.YthffglapmkkohaaGreatDoor
open Go.RowKit
attribute [local irreducible] lo hs sm s64 c64 d64 b64 mh ml pd pc qd qc val hiB str cmpI srD lz nb zl zh zs fe rowV tabV gv bsV tabM
theorem own_mono9 {w : World} {B C sz n : Nat} {e : TypeId} {v : Value} {xs : List Value} (h : w.ownsRow B e sz v n xs) (hC : C ≤ B) : w.ownsRow C e sz v n xs :=
 ⟨h.1, h.2.imp id fun ⟨g, cap, cur, h1, h2, h3⟩ => ⟨g, cap, cur, h1, Nat.le_trans hC h2, h3⟩⟩
section
variable {B : Nat} {W W' : World} {g R n : Nat} {ru pu : Value} {bk : Nat → Nat} {G : Gd} {pv : List Nat} {f : Rat}
theorem GR.mono {C : Nat} (h : GR B W g ru pu R n bk G pv f) (hC : C ≤ B) : GR C W g ru pu R n bk G pv f :=
 ⟨h.hg, own_mono9 h.hr hC, own_mono9 h.hp hC, fun i hi => ⟨Nat.le_trans hC (h.hB i hi).1, (h.hB i hi).2⟩, h.inj, Nat.le_trans hC h.gB, Nat.le_trans hC h.bs, h.ng, h.nr, h.np, h.rg, h.pg, h.rp⟩
/-- A block that the grid does not hold. -/
structure NotIn (d g R : Nat) (ru pu : Value) (bk : Nat → Nat) : Prop where
 g : d ≠ g
 r : ru.ownBlock ≠ some d
 p : pu.ownBlock ≠ some d
 b : ∀ i, i < R → bk i ≠ d
theorem GR.fresh (h : GR B W g ru pu R n bk G pv f) {d : Nat} (hd : W.heap.size ≤ d) : NotIn d g R ru pu bk :=
 ⟨fun e => by have := h.hg.lt; omega, fun e => by have := (h.hr.lt d e).2; omega, fun e => by have := (h.hp.lt d e).2; omega, fun i hi e => by have := (h.hB i hi).2.lt; omega⟩
theorem GR.chs {S : Nat → Prop} (h : GR B W g ru pu R n bk G pv f) (hc : Chs S W W') (hs : ∀ d, S d → NotIn d g R ru pu bk) : GR B W' g ru pu R n bk G pv f :=
 ⟨h.hg.chs hc fun e => (hs _ e).g rfl, own_chs h.hr hc fun z hz e => (hs _ e).r hz, own_chs h.hp hc fun z hz e => (hs _ e).p hz, fun i hi => ⟨(h.hB i hi).1, (h.hB i hi).2.chs hc fun e => (hs _ e).b i hi rfl⟩, h.inj, h.gB, Nat.le_trans h.bs hc.size, h.ng, h.nr, h.np, h.rg, h.pg, h.rp⟩
/-- A row more. -/
theorem GR.grow (h : GR B W g ru pu R n bk G pv f) {v : Value} {d : Nat} {A : Nat → Rat} (hB : B ≤ d) (hn : NotIn d g R ru pu bk) (hd : Hd W d (frCs (tabV n A)))
  (ho : W'.ownsRow B 28 1 v (R + 1) (rwE n bk R ++ [.slice (some ⟨d, 0, none⟩) n n])) (hg : W.grownBy W' ru.ownBlock) (hv : v.ownBlock = ru.ownBlock ∨ v.ownBlock = some W.heap.size) :
  GR B (W'.setCell ⟨g, 0, none⟩ v) g v pu (R + 1) n (fun i => if i = R then d else bk i) (fun i => if i = R then A else G i) pv f ∧ Hd W' g (ru :: pu :: frC f) ∧ Upd g W' (W'.setCell ⟨g, 0, none⟩ v) := by
 have hc := Chs.of_grown hg
 have hu : Upd g W' (W'.setCell ⟨g, 0, none⟩ v) := (Upd.refl g W').setCell _ _
 have hc2 := Chs.of_upd hu
 have hG := h.hg.chs hc fun e => h.rg e.symm
 have hlt := h.hp.lt
 have hdl := hd.lt
 have hvg : v.ownBlock ≠ some g := by
  rcases hv with e | e
  ·rw [e]; exact h.rg
  ·rw [e]; intro e2; have := h.hg.lt; simp at e2; omega
 have e1 : rwE n bk R ++ [.slice (some ⟨d, 0, none⟩) n n] = rwE n (fun i => if i = R then d else bk i) (R + 1) := by
  unfold rwE
  rw [List.range_succ, List.map_append]
  congr 1
  ·exact List.map_congr_left fun i hi => by have := List.mem_range.1 hi; dsimp only; rw [if_neg (by omega)]
  ·simp
 rw [e1] at ho
 have key : ∀ i, i < R + 1 → i = R ∨ i < R := fun i hi => by omega
 refine ⟨⟨?_, ?_, own_chs (own_chs h.hp hc fun z hz e => h.rp z e.symm hz) hc2 fun z hz e => h.pg (e ▸ hz), fun i hi => ?_, fun i j hi hj e => ?_, h.gB, by rw [hu.size]; exact Nat.le_trans h.bs hg.size, fun i hi => ?_, fun i hi => ?_, fun i hi => ?_, hvg, h.pg, fun z hz => ?_⟩, hG, hu⟩
 ·exact hd_set hG 0 v (by simp)
 ·exact own_chs ho hc2 fun z hz e => hvg (e ▸ hz)
 ·rcases key i hi with e | e
  ·subst e; rw [if_pos rfl, if_pos rfl]
   exact ⟨hB, (hd.chs hc fun e => hn.r e.symm).chs hc2 hn.g⟩
  ·rw [if_neg (by omega), if_neg (by omega)]
   exact ⟨(h.hB i e).1, ((h.hB i e).2.chs hc fun e2 => h.nr i e e2.symm).chs hc2 (h.ng i e)⟩
 ·rcases key i hi with e1 | e1 <;> rcases key j hj with e2 | e2
  ·omega
  ·rw [if_pos e1, if_neg (by omega)] at e; exact absurd e.symm (hn.b j e2)
  ·rw [if_neg (by omega), if_pos e2] at e; exact absurd e (hn.b i e1)
  ·rw [if_neg (by omega), if_neg (by omega)] at e; exact h.inj i j e1 e2 e
 ·rcases key i hi with e | e
  ·rw [if_pos e]; exact hn.g
  ·rw [if_neg (by omega)]; exact h.ng i e
 ·have hw : ∀ b, b < W.heap.size → ru.ownBlock ≠ some b → v.ownBlock ≠ some b := fun b hb h1 => by
   rcases hv with e | e
   ·rw [e]; exact h1
   ·rw [e]; intro e2; simp at e2; omega
  rcases key i hi with e | e
  ·rw [if_pos e]; exact hw d hdl hn.r
  ·rw [if_neg (by omega)]; exact hw _ (h.hB i e).2.lt (h.nr i e)
 ·rcases key i hi with e | e
  ·rw [if_pos e]; exact hn.p
  ·rw [if_neg (by omega)]; exact h.np i e
 ·rcases hv with e | e
  ·rw [e] at hz; exact h.rp z hz
  ·rw [e] at hz; intro e2; have := (hlt z e2).2; simp at hz; omega
end
theorem row_slice2 {w : World} {ao : Option Addr} {n d : Nat} {x : Mx} (h : SlQ w (.slice ao n d) x.l) (hd : n ≤ d) (hl : x.l.length = x.r * x.c) (i : Nat) (hi : i < x.r) :
  ∃ a2 c2, (∀ W, (Instr.slice 27 (.slice ao n d) (some (.int .i64 ((i * x.c : Nat) : Int))) (some (.int .i64 (((i + 1) * x.c : Nat) : Int))) none).run Tryz.prog W = .ok (.slice a2 x.c c2) W) ∧ (0 < x.c → ∃ g o, a2 = some ⟨g, o, none⟩ ∧ FO w g o (rowL x i)) := by
 obtain ⟨a0, c0, e0, hf⟩ := slq_len h
 obtain ⟨rfl, rfl, rfl⟩ : ao = a0 ∧ n = x.l.length ∧ d = c0 := by simpa using e0
 have hle : (i + 1) * x.c ≤ x.r * x.c := Nat.mul_le_mul_right _ hi
 have hs1 : (i + 1) * x.c = i * x.c + x.c := by rw [Nat.add_mul, Nat.one_mul]
 rw [hs1]
 rw [hs1] at hle
 have h1 : i * x.c + x.c ≤ d := by omega
 obtain ⟨i0, hi0, hz1, hz2, hz3⟩ := info_parts infoFr
 have hsz : ∀ W, (sizeOf 36).run Tryz.prog W = .ok 5 W := fun W => by simp [sizeOf, typeInfo, hi0, hz2]
 generalize hP : i * x.c = p at *
 have b1 : (0 : Int) ≤ ((p + x.c : Nat) : Int) := by omega
 have b2 : ((p + x.c : Nat) : Int) ≤ (d : Int) := by omega
 have b4 : (0 : Int) ≤ ((p : Nat) : Int) := by omega
 have b5 : ((p : Nat) : Int) ≤ ((p + x.c : Nat) : Int) := by omega
 have b6 : p + x.c - p = x.c := by omega
 refine ⟨if d = p then ao else ao.map (·.add (p * 5)), d - p, fun W => ?_, fun h0 => ?_⟩
 ·generalize hE : p + x.c = e at *
  simp [Instr.slice, Instr.sliceBounds, run_underlying Tryz.underlying27, run_sliceBound, b1, b2, b4, b5, b6, hsz, go_sem] <;> first | rfl | (intro h; omega)
 ·obtain ⟨g, rfl, ff⟩ := hf (by omega)
  refine ⟨g, p * 5, ?_, fun k hk => ?_⟩
  ·rw [if_neg (by omega)]; simp [Addr.add]; try omega
  ·rw [row_len] at hk
   have := fsc ff (p + k) (by rw [hl, ← hP]; exact ix_lt hi hk)
   rw [gv_row hk]
   unfold ent
   rw [hP]
   simpa only [Nat.add_mul, Nat.add_assoc] using this
theorem undVV : Tryz.prog.underlying 28 = some (.slice 36) := by kernel_rfl
theorem Hd.belowB {w w' : World} {k B : Nat} {c : List Value} (h : Hd w k c) (hb : Below B w w') (hk : k < B) : Hd w' k c :=
 h.chs (S := fun k => ¬ k < B) ⟨hb.os, hb.tape, hb.output, hb.size, fun j _ hn => hb.block j (Classical.not_not.1 hn)⟩ fun e => e hk
/-- The rows of a matrix, with zeros behind. -/
def rowsE (x : Mx) : Gd := fun i j => if j < x.c then ent x i j else 0
theorem rows_laid (x : Mx) (i z : Nat) : laid (List.replicate (x.c + z) 0) 0 (rowL x i) = tabV (x.c + z) (rowsE x i) := by
 unfold rowL
 rw [rep_tab, laid_tab (by omega)]
 refine tab_ext fun p hp => ?_
 unfold rowsE
 by_cases h : p < x.c
 ·rw [if_pos h, if_pos (by omega), Nat.sub_zero]
 ·rw [if_neg h, if_neg (by omega)]
theorem egridOf_w (x : Mx) (hx : OKM x) (zn : Nat) (hz : zn ≤ 5000) (u : Value) (w : World) (hu : CQ w u x.l) :
  Calls Tryz.prog 109 #[.agg #[.int .i64 (x.r : Int), .int .i64 (x.c : Int), u], .int .i64 (zn : Int)] w fun e w' => (∃ g, e = .returned (.pointer (some ⟨g, 0, none⟩)) ∧ ∃ ru bk, GR w.heap.size w' g ru (.slice none 0 0) x.r (x.c + zn) bk (rowsE x) [] 1) ∧ Below w.heap.size w w' := by
 obtain ⟨ao, d, rfl, hcap⟩ := hu.form
 have hu := hu.1
 have hxr := hx.r
 have hxc := hx.c
 have hxl := Lib.hid hx.len
 obtain ⟨n, hn⟩ : ∃ n, n = x.c + zn := ⟨_, rfl⟩
 rw [← hn]
 have hmk := fun W => makeV W (n : Int) n rfl (by omega)
 have hnn : (x.c : Int) + (zn : Int) = (n : Int) := by omega
 have hn9 : (n : Int) ≤ 10000 := by omega
 have hn0 : (0 : Int) ≤ (n : Int) := Int.natCast_nonneg _
 replace hn := Lib.hid hn
 have HI : ∀ w, Calls Tryz.prog 12 #[.int .i64 1] w fun xe w' => xe = .returned (fracV 1) ∧ Below w.heap.size w w' := fun w => intF 1 (by decide) (by decide) w
 obtain ⟨o1, ho1⟩ : ∃ o : Rat, o = 1 := ⟨_, rfl⟩
 rw [← ho1] at HI ⊢
 clear ho1
 replace HI := Lib.hid HI
 have hL0 : GL w w [] := GL.start w
 obtain ⟨x1, hweq, hL0⟩ := GL.named (hL0.new rfl [.int .i64 (x.r : Int), .int .i64 (x.c : Int), .slice ao x.l.length d] 56)
 have hx1 : x1.heap.size = w.heap.size + 1 := by rw [← hweq]; simp
 replace hx1 := Lib.hid hx1
 go_enter Tryz.func109, Tryz.ntmps109
 go_wp2_with fail
 with_reducible refine Calls.mono (HI.out _) ?_
 rintro e x2 ⟨rfl, hb⟩
 have hbx : Below x1.heap.size x1 x2 := hb
 replace hL0 := hL0.call hb
 clear hb hweq
 have hN := (GL.start x2).new rfl (.slice none 0 0 :: .slice none 0 0 :: frC o1) 143
 unfold frC at hN
 generalize hweq : x2.alloc (.cells #[.slice none 0 0, .slice none 0 0, .int .u64 ((zl o1.num : Nat) : Int), .string (zh o1.num), .bool (zs o1.num), .int .u64 ((lo (fe o1) : Nat) : Int), .string (hs (fe o1))] 143) = x3 at hN
 have hgb : x2.heap.size ≥ w.heap.size + 1 := by have := hbx.size; have := hx1.out; omega
 have hG : GR (w.heap.size + 1) x3 x2.heap.size (.slice none 0 0) (.slice none 0 0) 0 (x.c + zn) (fun _ => 0) (rowsE x) [] o1 :=
  ⟨hN.get _ _ mZ, World.ownsRow_nil _ _ _ _, World.ownsRow_nil _ _ _ _, fun i hi => by omega, fun i j hi => by omega, hgb, by have := hN.bl.size; omega, fun i hi => by omega, fun i hi => by omega, fun i hi => by omega, (fun h => by cases h), (fun h => by cases h), fun z h => by cases h⟩
 have hb1 : Below (w.heap.size + 1) x2 x3 := hN.bl.mono hgb
 have hd1 := hL0.get _ _ mZ
 have hx1d : Hd x3 w.heap.size [.int .i64 (x.r : Int), .int .i64 (x.c : Int), .slice ao x.l.length d] := hd1.below hN.bl
 have hb0 : Below w.heap.size w x3 := hL0.bl.trans (hN.bl.mono hL0.bl.size)
 have e0 := hx1d.cell 0 (by simp)
 simp only [List.getElem_cons_zero] at e0
 clear hL0 hN
 rw [← hn.out] at hG
 go_wp2_with fail
 clear hweq e0 hx1d hbx hgb HI
 generalize x2.heap.size = g at *
 go_loopg [13] x.r (fun gk iv wr => ∃ (i : Nat) (zi : Int) (ru : Value) (bk : Nat → Nat), i + gk = x.r ∧ iv = .int .i64 zi ∧ zi = (i : Int) ∧ GR (w.heap.size + 1) wr g ru (.slice none 0 0) i n bk (rowsE x) [] o1 ∧ Below (w.heap.size + 1) x2 wr ∧ Below w.heap.size w wr)
 case atStart => exact ⟨0, 0, .slice none 0 0, _, Nat.zero_add x.r, by first | rfl | go_num, rfl, hG, hb1, hb0⟩
 case round =>
  clear hG hb1 hb0
  obtain ⟨i, zi, ru, bk, hir, rfl, hzi, hG, hb1, hb0⟩ := hrel
  rcases Nat.lt_or_ge i x.r with hi | hi
  ·subst hzi
   have k1 : (i : Int) < (x.r : Int) := by omega
   have k0 : (0 : Int) ≤ (i : Int) := Int.natCast_nonneg _
   have kb : (i : Int) ≤ 5000 := by omega
   have hB := hd1.belowB hb1 (Nat.lt_succ_self _)
   have hbs := hb1.size
   obtain ⟨ra, rc, hru⟩ := hG.rform
   subst hru
   have hN := (GL.start wr).new rfl (frCs (List.replicate n 0)) 36
   generalize hweq : wr.alloc (.cells (frCs (List.replicate n 0)).toArray 36) = y1 at hN
   have hnot := hG.fresh (Nat.le_refl _)
   have hdB : w.heap.size + 1 ≤ wr.heap.size := hG.bs
   have hdH := hN.get _ _ mZ
   have hB1 := hB.below hN.bl
   have e1 := hB.cell 1 (by simp)
   have e2 := hB1.cell 1 (by simp)
   have e3 := hB1.cell 2 (by simp)
   simp only [List.getElem_cons_zero, List.getElem_cons_succ] at e1 e2 e3
   have hu1 := (hu.below hb0).below (w' := y1) hN.bl
   obtain ⟨a2, c2, hsl, hfo⟩ := row_slice2 hu1 hcap hxl.out i hi
   obtain ⟨p, hp⟩ : ∃ p, p = i * x.c := ⟨_, rfl⟩
   obtain ⟨q, hq⟩ : ∃ q, q = (i + 1) * x.c := ⟨_, rfl⟩
   have hm1 : (i : Int) * (x.c : Int) = (p : Int) := by rw [hp, Int.natCast_mul]
   have hm2 : ((i : Int) + 1) * (x.c : Int) = (q : Int) := by rw [hq, Int.natCast_mul]; rfl
   rw [← hp, ← hq] at hsl
   have hpb : (p : Int) ≤ 10000000 := by have := Nat.mul_le_mul (show i ≤ 2048 by omega) hxc; omega
   have hqb : (q : Int) ≤ 10000000 := by have := Nat.mul_le_mul (show i + 1 ≤ 2048 by omega) hxc; omega
   clear hp hq
   replace hG := hG.below hN.bl
   replace hb1 := hb1.trans (hN.bl.mono hdB)
   replace hb0 := hb0.trans (hN.bl.mono (by omega))
   replace hfo := Lib.hid hfo
   replace hbs := Lib.hid hbs
   clear hB hu1 hN
   have hS : (rowL x i).length = Nat.min x.c n := by rw [row_len]; have := hn.out; exact (Nat.min_eq_left (by omega)).symm
   have hfit : 0 + (rowL x i).length ≤ (List.replicate n (0 : Rat)).length := by rw [row_len, List.length_replicate]; have := hn.out; omega
   have hpos : 0 < (rowL x i).length → ∃ g o, a2 = some ⟨g, o, none⟩ ∧ FO y1 g o (rowL x i) := fun h0 => hfo.out (by rw [row_len] at h0; exact h0)
   replace hS := Lib.hid hS
   replace hfit := Lib.hid hfit
   replace hpos := Lib.hid hpos
   replace hdH := Lib.hid hdH
   go_wp2_with (refine wp_copyF rfl _ _ _ _ rfl undVV (some ⟨wr.heap.size, 0, none⟩) a2 n n x.c c2 rfl rfl (rowL x i) hS.out wr.heap.size 0 (List.replicate n 0) hdH.out hfit.out (fun h0 => ⟨rfl, hpos.out h0⟩) ?_)
   intro y2 hH2 hup
   rw [hn.out, rows_laid, ← hn.out] at hH2
   have hc2 := Chs.of_upd hup
   replace hG := hG.chs hc2 fun d e => by rw [e]; exact hnot
   replace hb1 := hb1.trans (hup.below (by omega))
   replace hb0 := hb0.trans (hup.below (by omega))
   clear hup hc2 hpos hS hfit hdH hfo hsl e1 e2 e3 hweq hm1 hm2
   obtain ⟨d9, hd9⟩ : ∃ d, d = wr.heap.size := ⟨_, rfl⟩
   rw [← hd9] at hH2 hnot hdB ⊢
   clear hd9
   have hy2 : w.heap.size + 1 ≤ y2.heap.size := by have := hH2.lt; omega
   have hM := (GL.start y2).new rfl [.slice (some ⟨d9, 0, none⟩) n n] 28
   generalize hweq : y2.alloc (.cells #[.slice (some ⟨d9, 0, none⟩) n n] 28) = y3 at hM
   have g0 := hG.cells.1
   have hcu := (hM.get _ _ mZ).cell 0 (by simp)
   simp only [List.getElem_cons_zero] at hcu
   replace hG := hG.below hM.bl
   replace hH2 := hH2.below hM.bl
   replace hb1 := hb1.trans (hM.bl.mono hy2)
   replace hb0 := hb0.trans (hM.bl.mono (by omega))
   replace hcu := Lib.hid hcu
   clear hM
   go_wp2_with (at_builtin; refine wp_appendW rfl _ _ rfl (w.heap.size + 1) (.slice ra i rc) i (rwE n bk i) rfl hG.hr ⟨_, 0, none⟩ (.slice (some ⟨d9, 0, none⟩) n n) rfl 1 rfl hcu.out (by omega) hG.bs ?_)
   intro v' w8 h8 hgr hor
   obtain ⟨hG3, hHd, hup⟩ := hG.grow hdB hnot hH2 h8 hgr hor
   obtain ⟨va, vc, rfl⟩ := own_form12 h8
   have hgB2 := hG.gB
   have hpl := hG.hr.lt
   have hzz := hHd.frz
   have d0 := hHd.cell 0 (by simp)
   have d1 := hHd.cell 1 (by simp)
   simp only [List.getElem_cons_zero, List.getElem_cons_succ] at d0 d1
   have hgrb : Below (w.heap.size + 1) y3 w8 := (Chs.of_grown hgr).below hG.bs fun k hk e => by have := (hpl k e.symm).1; omega
   generalize hput : w8.setCell ⟨g, 0, none⟩ (.slice va (i + 1) vc) = y9 at hup hG3
   replace hb1 := (hb1.trans hgrb).trans (hup.below hgB2)
   replace hb0 := (hb0.trans (hgrb.mono (Nat.le_succ _))).trans (hup.below (by omega))
   replace hG3 := hG3.congr (H := rowsE x) fun a ha j hj => by
    by_cases e : a = i
    ·rw [if_pos e, e]
    ·rw [if_neg e]
   clear hup hgr hor hHd hpl h8 hgrb
   replace hG3 := Lib.hid hG3
   go_wp2_with fail
   go_roundg (x.r - (i + 1))
   case measure => omega
   case rel => exact ⟨i + 1, _, _, _, by omega, by first | rfl | go_num, by omega, hG3.out, hb1, hb0⟩
  ·obtain rfl : x.r = i := by omega
   subst hzi
   have k1 : ¬ (x.r : Int) < (x.r : Int) := by omega
   go_wp2_with fail
   exact bodyPost_ret (v := .pointer (some ⟨g, 0, none⟩)) (by simp [results, Tryz.results109, go_sem]) rfl ⟨⟨g, rfl, _, bk, hG.mono (Nat.le_succ _)⟩, hb0⟩
end Go.Proofs.YthffglapmkkohaaGreatDoor
