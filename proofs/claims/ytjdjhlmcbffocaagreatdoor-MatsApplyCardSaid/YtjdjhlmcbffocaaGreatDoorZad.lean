/-
  The law answers true at every input, and leaves its arguments as they were: a part of the proof. CONDITIONS: the package-level tables start as the program's text lays them (the card ties them).
-/
import Derived.Test.YtjdjhlmcbffocaaGreatDoorZac
import Derived.Test.YtjdjhlmcbffocaaGreatDoorTie
import Derived.Test.YtjdjhlmcbffocaaGreatDoorCards
set_option linter.unusedVariables false
set_option linter.unusedSimpArgs false
namespace Go.Proofs.YtjdjhlmcbffocaaGreatDoor
open Go.RowKit
attribute [local irreducible] lo hs sm s64 c64 d64 b64 mh ml pd pc qd qc val hiB str cmpI srD lz nb zl zh zs fe rowV tabV gv bsV
abbrev PT (w : World) (v : Value) (l : List Rat) : Prop := SlQ w v l
theorem PT.below {w w' : World} {v : Value} {l : List Rat} (h : PT w v l) (hb : Below w.heap.size w w') : PT w' v l := SlQ.below h hb
theorem pt_form {w : World} {v : Value} {l : List Rat} (h : PT w v l) : ∃ ao n c, v = .slice ao n c ∧ n = l.length := by
 obtain ⟨ao, c, e⟩ := slq_form' h
 exact ⟨ao, _, c, e, rfl⟩
abbrev PP (l : List Rat) : Value → World → Prop := fun v w => PT w v l
theorem stays_pt (l : List Rat) : Stays (PP l) := fun _ _ _ hb h => h.below hb
abbrev PI (l : List Int) : Value → World → Prop := fun v w => ILs w v l
theorem stays_pi (l : List Int) : Stays (PI l) := fun _ _ _ hb h => h.below hb
/-- A vector with a code. -/
abbrev PE (l : List Rat) (e : Int) : Value → World → Prop := fun v w => ∃ u, v = .tuple #[u, .int .i64 e] ∧ PT w u l
theorem stays_pe (l : List Rat) (e : Int) : Stays (PE l e) := fun _ _ _ hb ⟨u, h1, h2⟩ => ⟨u, h1, h2.below hb⟩
theorem ty_val8 {P : Program} {o : Oper} {a : Act} {w w' : World} {T : Value → World → Prop} {u : Value} (hr : (execOp a.eval o).run P w = .ok (.value u) w') (hb : Below w.heap.size w w') (ht : T u w') : tyUpon P w T ((execOp a.eval o).run P w) := by
 rw [hr]; exact ⟨hb, ht⟩
def PTs (W : World) (S : List (Value × List Rat)) : Prop := ∀ p ∈ S, PT W p.1 p.2
theorem PTs.nil (w : World) : PTs w [] := fun p hp => by cases hp
theorem PTs.call {W W' : World} {S : List (Value × List Rat)} (h : PTs W S) (hb : Below W.heap.size W W') : PTs W' S := fun p hp => (h p hp).below hb
theorem PTs.new {W : World} {S : List (Value × List Rat)} (h : PTs W S) (o : Obj) : PTs (W.alloc o) S := h.call ((Below.refl _ _).alloc (Nat.le_refl _) o)
theorem PTs.drew {W : World} {S : List (Value × List Rat)} (h : PTs W S) : PTs W.drew S := h.call (Below.refl _ _).drew
theorem PTs.cons {W : World} {S : List (Value × List Rat)} {v : Value} {l : List Rat} (h : PTs W S) (q : PT W v l) : PTs W ((v, l) :: S) := fun p hp => by
 rcases List.mem_cons.1 hp with rfl | hp
 ·exact q
 ·exact h p hp
theorem PTs.get {W : World} {S : List (Value × List Rat)} {v : Value} {l : List Rat} (h : PTs W S) (hm : (v, l) ∈ S) : PT W v l := h _ hm
theorem ils_at {w : World} {g c n : Nat} {zs : List Int} {cs : List Value} (h : Hd w g cs) (he : cs = zs.map (.int .i64)) (hn : n = zs.length) : ILs w (.slice (some ⟨g, 0, none⟩) n c) zs := by
 subst hn; exact ils_of h he
theorem ils_form {w : World} {v : Value} {zs : List Int} (h : ILs w v zs) : ∃ ao n c, v = .slice ao n c := by
 obtain ⟨ao, c, g, h1, _⟩ := h
 exact ⟨ao, _, c, h1⟩
end Go.Proofs.YtjdjhlmcbffocaaGreatDoor
namespace Go.Proofs.YtjdjhlmcbffocaaGreatDoor
open Go.RowKit
attribute [local irreducible] lo hs sm s64 c64 d64 b64 mh ml pd pc qd qc val hiB str cmpI srD lz nb zl zh zs fe
theorem szl {l : List Rat} (h : l.all (fun q => decide (q.num.natAbs < 18446744073709551616 ∧ q.den < 18446744073709551616)) = true) : ∀ q ∈ l, Sz q 1 := fun q hq => by
 have := of_decide_eq_true (List.all_eq_true.1 h q hq)
 exact szc q this.1 this.2
theorem nv_one {f : FuncId} {args : Array Value} {w : World} {B : Nat} {l : List Rat} (h : Calls Tryz.prog f args w fun xe w' => ∃ u, xe = .returned u ∧ NV B l u w' ∧ Below w.heap.size w w') :
  Calls Tryz.prog f args w fun xe w' => ∃ u, xe = .returned u ∧ SlQ w' u l ∧ Below w.heap.size w w' := h.mono fun _ _ ⟨u, h1, h2, h3⟩ => ⟨u, h1, h2.slq, h3⟩
def oW (zs : List Int) : List Rat := tabV zs.length (ofV zs)
theorem of_at (zs : List Int) (hm : zs.length ≤ 100000) (hz : ∀ z ∈ zs, -9223372036854775808 ≤ z ∧ z < 9223372036854775808) (v : Value) (w : World) (hv : ILs w v zs) :
  Calls Tryz.prog 79 #[v] w fun xe w' => ∃ u, xe = .returned u ∧ SlQ w' u (oW zs) ∧ Below w.heap.size w w' := nv_one (vofV zs hm hz v w hv)
theorem text_at (x : List Rat) (Jt : List UInt8) (t : ByteArray) (hx : x.length ≤ 10) (sx : ∀ q ∈ x, Sz q 1) (hJ : Lib.join ((x.map qtxt).map (·.data.toList)) [32] = Jt) (hJl : Jt.length ≤ 100) (ht : (⟨([91] ++ Jt ++ [93]).toArray⟩ : ByteArray) = t) (v : Value) (w : World) (hT : Tab w) (hv : SlQ w v x) :
  Calls Tryz.prog 81 #[v] w fun xe w' => xe = .returned (.string t) ∧ Below w.heap.size w w' := by
 rw [← ht]
 exact vtextV x x.length 1 Jt rfl (by omega) (by omega) sx hJ (by omega) v w hT hv
end Go.Proofs.YtjdjhlmcbffocaaGreatDoor
namespace Go.Proofs.YtjdjhlmcbffocaaGreatDoor
open Go.RowKit
attribute [local irreducible] lo hs sm s64 c64 d64 b64 mh ml pd pc qd qc val hiB str cmpI srD lz nb zl zh zs fe qmade
structure GV (x : List Rat) (n K : Nat) : Prop where
 len : x.length = n
 sz : ∀ q ∈ x, Sz q K
theorem GV.at {x : List Rat} {n K : Nat} (h : GV x n K) (i : Nat) (hi : i < n) : Sz (gv x i) K := qsk x h.sz i (by rw [h.len]; exact hi)
theorem GV.mono {x : List Rat} {n K M : Nat} (h : GV x n K) (hm : K ≤ M) : GV x n M := ⟨h.len, fun q hq => (h.sz q hq).mono hm⟩
theorem GV.tab {n K : Nat} {f : Nat → Rat} (h : ∀ i, i < n → Sz (f i) K) : GV (tabV n f) n K := ⟨tabV_len _ _, tab_all h⟩
def sumL (n : Nat) (x y : List Rat) : List Rat := tabV n fun i => gv x i + gv y i
def mulL (n : Nat) (c : Rat) (x : List Rat) : List Rat := tabV n fun i => c * gv x i
def dotL (n : Nat) (x y : List Rat) : Rat := bsV n fun i => gv x i * gv y i
theorem GV.sum {x y : List Rat} {n k m : Nat} (hx : GV x n k) (hy : GV y n m) : GV (sumL n x y) n (k + m + 1) := GV.tab fun i hi => (hx.at i hi).add (hy.at i hi)
theorem GV.mul {x : List Rat} {c : Rat} {n k m : Nat} (hc : Sz c k) (hx : GV x n m) : GV (mulL n c x) n (k + m) := GV.tab fun i hi => hc.mul (hx.at i hi)
theorem GV.dot {x y : List Rat} {n k m : Nat} (hx : GV x n k) (hy : GV y n m) : Sz (dotL n x y) (n * (k + m + 1) + 1) := bs_sz fun i hi => (hx.at i hi).mul (hy.at i hi)
section
variable {x y : List Rat} {n k m : Nat}
end
theorem qv_len {w : World} {ao : Option Addr} {n c : Nat} {ql : List (Int × Int)} (h : QV w (.slice ao n c) ql) : ql.length = n := by
 obtain ⟨a2, c2, h1, h2, h3, h4⟩ := h
 obtain ⟨rfl, rfl, rfl⟩ : ao = a2 ∧ n = ql.length ∧ c = c2 := by simpa using h1
 rfl
end Go.Proofs.YtjdjhlmcbffocaaGreatDoor
namespace Go.Proofs.YtjdjhlmcbffocaaGreatDoor
open Go.RowKit
/-- A matrix: its rows, its columns, its elements. -/
structure Mx where
 r : Nat
 c : Nat
 l : List Rat
def ent (x : Mx) (i k : Nat) : Rat := gv x.l (i * x.c + k)
def tabM (r c : Nat) (f : Nat → Nat → Rat) : Mx := ⟨r, c, tabV (r * c) fun p => f (p / c) (p % c)⟩
theorem ix_lt {r c i k : Nat} (hi : i < r) (hk : k < c) : i * c + k < r * c := by
 have : (i + 1) * c ≤ r * c := Nat.mul_le_mul_right c hi
 rw [Nat.add_mul, Nat.one_mul] at this
 omega
theorem ix_div {c i k : Nat} (hk : k < c) : (i * c + k) / c = i := by
 rw [Nat.mul_comm, Nat.mul_add_div (by omega), Nat.div_eq_of_lt hk, Nat.add_zero]
theorem ix_mod {c i k : Nat} (hk : k < c) : (i * c + k) % c = k := by
 rw [Nat.mul_comm, Nat.mul_add_mod, Nat.mod_eq_of_lt hk]
theorem ix_row {r c p : Nat} (h : p < r * c) : p / c < r ∧ p % c < c := by
 have hc : 0 < c := by
  rcases Nat.eq_zero_or_pos c with e | e
  ·subst e; simp at h
  ·exact e
 exact ⟨(Nat.div_lt_iff_lt_mul hc).2 h, Nat.mod_lt _ hc⟩
theorem ent_tab {r c i k : Nat} {f : Nat → Nat → Rat} (hi : i < r) (hk : k < c) : ent (tabM r c f) i k = f i k := by
 unfold ent tabM
 show gv (tabV (r * c) fun p => f (p / c) (p % c)) (i * c + k) = f i k
 rw [gv_tab (ix_lt hi hk), ix_div hk, ix_mod hk]
/-- A matrix of n rows, k columns, whose elements have a size. -/
structure GM (x : Mx) (n k K : Nat) : Prop where
 r : x.r = n
 c : x.c = k
 len : x.l.length = n * k
 sz : ∀ q ∈ x.l, Sz q K
theorem GM.at {x : Mx} {n k K : Nat} (h : GM x n k K) (i j : Nat) (hi : i < n) (hj : j < k) : Sz (ent x i j) K := by
 unfold ent
 rw [h.c]
 exact qsk x.l h.sz _ (by rw [h.len]; exact ix_lt hi hj)
theorem GM.mono {x : Mx} {n k K M : Nat} (h : GM x n k K) (hm : K ≤ M) : GM x n k M := ⟨h.r, h.c, h.len, fun q hq => (h.sz q hq).mono hm⟩
theorem GM.tab {n k K : Nat} {f : Nat → Nat → Rat} (h : ∀ i j, i < n → j < k → Sz (f i j) K) : GM (tabM n k f) n k K :=
 ⟨rfl, rfl, tabV_len _ _, tab_all fun p hp => h _ _ (ix_row hp).1 (ix_row hp).2⟩
def sumM (n k : Nat) (x y : Mx) : Mx := tabM n k fun i j => ent x i j + ent y i j
def turM (n k : Nat) (x : Mx) : Mx := tabM k n fun i j => ent x j i
def mulM (n k p : Nat) (x y : Mx) : Mx := tabM n p fun i j => bsV k fun t => ent x i t * ent y t j
def oneM (n : Nat) : Mx := tabM n n fun i j => if i = j then 1 else 0
def appV (n k : Nat) (x : Mx) (v : List Rat) : List Rat := tabV n fun i => bsV k fun t => ent x i t * gv v t
def formM (n k : Nat) (x : Mx) (v w : List Rat) : Rat := bsV n fun i => gv v i * gv (appV n k x w) i
theorem GM.sum {x y : Mx} {n k K M : Nat} (hx : GM x n k K) (hy : GM y n k M) : GM (sumM n k x y) n k (K + M + 1) := GM.tab fun i j hi hj => (hx.at i j hi hj).add (hy.at i j hi hj)
theorem GM.mul {x y : Mx} {n k p K M : Nat} (hx : GM x n k K) (hy : GM y k p M) : GM (mulM n k p x y) n p (k * (K + M + 1) + 1) := GM.tab fun i j hi hj => bs_sz fun t ht => (hx.at i t hi ht).mul (hy.at t j ht hj)
theorem GM.one (n : Nat) : GM (oneM n) n n 1 := GM.tab fun i j hi hj => by
 split
 ·exact szc 1 (by decide +kernel) (by decide +kernel)
 ·exact szc 0 (by decide) (by decide)
theorem GM.app {x : Mx} {v : List Rat} {n k K M : Nat} (hx : GM x n k K) (hv : GV v k M) : GV (appV n k x v) n (k * (K + M + 1) + 1) := GV.tab fun i hi => bs_sz fun t ht => (hx.at i t hi ht).mul (hv.at t ht)
theorem GM.form {x : Mx} {v w : List Rat} {n k K M N : Nat} (hx : GM x n k K) (hv : GV v n M) (hw : GV w k N) : Sz (formM n k x v w) (n * (M + (k * (K + N + 1) + 1) + 1) + 1) := bs_sz fun i hi => (hv.at i hi).mul ((hx.app hw).at i hi)
-- sums
/-- A matrix that equals its transpose. -/
def SymM (n : Nat) (x : Mx) : Prop := ∀ i j, i < n → j < n → ent x i j = ent x j i
end Go.Proofs.YtjdjhlmcbffocaaGreatDoor
namespace Go.Proofs.YtjdjhlmcbffocaaGreatDoor
open Go.RowKit
attribute [local irreducible] lo hs sm s64 c64 d64 b64 mh ml pd pc qd qc val hiB str cmpI srD lz nb zl zh zs fe rowV tabV gv bsV
/-- A slice of fractions whose capacity bears its length. -/
def CQ (w : World) (v : Value) (l : List Rat) : Prop := SlQ w v l ∧ ∃ ao n c, v = .slice ao n c ∧ n ≤ c
theorem CQ.below {w w' : World} {v : Value} {l : List Rat} (h : CQ w v l) (hb : Below w.heap.size w w') : CQ w' v l := ⟨h.1.below hb, h.2⟩
theorem CQ.form {w : World} {v : Value} {l : List Rat} (h : CQ w v l) : ∃ ao c, v = .slice ao l.length c ∧ l.length ≤ c := by
 obtain ⟨h1, ao, n, c, rfl, h2⟩ := h
 obtain ⟨a2, c2, e⟩ := slq_form' h1
 obtain ⟨rfl, rfl, rfl⟩ : ao = a2 ∧ n = l.length ∧ c = c2 := by simpa using e
 exact ⟨_, _, rfl, h2⟩
theorem NV.cq {B : Nat} {l : List Rat} {v : Value} {w : World} (h : NV B l v w) : CQ w v l := by
 obtain ⟨g, rfl, -, -⟩ := id h
 exact ⟨h.slq, _, _, _, rfl, Nat.le_refl _⟩
/-- A matrix as Go holds it. -/
def MT (w : World) (v : Value) (x : Mx) : Prop := ∃ u, v = .agg #[.int .i64 (x.r : Int), .int .i64 (x.c : Int), u] ∧ CQ w u x.l
theorem MT.below {w w' : World} {v : Value} {x : Mx} (h : MT w v x) (hb : Below w.heap.size w w') : MT w' v x := by
 obtain ⟨u, h1, h2⟩ := h
 exact ⟨u, h1, h2.below hb⟩
theorem MT.keeps (v : Value) (x : Mx) : Keeps (fun w => MT w v x) := fun _ _ hb h => h.below hb
theorem CQ.keeps (v : Value) (l : List Rat) : Keeps (fun w => CQ w v l) := fun _ _ hb h => h.below hb
theorem mt_of {w : World} {ao : Option Addr} {m d : Nat} {x : Mx} {n k : Int} (h : PT w (.slice ao m d) x.l) (hd : m ≤ d) (hr : (x.r : Int) = n) (hc : (x.c : Int) = k) : MT w (.agg #[.int .i64 n, .int .i64 k, .slice ao m d]) x := by
 subst hr hc; exact ⟨_, rfl, h, _, _, _, rfl, hd⟩
theorem mt_form {w : World} {v : Value} {x : Mx} {n k : Int} (h : MT w v x) (hr : (x.r : Int) = n) (hc : (x.c : Int) = k) : ∃ ao m d, v = .agg #[.int .i64 n, .int .i64 k, .slice ao m d] ∧ PT w (.slice ao m d) x.l ∧ m ≤ d := by
 subst hr hc
 obtain ⟨u, rfl, h2⟩ := h
 obtain ⟨ao, c, rfl, h3⟩ := h2.form
 exact ⟨ao, _, c, rfl, h2.1, h3⟩
/-- Fractions in a box, from a place on. -/
def FO (w : World) (g o : Nat) (l : List Rat) : Prop := ∀ i, i < l.length → w.cell? ⟨g, o + i * 5, none⟩ = some (.int .u64 ((zl (gv l i).num : Nat) : Int)) ∧ w.cell? ⟨g, o + i * 5 + 1, none⟩ = some (.string (zh (gv l i).num)) ∧ w.cell? ⟨g, o + i * 5 + 2, none⟩ = some (.bool (zs (gv l i).num)) ∧
 w.cell? ⟨g, o + i * 5 + 3, none⟩ = some (.int .u64 ((lo (fe (gv l i)) : Nat) : Int)) ∧ w.cell? ⟨g, o + i * 5 + 4, none⟩ = some (.string (hs (fe (gv l i))))
theorem FO.below {w w' : World} {g o : Nat} {l : List Rat} (h : FO w g o l) (hb : Below w.heap.size w w') : FO w' g o l := fun i hi => by
 obtain ⟨h0, h1, h2, h3, h4⟩ := h i hi
 exact ⟨keepsC hb h0, keepsC hb h1, keepsC hb h2, keepsC hb h3, keepsC hb h4⟩
/-- A slice of fractions at any place. -/
def RQ (w : World) (v : Value) (l : List Rat) : Prop := ∃ ao c, v = .slice ao l.length c ∧ (0 < l.length → ∃ g o, ao = some ⟨g, o, none⟩ ∧ FO w g o l)
theorem RQ.below {w w' : World} {v : Value} {l : List Rat} (h : RQ w v l) (hb : Below w.heap.size w w') : RQ w' v l := by
 obtain ⟨ao, c, h1, h2⟩ := h
 refine ⟨ao, c, h1, fun h0 => ?_⟩
 obtain ⟨g, o, h3, h4⟩ := h2 h0
 exact ⟨g, o, h3, h4.below hb⟩
theorem RQ.keeps (v : Value) (l : List Rat) : Keeps (fun w => RQ w v l) := fun _ _ hb h => h.below hb
theorem RQ.form {w : World} {v : Value} {l : List Rat} (h : RQ w v l) : ∃ ao c, v = .slice ao l.length c := by
 obtain ⟨ao, c, h1, _⟩ := h
 exact ⟨ao, c, h1⟩
theorem fs_fo {w : World} {g : Nat} {l : List Rat} (h : FS w g l) : FO w g 0 l := fun i hi => by
 simp only [Nat.zero_add]; exact fsc h i hi
theorem SlQ.rq {w : World} {v : Value} {l : List Rat} (h : SlQ w v l) : RQ w v l := by
 obtain ⟨ao, c, h1, h2⟩ := slq_len h
 refine ⟨ao, c, h1, fun h0 => ?_⟩
 obtain ⟨g, h3, h4⟩ := h2 h0
 exact ⟨g, 0, h3, fs_fo h4⟩
theorem rq_at {w : World} {ao : Option Addr} {n c : Nat} {l : List Rat} (h : RQ w (.slice ao n c) l) (h0 : 0 < l.length) : ∃ g o, ao = some ⟨g, o, none⟩ ∧ n = l.length ∧ FO w g o l := by
 obtain ⟨a2, c2, e, h2⟩ := h
 obtain ⟨rfl, rfl, rfl⟩ : ao = a2 ∧ n = l.length ∧ c = c2 := by simpa using e
 obtain ⟨g, o, h3, h4⟩ := h2 h0
 exact ⟨g, o, h3, rfl, h4⟩
/-- A row of a matrix. -/
def rowL (x : Mx) (i : Nat) : List Rat := tabV x.c fun k => ent x i k
theorem row_len (x : Mx) (i : Nat) : (rowL x i).length = x.c := tabV_len _ _
theorem gv_row {x : Mx} {i k : Nat} (h : k < x.c) : gv (rowL x i) k = ent x i k := gv_tab h
theorem row_slice {w : World} {ao : Option Addr} {n d : Nat} {x : Mx} (h : SlQ w (.slice ao n d) x.l) (hd : n ≤ d) (hl : x.l.length = x.r * x.c) (i : Nat) (hi : i < x.r) :
  ∃ a2, (∀ W, (Instr.slice 27 (.slice ao n d) (some (.int .i64 ((i * x.c : Nat) : Int))) (some (.int .i64 (((i + 1) * x.c : Nat) : Int))) (some (.int .i64 (((i + 1) * x.c : Nat) : Int)))).run Tryz.prog W = .ok (.slice a2 x.c x.c) W) ∧ RQ w (.slice a2 x.c x.c) (rowL x i) := by
 obtain ⟨a0, c0, e0, hf⟩ := slq_len h
 obtain ⟨rfl, rfl, rfl⟩ : ao = a0 ∧ n = x.l.length ∧ d = c0 := by simpa using e0
 have hle : (i + 1) * x.c ≤ x.r * x.c := Nat.mul_le_mul_right _ hi
 have hs1 : (i + 1) * x.c = i * x.c + x.c := by rw [Nat.add_mul, Nat.one_mul]
 rw [hs1]
 rw [hs1] at hle
 have h1 : i * x.c + x.c ≤ d := by omega
 obtain ⟨i0, hi0, hz1, hz2, hz3⟩ := info_parts infoFr
 have hsz : ∀ W, (sizeOf 36).run Tryz.prog W = .ok 5 W := fun W => by simp [sizeOf, typeInfo, hi0, hz2]
 generalize hP : i * x.c = p at *
 have b1 : (0 : Int) ≤ ((p + x.c : Nat) : Int) := by omega
 have b2 : ((p + x.c : Nat) : Int) ≤ (d : Int) := by omega
 have b3 : ((p + x.c : Nat) : Int) ≤ ((p + x.c : Nat) : Int) := by omega
 have b4 : (0 : Int) ≤ ((p : Nat) : Int) := by omega
 have b5 : ((p : Nat) : Int) ≤ ((p + x.c : Nat) : Int) := by omega
 have b6 : p + x.c - p = x.c := by omega
 refine ⟨if p + x.c = p then ao else ao.map (·.add (p * 5)), fun W => ?_, ?_⟩
 ·generalize hE : p + x.c = e at *
  simp [Instr.slice, Instr.sliceBounds, run_underlying Tryz.underlying27, run_sliceBound, b1, b2, b4, b5, b6, hsz, go_sem] <;> first | rfl | (intro h; omega)
 ·refine ⟨_, x.c, by rw [row_len], fun h0 => ?_⟩
  rw [row_len] at h0
  obtain ⟨g, rfl, ff⟩ := hf (by omega)
  refine ⟨g, p * 5, ?_, fun k hk => ?_⟩
  ·rw [if_neg (by omega)]; simp [Addr.add]; try omega
  ·rw [row_len] at hk
   have := fsc ff (p + k) (by rw [hl, ← hP]; exact ix_lt hi hk)
   rw [gv_row hk]
   unfold ent
   rw [hP]
   simpa only [Nat.add_mul, Nat.add_assoc] using this
end Go.Proofs.YtjdjhlmcbffocaaGreatDoor
namespace Go.Proofs.YtjdjhlmcbffocaaGreatDoor
open Go.RowKit
attribute [local irreducible] lo hs sm s64 c64 d64 b64 mh ml pd pc qd qc val hiB str cmpI srD lz nb zl zh zs fe rowV tabV gv bsV
set_option maxHeartbeats 4000000 in
set_option maxRecDepth 100000 in
theorem mdot1_w (i na nb ca cb ga gb oa ob b1 b2 : Nat) (x y r : Rat) (HC : ∀ w, Calls Tryz.prog 20 #[fracV x, fracV y] w fun xe w' => xe = .returned (fracV r) ∧ Below w.heap.size w w') (hi : i < na) (hj : i < nb) (w : World) (c0 : w.cell? ⟨b1, 0, none⟩ = some (.slice (some ⟨ga, oa, none⟩) na ca)) (c1 : w.cell? ⟨b2, 0, none⟩ = some (.slice (some ⟨gb, ob, none⟩) nb cb)) (c2 : w.cell? ⟨ga, oa + i * 5, none⟩ = some (.int .u64 ((zl x.num : Nat) : Int))) (c3 : w.cell? ⟨ga, oa + i * 5 + 1, none⟩ = some (.string (zh x.num))) (c4 : w.cell? ⟨ga, oa + i * 5 + 2, none⟩ = some (.bool (zs x.num))) (c5 : w.cell? ⟨ga, oa + i * 5 + 3, none⟩ = some (.int .u64 ((lo (fe x) : Nat) : Int))) (c6 : w.cell? ⟨ga, oa + i * 5 + 4, none⟩ = some (.string (hs (fe x)))) (c7 : w.cell? ⟨gb, ob + i * 5, none⟩ = some (.int .u64 ((zl y.num : Nat) : Int))) (c8 : w.cell? ⟨gb, ob + i * 5 + 1, none⟩ = some (.string (zh y.num))) (c9 : w.cell? ⟨gb, ob + i * 5 + 2, none⟩ = some (.bool (zs y.num))) (c10 : w.cell? ⟨gb, ob + i * 5 + 3, none⟩ = some (.int .u64 ((lo (fe y) : Nat) : Int))) (c11 : w.cell? ⟨gb, ob + i * 5 + 4, none⟩ = some (.string (hs (fe y)))) :
  Calls Tryz.prog 174 #[.int .i64 (i : Int), .pointer (some ⟨b1, 0, none⟩), .pointer (some ⟨b2, 0, none⟩)] w fun xe w' => xe = .returned (fracV r) ∧ Below w.heap.size w w' := by
 replace HC := Lib.hid HC
 have k0 : (0 : Int) ≤ (i : Int) := Int.natCast_nonneg _
 have k1 : (i : Int) < (na : Int) := by omega
 have k2 : (i : Int) < (nb : Int) := by omega
 clear hi hj
 have hL0 : GL w w [] := GL.start w
 have hb0 : Below w.heap.size w (w.alloc (.cells #[.int .u64 0, .string ⟨#[]⟩, .bool false, .int .u64 0, .string ⟨#[]⟩] 36)) := (Below.refl _ _).alloc (Nat.le_refl _) _
 replace c0 := keepsC hb0 c0
 replace c1 := keepsC hb0 c1
 replace c2 := keepsC hb0 c2
 replace c3 := keepsC hb0 c3
 replace c4 := keepsC hb0 c4
 replace c5 := keepsC hb0 c5
 replace c6 := keepsC hb0 c6
 replace c7 := keepsC hb0 c7
 replace c8 := keepsC hb0 c8
 replace c9 := keepsC hb0 c9
 replace c10 := keepsC hb0 c10
 replace c11 := keepsC hb0 c11
 replace hL0 := hL0.new rfl [.int .u64 0, .string ⟨#[]⟩, .bool false, .int .u64 0, .string ⟨#[]⟩] 36
 generalize hweq : w.alloc (.cells #[.int .u64 0, .string ⟨#[]⟩, .bool false, .int .u64 0, .string ⟨#[]⟩] 36) = x1 at hL0 c0 c1 c2 c3 c4 c5 c6 c7 c8 c9 c10 c11
 clear hb0
 replace c0 := Lib.hid c0
 replace c1 := Lib.hid c1
 replace c2 := Lib.hid c2
 replace c3 := Lib.hid c3
 replace c4 := Lib.hid c4
 replace c5 := Lib.hid c5
 replace c6 := Lib.hid c6
 replace c7 := Lib.hid c7
 replace c8 := Lib.hid c8
 replace c9 := Lib.hid c9
 replace c10 := Lib.hid c10
 replace c11 := Lib.hid c11
 go_enter Tryz.func174, Tryz.ntmps174
 go_upto_region 1 with fail
 clear hweq
 obtain ⟨α, iα, F, hF1, hF2⟩ := cls x1
 have hq0 : ∀ yz, (F yz).cell? ⟨b1, 0, none⟩ = some (.slice (some ⟨ga, oa, none⟩) na ca) := fun yz => keepsC (hF1 yz) c0.out
 have hq1 : ∀ yz, (F yz).cell? ⟨b2, 0, none⟩ = some (.slice (some ⟨gb, ob, none⟩) nb cb) := fun yz => keepsC (hF1 yz) c1.out
 have hq2 : ∀ yz, (F yz).cell? ⟨ga, oa + i * 5, none⟩ = some (.int .u64 ((zl x.num : Nat) : Int)) := fun yz => keepsC (hF1 yz) c2.out
 have hq3 : ∀ yz, (F yz).cell? ⟨ga, oa + i * 5 + 1, none⟩ = some (.string (zh x.num)) := fun yz => keepsC (hF1 yz) c3.out
 have hq4 : ∀ yz, (F yz).cell? ⟨ga, oa + i * 5 + 2, none⟩ = some (.bool (zs x.num)) := fun yz => keepsC (hF1 yz) c4.out
 have hq5 : ∀ yz, (F yz).cell? ⟨ga, oa + i * 5 + 3, none⟩ = some (.int .u64 ((lo (fe x) : Nat) : Int)) := fun yz => keepsC (hF1 yz) c5.out
 have hq6 : ∀ yz, (F yz).cell? ⟨ga, oa + i * 5 + 4, none⟩ = some (.string (hs (fe x))) := fun yz => keepsC (hF1 yz) c6.out
 have hq7 : ∀ yz, (F yz).cell? ⟨gb, ob + i * 5, none⟩ = some (.int .u64 ((zl y.num : Nat) : Int)) := fun yz => keepsC (hF1 yz) c7.out
 have hq8 : ∀ yz, (F yz).cell? ⟨gb, ob + i * 5 + 1, none⟩ = some (.string (zh y.num)) := fun yz => keepsC (hF1 yz) c8.out
 have hq9 : ∀ yz, (F yz).cell? ⟨gb, ob + i * 5 + 2, none⟩ = some (.bool (zs y.num)) := fun yz => keepsC (hF1 yz) c9.out
 have hq10 : ∀ yz, (F yz).cell? ⟨gb, ob + i * 5 + 3, none⟩ = some (.int .u64 ((lo (fe y) : Nat) : Int)) := fun yz => keepsC (hF1 yz) c10.out
 have hq11 : ∀ yz, (F yz).cell? ⟨gb, ob + i * 5 + 4, none⟩ = some (.string (hs (fe y))) := fun yz => keepsC (hF1 yz) c11.out
 refine region_qs 9 (C := fun w' => ∃ x, w' = F x) (by kernel_rfl) (by kernel_rfl) (cls_drew hF2) ?_
 simp only [List.take_succ_cons, List.take_zero, List.drop_succ_cons, List.drop_zero, List.take_nil, List.drop_nil]
 repeat (go_big_quiet_step (first | fail | (go_at_call 20; with_reducible exact cls_call hF1 hF2 HC.out _)))
 refine wpQuiet_nil ?_
 rintro wq ⟨xq, rfl⟩
 replace hL0 := hL0.call (hF1 xq)
 clear hq0 hq1 hq2 hq3 hq4 hq5 hq6 hq7 hq8 hq9 hq10 hq11 hF2
 generalize F xq = x2 at hL0 ⊢
 clear hF1 xq iα F α
 have hA := hL0.fc
 simp only [fcG, cellsF, neK, and_true, ne_eq, Nat.zero_add, Nat.reduceAdd] at hA
 have hPt := hL0.put 0 (w.heap.size) _ rfl [.int .u64 ((zl r.num : Nat) : Int), .string (zh r.num), .bool (zs r.num), .int .u64 ((lo (fe r) : Nat) : Int), .string (hs (fe r))] rfl
 simp only [setAll, List.set_cons_zero, List.set_cons_succ] at hPt
 generalize hput1 : (((((x2.setCell ⟨w.heap.size, 0, none⟩ (.int .u64 ((zl r.num : Nat) : Int))).setCell ⟨w.heap.size, 1, none⟩ (.string (zh r.num))).setCell ⟨w.heap.size, 2, none⟩ (.bool (zs r.num))).setCell ⟨w.heap.size, 3, none⟩ (.int .u64 ((lo (fe r) : Nat) : Int))).setCell ⟨w.heap.size, 4, none⟩ (.string (hs (fe r)))) = x9 at hPt
 have hB1 := hPt.fc
 simp only [fcG, cellsF, neK, and_true, ne_eq, Nat.zero_add, Nat.reduceAdd] at hB1
 go_wp2_with fail
 exact bodyPost_ret (v := fracV r) (by simp [results, Tryz.results174, go_sem, hB1]) rfl ⟨rfl, hPt.bl⟩
theorem sumF2 (ao : Option Addr) (n c : Nat) (qs : List Rat) (k : Nat) (hk : qs.length * (k + 1) ≤ 19000) (hk2 : k ≤ 19000) (hl : qs.length ≤ 1000) (hs : ∀ q ∈ qs, Sz q k) (w : World) (h : SlQ w (.slice ao n c) qs) :
  Calls Tryz.prog 93 #[.slice ao n c] w fun xe w' => xe = .returned (fracV (qsum qs)) ∧ Below w.heap.size w w' := by
 have hp := slq_parts' h (by omega)
 refine sum_w ao n c qs hp.2.2 (fun w0 t hn w hG => each_add w0 t ao n c qs 0 rfl hn (fun q a i ha hq w hG => total_add w0 t q a (q + a) (fun w => addF q a 20000 ?_ ((hs a ha).mono (by omega)) (by omega) w) w hG) w hG) w hp
 rw [hq]
 have h0 : Sz 0 1 := ⟨digs_length_iff.2 (by unfold Bs; decide), digs_length_iff.2 (by unfold Bs; decide)⟩
 have hz := qsum_sz (qs.take i) 1 0 h0 (fun q hq => hs q (List.mem_of_mem_take hq))
 refine hz.mono ?_
 rw [List.length_take]
 have h1 : min i qs.length * (k + 1) ≤ qs.length * (k + 1) := Nat.mul_le_mul_right _ (by omega)
 omega
theorem sum_tab2 (n k : Nat) (f : Nat → Rat) (hn : n ≤ 1000) (hk : n * (k + 1) ≤ 19000) (hk2 : k ≤ 19000) (hf : ∀ i, i < n → Sz (f i) k) (v : Value) (w : World) (h : SlQ w v (tabV n f)) :
  Calls Tryz.prog 93 #[v] w fun xe w' => xe = .returned (fracV (bsV n f)) ∧ Below w.heap.size w w' := by
 obtain ⟨ao, c, rfl⟩ := slq_form' h
 have := sumF2 ao (tabV n f).length c (tabV n f) k (by rw [tabV_len]; exact hk) hk2 (by rw [tabV_len]; exact hn) (tab_all hf) w h
 rwa [qsum_tab] at this
theorem mdot_at (x y : List Rat) (n k b1 b2 : Nat) (va vb : Value) (hx : x.length = n) (hy : y.length = n) (hk : k ≤ 1000000) (sx : ∀ q ∈ x, Sz q k) (sy : ∀ q ∈ y, Sz q k) (i : Nat) (hi : i < n) (w : World)
  (hw : RQ w va x ∧ RQ w vb y ∧ w.cell? ⟨b1, 0, none⟩ = some va ∧ w.cell? ⟨b2, 0, none⟩ = some vb) :
  Calls Tryz.prog 174 (#[.int .i64 (i : Int)] ++ #[.pointer (some ⟨b1, 0, none⟩), .pointer (some ⟨b2, 0, none⟩)]) w fun xe w' => xe = .returned (fracV (gv x i * gv y i)) ∧ Below w.heap.size w w' := by
 obtain ⟨h1, h2, h3, h4⟩ := hw
 obtain ⟨aa, ca, rfl⟩ := h1.form
 obtain ⟨ab, cb, rfl⟩ := h2.form
 obtain ⟨ga, oa, rfl, -, f1⟩ := rq_at h1 (by omega)
 obtain ⟨gb, ob, rfl, -, f2⟩ := rq_at h2 (by omega)
 obtain ⟨p0, p1, p2, p3, p4⟩ := f1 i (by omega)
 obtain ⟨q0, q1, q2, q3, q4⟩ := f2 i (by omega)
 exact mdot1_w i x.length y.length ca cb ga gb oa ob b1 b2 (gv x i) (gv y i) (gv x i * gv y i) (fun w => mulF _ _ k (qsk x sx i (by omega)) (qsk y sy i (by omega)) (by omega) w) (by omega) (by omega) w h3 h4 p0 p1 p2 p3 p4 q0 q1 q2 q3 q4
set_option maxHeartbeats 4000000 in
set_option maxRecDepth 100000 in
theorem mdotS (x y : List Rat) (n k : Nat) (hx : x.length = n) (hy : y.length = n) (hn : n ≤ 1000) (hk : n * (k + k + 1) ≤ 19000) (hk2 : k + k ≤ 19000) (sx : ∀ q ∈ x, Sz q k) (sy : ∀ q ∈ y, Sz q k) (va vb : Value) (w : World) (hv : RQ w va x) (hu : RQ w vb y) :
  Calls Tryz.prog 97 #[va, vb] w fun xe w' => xe = .returned (fracV (bsV n fun i => gv x i * gv y i)) ∧ Below w.heap.size w w' := by
 obtain ⟨aa, ca, rfl⟩ := hv.form
 obtain ⟨ab, cb, rfl⟩ := hu.form
 rw [hx] at hv ⊢
 rw [hy] at hu ⊢
 have HCl := fun b1 b2 => mdot_at x y n k b1 b2 (.slice aa n ca) (.slice ab n cb) hx hy (by omega) sx sy
 have HS := Lib.hid (fun v w h => sum_tab2 n (k + k) (fun i => gv x i * gv y i) hn hk hk2 (fun i hi => (qsk x sx i (by omega)).mul (qsk y sy i (by omega))) v w h)
 generalize bsV n (fun i => gv x i * gv y i) = r at *
 have hL0 : GL w w [] := GL.start w
 replace hL0 := (((hL0.new rfl [.slice aa n ca] 28).new (K := w.heap.size + 1) (szA _ _) [.slice ab n cb] 28).new (K := w.heap.size + 1 + 1) (by simp only [World.size_alloc]) [.int .u64 0, .string ⟨#[]⟩, .bool false, .int .u64 0, .string ⟨#[]⟩] 36)
 generalize hweq : (((w.alloc (.cells #[.slice aa n ca] 28)).alloc (.cells #[.slice ab n cb] 28)).alloc (.cells #[.int .u64 0, .string ⟨#[]⟩, .bool false, .int .u64 0, .string ⟨#[]⟩] 36)) = x1 at hL0
 have hv1 := hv.below hL0.bl
 have hu1 := hu.below hL0.bl
 have hc1 := (hL0.get _ _ (List.mem_cons_of_mem _ (List.mem_cons_of_mem _ List.mem_cons_self))).cell 0 (by simp)
 simp only [List.getElem_cons_zero, List.getElem_cons_succ] at hc1
 have hc2 := (hL0.get _ _ (List.mem_cons_of_mem _ List.mem_cons_self)).cell 0 (by simp)
 simp only [List.getElem_cons_zero, List.getElem_cons_succ] at hc2
 have HC := veach_w 174 #[.pointer (some ⟨w.heap.size, 0, none⟩), .pointer (some ⟨w.heap.size + 1, 0, none⟩)] endot n (fun i => gv x i * gv y i) (fun w => RQ w (.slice aa n ca) x ∧ RQ w (.slice ab n cb) y ∧ w.cell? ⟨_, 0, none⟩ = some (.slice aa n ca) ∧ w.cell? ⟨_, 0, none⟩ = some (.slice ab n cb)) (Keeps.and (RQ.keeps _ _) (Keeps.and (RQ.keeps _ _) (Keeps.and (keepsB _ _) (keepsB _ _)))) (HCl _ _) (by omega) x1 ⟨hv1, hu1, hc1, hc2⟩
 replace HC := Lib.hid HC
 clear hv hu hv1 hu1 HCl sx sy hx hy hk hk2
 go_enter Tryz.func97, Tryz.ntmps97
 go_wp2_with fail
 with_reducible refine Calls.mono HC.out ?_
 rintro e y1 ⟨u, rfl, hnv, hb⟩
 replace hL0 := hL0.call hb
 clear hb hc1 hc2 hweq
 have hsl := Lib.hid hnv.slq
 obtain ⟨gu, rfl, -, -⟩ := hnv
 go_wp2_with fail
 with_reducible refine Calls.mono (HS.out _ _ hsl.out) ?_
 rintro e y2 ⟨rfl, hb⟩
 replace hL0 := hL0.call hb
 clear hb hsl
 have hA := hL0.fc
 simp only [fcG, cellsF, neK, and_true, ne_eq, Nat.zero_add, Nat.reduceAdd] at hA
 have hPt := hL0.put 0 (w.heap.size + 1 + 1) _ rfl [.int .u64 ((zl r.num : Nat) : Int), .string (zh r.num), .bool (zs r.num), .int .u64 ((lo (fe r) : Nat) : Int), .string (hs (fe r))] rfl
 simp only [setAll, List.set_cons_zero, List.set_cons_succ] at hPt
 generalize hput1 : (((((y2.setCell ⟨w.heap.size + 1 + 1, 0, none⟩ (.int .u64 ((zl r.num : Nat) : Int))).setCell ⟨w.heap.size + 1 + 1, 1, none⟩ (.string (zh r.num))).setCell ⟨w.heap.size + 1 + 1, 2, none⟩ (.bool (zs r.num))).setCell ⟨w.heap.size + 1 + 1, 3, none⟩ (.int .u64 ((lo (fe r) : Nat) : Int))).setCell ⟨w.heap.size + 1 + 1, 4, none⟩ (.string (hs (fe r)))) = y3 at hPt
 have hB1 := hPt.fc
 simp only [fcG, cellsF, neK, and_true, ne_eq, Nat.zero_add, Nat.reduceAdd] at hB1
 go_wp2_with fail
 exact bodyPost_ret (v := fracV r) (by simp [results, Tryz.results97, go_sem, hB1]) rfl ⟨rfl, hPt.bl⟩
set_option maxHeartbeats 4000000 in
set_option maxRecDepth 100000 in
theorem mDotV (x y : List Rat) (n k : Nat) (hx : x.length = n) (hy : y.length = n) (hn : n ≤ 1000) (hk : n * (k + k + 1) ≤ 19000) (hk2 : k + k ≤ 19000) (sx : ∀ q ∈ x, Sz q k) (sy : ∀ q ∈ y, Sz q k) (va vb : Value) (w : World) (hv : RQ w va x) (hu : RQ w vb y) :
  Calls Tryz.prog 71 #[va, vb] w fun xe w' => xe = .returned (.tuple #[fracV (bsV n fun i => gv x i * gv y i), .int .i64 0]) ∧ Below w.heap.size w w' := by
 have HD := Lib.hid (fun w hv hu => mdotS x y n k hx hy hn hk hk2 sx sy va vb w hv hu)
 obtain ⟨aa, ca, rfl⟩ := hv.form
 obtain ⟨ab, cb, rfl⟩ := hu.form
 rw [hx] at hv HD ⊢
 rw [hy] at hu HD ⊢
 generalize bsV n (fun i => gv x i * gv y i) = r at *
 have hL0 : GL w w [] := GL.start w
 replace hL0 := (hL0.new rfl [.int .u64 0, .string ⟨#[]⟩, .bool false, .int .u64 0, .string ⟨#[]⟩] 36)
 generalize hweq : (w.alloc (.cells #[.int .u64 0, .string ⟨#[]⟩, .bool false, .int .u64 0, .string ⟨#[]⟩] 36)) = x1 at hL0
 have hv1 := hv.below hL0.bl
 have hu1 := hu.below hL0.bl
 replace hL0 := (hL0.new rfl [.slice aa n ca, .slice ab n cb] 28)
 generalize hweq2 : (x1.alloc (.cells #[.slice aa n ca, .slice ab n cb] 28)) = x2 at hL0
 have hb2 : Below x1.heap.size x1 x2 := hweq2 ▸ ((Below.refl _ _).alloc (Nat.le_refl _) _)
 have hv2 := hv1.below hb2
 have hu2 := hu1.below hb2
 have hd := hL0.get _ _ List.mem_cons_self
 have HF := vfault_w 2 2 x1.heap.size (some ⟨x1.heap.size, 0, none⟩) (fun _ => n) (by omega) (fun i hi => by omega) x2 (fun _ => rfl) (fun i hi => by
  rcases (by omega : i = 0 ∨ i = 1) with rfl | rfl
  ·exact ⟨aa, ca, hd.cell 0 (by simp)⟩
  ·exact ⟨ab, cb, hd.cell 1 (by simp)⟩)
 replace HF := Lib.hid HF
 clear hd
 replace hv2 := Lib.hid hv2
 replace hu2 := Lib.hid hu2
 clear hv hu hv1 hu1 sx sy hb2 hk hk2
 go_enter Tryz.func71, Tryz.ntmps71
 go_wp2_with fail
 with_reducible refine Calls.mono HF.out ?_
 rintro e y1 ⟨ze, rfl, hor, hb⟩
 obtain rfl : ze = 0 := by
  rcases hor with ⟨h, -⟩ | ⟨-, i, -, h⟩
  ·exact h
  ·exact absurd rfl h
 clear hor
 have hv3 := Lib.hid (hv2.out.below hb)
 have hu3 := Lib.hid (hu2.out.below hb)
 replace hL0 := hL0.call hb
 clear hb hweq hweq2 hv2 hu2 HF
 go_wp2_with fail
 with_reducible refine Calls.mono (HD.out _ hv3.out hu3.out) ?_
 rintro e y2 ⟨rfl, hb⟩
 replace hL0 := hL0.call hb
 clear hb hv3 hu3
 have hA := hL0.fc
 simp only [fcG, cellsF, neK, and_true, ne_eq, Nat.zero_add, Nat.reduceAdd] at hA
 have hPt := hL0.put 1 (w.heap.size) _ rfl [.int .u64 ((zl r.num : Nat) : Int), .string (zh r.num), .bool (zs r.num), .int .u64 ((lo (fe r) : Nat) : Int), .string (hs (fe r))] rfl
 simp only [setAll, List.set_cons_zero, List.set_cons_succ] at hPt
 generalize hput1 : (((((y2.setCell ⟨w.heap.size, 0, none⟩ (.int .u64 ((zl r.num : Nat) : Int))).setCell ⟨w.heap.size, 1, none⟩ (.string (zh r.num))).setCell ⟨w.heap.size, 2, none⟩ (.bool (zs r.num))).setCell ⟨w.heap.size, 3, none⟩ (.int .u64 ((lo (fe r) : Nat) : Int))).setCell ⟨w.heap.size, 4, none⟩ (.string (hs (fe r)))) = y3 at hPt
 have hB1 := hPt.fc
 simp only [fcG, cellsF, neK, and_true, ne_eq, Nat.zero_add, Nat.reduceAdd] at hB1
 go_wp2_with fail
 exact bodyPost_ret (v := .tuple #[fracV r, .int .i64 0]) (by simp [results, Tryz.results71, go_sem, hB1]) rfl ⟨rfl, hPt.bl⟩
end Go.Proofs.YtjdjhlmcbffocaaGreatDoor
namespace Go.Proofs.YtjdjhlmcbffocaaGreatDoor
open Go.RowKit
attribute [local irreducible] lo hs sm s64 c64 d64 b64 mh ml pd pc qd qc val hiB str cmpI srD lz nb zl zh zs fe rowV tabV gv bsV
set_option maxHeartbeats 4000000 in
set_option maxRecDepth 100000 in
theorem msize_ok (r c : Nat) (hr : r ≤ 2048) (hc : c ≤ 2048) (w : World) : Calls Tryz.prog 113 #[.int .i64 (r : Int), .int .i64 (c : Int)] w fun xe w' => xe = .returned (.int .i64 0) ∧ Below w.heap.size w w' := by
 have k0 : ¬ (r : Int) < 0 := by omega
 have k1 : ¬ (c : Int) < 0 := by omega
 have k2 : ¬ (2048 : Int) < (r : Int) := by omega
 have k3 : ¬ (2048 : Int) < (c : Int) := by omega
 have k4 : ¬ 2048 < r := by omega
 have k5 : ¬ 2048 < c := by omega
 clear hr hc
 go_enter Tryz.func113, Tryz.ntmps113
 go_wp2_with fail
 exact bodyPost_ret (v := .int .i64 0) (by simp [results, Tryz.results113, go_sem]) rfl ⟨rfl, Below.refl _ _⟩
set_option maxHeartbeats 4000000 in
set_option maxRecDepth 100000 in
theorem msize_neg1 (r c : Int) (hr : r < 0) (w : World) : Calls Tryz.prog 113 #[.int .i64 r, .int .i64 c] w fun xe w' => xe = .returned (.int .i64 1) ∧ Below w.heap.size w w' := by
 go_enter Tryz.func113, Tryz.ntmps113
 go_wp2_with fail
 exact bodyPost_ret (v := .int .i64 1) (by simp [results, Tryz.results113, go_sem]) rfl ⟨rfl, Below.refl _ _⟩
set_option maxHeartbeats 4000000 in
set_option maxRecDepth 100000 in
theorem msize_big1 (r c : Int) (hr : ¬ r < 0) (hc : ¬ c < 0) (h2 : 2048 < r) (w : World) : Calls Tryz.prog 113 #[.int .i64 r, .int .i64 c] w fun xe w' => xe = .returned (.int .i64 3) ∧ Below w.heap.size w w' := by
 go_enter Tryz.func113, Tryz.ntmps113
 go_wp2_with fail
 exact bodyPost_ret (v := .int .i64 3) (by simp [results, Tryz.results113, go_sem]) rfl ⟨rfl, Below.refl _ _⟩
set_option maxHeartbeats 4000000 in
set_option maxRecDepth 100000 in
theorem mcheck_ok (r c n d : Nat) (ao : Option Addr) (hr : r ≤ 2048) (hc : c ≤ 2048) (hn : n = r * c) (w : World) : Calls Tryz.prog 77 #[.agg #[.int .i64 (r : Int), .int .i64 (c : Int), .slice ao n d]] w fun xe w' => xe = .returned (.int .i64 0) ∧ Below w.heap.size w w' := by
 have HS := Lib.hid (msize_ok r c hr hc)
 have hmul : (r : Int) * (c : Int) = (n : Int) := by rw [hn, Int.natCast_mul]
 have hle : n ≤ 2048 * 2048 := by rw [hn]; exact Nat.mul_le_mul hr hc
 have hb1 : (n : Int) ≤ 5000000 := by omega
 have hb0 : (0 : Int) ≤ (n : Int) := Int.natCast_nonneg _
 clear hr hc hn hle
 have hL0 : GL w w [] := GL.start w
 replace hL0 := (hL0.new rfl [.int .i64 (r : Int), .int .i64 (c : Int), .slice ao n d] 56)
 generalize hweq : (w.alloc (.cells #[.int .i64 (r : Int), .int .i64 (c : Int), .slice ao n d] 56)) = x1 at hL0
 have hA := hL0.fc
 simp only [fcG, cellsF, neK, and_true, ne_eq, Nat.zero_add, Nat.reduceAdd] at hA
 go_enter Tryz.func77, Tryz.ntmps77
 go_wp2_with fail
 with_reducible refine Calls.mono (HS.out _) ?_
 rintro e y1 ⟨rfl, hb⟩
 replace hL0 := hL0.call hb
 clear hb hA hweq
 have hA := hL0.fc
 simp only [fcG, cellsF, neK, and_true, ne_eq, Nat.zero_add, Nat.reduceAdd] at hA
 go_wp2_with fail
 exact bodyPost_ret (v := .int .i64 0) (by simp [results, Tryz.results77, go_sem]) rfl ⟨rfl, hL0.bl⟩
set_option maxHeartbeats 4000000 in
set_option maxRecDepth 100000 in
theorem mat_w (r c n d g i k p : Nat) (q : Rat) (hp : p = i * c) (hk : p + k < n) (hn : n ≤ 5000000) (w : World)
  (f0 : w.cell? ⟨g, (p + k) * 5, none⟩ = some (.int .u64 ((zl q.num : Nat) : Int))) (f1 : w.cell? ⟨g, (p + k) * 5 + 1, none⟩ = some (.string (zh q.num))) (f2 : w.cell? ⟨g, (p + k) * 5 + 2, none⟩ = some (.bool (zs q.num))) (f3 : w.cell? ⟨g, (p + k) * 5 + 3, none⟩ = some (.int .u64 ((lo (fe q) : Nat) : Int))) (f4 : w.cell? ⟨g, (p + k) * 5 + 4, none⟩ = some (.string (hs (fe q)))) :
  Calls Tryz.prog 110 #[.agg #[.int .i64 (r : Int), .int .i64 (c : Int), .slice (some ⟨g, 0, none⟩) n d], .int .i64 (i : Int), .int .i64 (k : Int)] w fun xe w' => xe = .returned (fracV q) ∧ Below w.heap.size w w' := by
 have hmul : (i : Int) * (c : Int) = (p : Int) := by rw [hp, Int.natCast_mul]
 have k0 : (0 : Int) ≤ (p : Int) + (k : Int) := by omega
 have k1 : (p : Int) + (k : Int) < (n : Int) := by omega
 have k2 : (p : Int) ≤ 5000000 := by omega
 have k3 : (p : Int) + (k : Int) ≤ 5000000 := by omega
 clear hp hk hn
 have hL0 : GL w w [] := GL.start w
 replace hL0 := ((hL0.new rfl [.int .i64 (r : Int), .int .i64 (c : Int), .slice (some ⟨g, 0, none⟩) n d] 56).new (K := w.heap.size + 1) (szA _ _) [.int .u64 0, .string ⟨#[]⟩, .bool false, .int .u64 0, .string ⟨#[]⟩] 36)
 generalize hweq : ((w.alloc (.cells #[.int .i64 (r : Int), .int .i64 (c : Int), .slice (some ⟨g, 0, none⟩) n d] 56)).alloc (.cells #[.int .u64 0, .string ⟨#[]⟩, .bool false, .int .u64 0, .string ⟨#[]⟩] 36)) = x1 at hL0
 replace f0 := keepsC hL0.bl f0
 replace f1 := keepsC hL0.bl f1
 replace f2 := keepsC hL0.bl f2
 replace f3 := keepsC hL0.bl f3
 replace f4 := keepsC hL0.bl f4
 have hA := hL0.fc
 simp only [fcG, cellsF, neK, and_true, ne_eq, Nat.zero_add, Nat.reduceAdd] at hA
 go_enter Tryz.func110, Tryz.ntmps110
 have hPt := hL0.put 0 (w.heap.size + 1) _ rfl [.int .u64 ((zl q.num : Nat) : Int), .string (zh q.num), .bool (zs q.num), .int .u64 ((lo (fe q) : Nat) : Int), .string (hs (fe q))] rfl
 simp only [setAll, List.set_cons_zero, List.set_cons_succ] at hPt
 generalize hput1 : (((((x1.setCell ⟨w.heap.size + 1, 0, none⟩ (.int .u64 ((zl q.num : Nat) : Int))).setCell ⟨w.heap.size + 1, 1, none⟩ (.string (zh q.num))).setCell ⟨w.heap.size + 1, 2, none⟩ (.bool (zs q.num))).setCell ⟨w.heap.size + 1, 3, none⟩ (.int .u64 ((lo (fe q) : Nat) : Int))).setCell ⟨w.heap.size + 1, 4, none⟩ (.string (hs (fe q)))) = x9 at hPt
 have hB1 := hPt.fc
 simp only [fcG, cellsF, neK, and_true, ne_eq, Nat.zero_add, Nat.reduceAdd] at hB1
 go_wp2_with fail
 exact bodyPost_ret (v := fracV q) (by simp [results, Tryz.results110, go_sem, hB1]) rfl ⟨rfl, hPt.bl⟩
set_option maxHeartbeats 4000000 in
set_option maxRecDepth 100000 in
theorem mrow_w (r c n d i p e : Nat) (ao a2 : Option Addr) (hp : p = i * c) (he : e = (i + 1) * c) (hi : i ≤ 100000) (hn : e ≤ 5000000)
  (hs : ∀ W, (Instr.slice 27 (.slice ao n d) (some (.int .i64 (p : Int))) (some (.int .i64 (e : Int))) (some (.int .i64 (e : Int)))).run Tryz.prog W = .ok (.slice a2 c c) W) (w : World) :
  Calls Tryz.prog 131 #[.agg #[.int .i64 (r : Int), .int .i64 (c : Int), .slice ao n d], .int .i64 (i : Int)] w fun xe w' => xe = .returned (.slice a2 c c) ∧ Below w.heap.size w w' := by
 have hmul : (i : Int) * (c : Int) = (p : Int) := by rw [hp, Int.natCast_mul]
 have hmul2 : ((i : Int) + 1) * (c : Int) = (e : Int) := by rw [he, Int.natCast_mul]; rfl
 have hle : p ≤ e := by rw [hp, he]; exact Nat.mul_le_mul_right _ (by omega)
 have k0 : (0 : Int) ≤ (i : Int) + 1 := by omega
 have k1 : (i : Int) + 1 ≤ 100001 := by omega
 have k2 : (0 : Int) ≤ (p : Int) := by omega
 have k3 : (p : Int) ≤ 5000000 := by omega
 have k4 : (0 : Int) ≤ (e : Int) := by omega
 have k5 : (e : Int) ≤ 5000000 := by omega
 clear hp he hle hi hn
 have hL0 : GL w w [] := GL.start w
 replace hL0 := (hL0.new rfl [.int .i64 (r : Int), .int .i64 (c : Int), .slice ao n d] 56)
 generalize hweq : (w.alloc (.cells #[.int .i64 (r : Int), .int .i64 (c : Int), .slice ao n d] 56)) = x1 at hL0
 have hA := hL0.fc
 simp only [fcG, cellsF, neK, and_true, ne_eq, Nat.zero_add, Nat.reduceAdd] at hA
 go_enter Tryz.func131, Tryz.ntmps131
 go_upto_region 1 with fail
 clear hweq hA
 obtain ⟨α, iα, F, hF1, hF2⟩ := cls x1
 have hq := GL.fcC hF1 hL0
 simp only [fcC, cellsC, and_true, Nat.zero_add, Nat.reduceAdd] at hq
 refine region_cls (F := F) (by kernel_rfl) (lexB_of_fast (by kernel_rfl)) (cls_drew hF2) ?_
 repeat (go_big_quiet_step (first | fail))
 refine wpQuiet_nil ?_
 rintro wq ⟨xq, rfl⟩
 replace hL0 := hL0.call (hF1 xq)
 clear hq hF2
 generalize F xq = x2 at hL0 ⊢
 clear hF1 xq iα F α
 have hA := hL0.fc
 simp only [fcG, cellsF, neK, and_true, ne_eq, Nat.zero_add, Nat.reduceAdd] at hA
 go_wp2_with fail
 exact bodyPost_ret (v := .slice a2 c c) (by simp [results, Tryz.results131, go_sem]) rfl ⟨rfl, hL0.bl⟩
theorem makeM (w : World) (c : Int) (n : Nat) (hc : c = n) (h : n ≤ 1000000) :
  (Instr.makeSlice 27 (.int .i64 c) (.int .i64 c)).run Tryz.prog w = .ok (.slice (some ⟨w.heap.size, 0, none⟩) n n) (w.alloc (.cells (frCs (List.replicate n 0)).toArray 36)) := by
 subst hc
 obtain ⟨i, hi, hz, h1, h2⟩ := info_parts infoFr
 have := run_make (P := Tryz.prog) w 27 36 i _ Tryz.underlying27 hi hz .i64 .i64 (n : Int) (n : Int) (by omega) (Int.le_refl _) (by rw [h2]; omega) (by omega)
 rw [this, h1]
 simp only [Int.toNat_natCast]
 rw [made_zerosF]
set_option maxHeartbeats 4000000 in
set_option maxRecDepth 100000 in
theorem mbuild_w (K : FuncId) (caps : Array Value) (eg : ∀ (args : Array Value) (w : World), (callFunc K args).run Tryz.prog w = .ok (.enter K args) w) (r c : Nat) (f : Nat → Nat → Rat) (P : World → Prop) (hP : Keeps P)
  (HC : ∀ i k, i < r → k < c → ∀ w, P w → Calls Tryz.prog K (#[.int .i64 (i : Int), .int .i64 (k : Int)] ++ caps) w fun xe w' => xe = .returned (fracV (f i k)) ∧ Below w.heap.size w w')
  (hr : r ≤ 2048) (hc : c ≤ 2048) (hn : r * c ≤ 100000) (w : World) (kP : P w) :
  Calls Tryz.prog 108 #[.int .i64 (r : Int), .int .i64 (c : Int), .func (.func K) #[] caps] w fun xe w' => ∃ v, xe = .returned (.agg #[.int .i64 (r : Int), .int .i64 (c : Int), v]) ∧ NV w.heap.size (tabM r c f).l v w' ∧ Below w.heap.size w w' := by
 show Calls _ _ _ _ fun xe w' => ∃ v, _ ∧ NV w.heap.size (tabV (r * c) fun q => f (q / c) (q % c)) v w' ∧ _
 obtain ⟨m, hm⟩ : ∃ m, m = r * c := ⟨_, rfl⟩
 rw [← hm] at hn ⊢
 have hmk := fun W => makeM W (m : Int) m rfl (by omega)
 have hmul : (r : Int) * (c : Int) = (m : Int) := by rw [hm, Int.natCast_mul]
 have hm1 : (m : Int) ≤ 100000 := by omega
 have hm0 : (0 : Int) ≤ (m : Int) := Int.natCast_nonneg _
 replace hP := Lib.hid hP
 replace HC := Lib.hid HC
 replace hm := Lib.hid hm
 replace hr := Lib.hid hr
 replace hc := Lib.hid hc
 have hL0 : GL w w [] := GL.start w
 replace hL0 := hL0.new rfl [.int .i64 0, .int .i64 0, .slice none 0 0] 56
 generalize hweq : w.alloc (.cells #[.int .i64 0, .int .i64 0, .slice none 0 0] 56) = x1 at hL0
 have hx1 : w.heap.size ≤ x1.heap.size := hL0.bl.size
 replace hL0 := hL0.new (K := x1.heap.size) rfl (frCs (List.replicate m 0)) 36
 generalize hweq2 : x1.alloc (.cells (frCs (List.replicate m 0)).toArray 36) = x2 at hL0
 rw [← rowV_zero (fun q => f (q / c) (q % c)) m] at hL0
 replace kP := Lib.hid kP
 go_enter Tryz.func108, Tryz.ntmps108
 go_wp2_with fail
 clear hweq hweq2 hmk
 obtain ⟨g, hg⟩ : ∃ g, g = x1.heap.size := ⟨_, rfl⟩
 rw [← hg] at hL0 ⊢
 rw [← hg] at hx1
 replace hg := Lib.hid hg
 replace hx1 := Lib.hid hx1
 obtain ⟨b, hbw⟩ : ∃ b, b = w.heap.size := ⟨_, rfl⟩
 rw [← hbw] at hL0 hx1 ⊢
 replace hbw := Lib.hid hbw
 go_loopg [15] r (fun gk iv wr => ∃ (i : Nat) (zi : Int), i + gk = r ∧ iv = .int .i64 zi ∧ zi = (i : Int) ∧ GL w wr [(g, frCs (rowV (fun q => f (q / c) (q % c)) m (i * c))), (b, [.int .i64 0, .int .i64 0, .slice none 0 0])])
 case atStart => exact ⟨0, 0, Nat.zero_add r, by first | rfl | go_num, rfl, by rw [Nat.zero_mul]; exact hL0⟩
 case round =>
  clear hL0
  obtain ⟨i, zi, hik, rfl, hzi, hL0⟩ := hrel
  rcases Nat.lt_or_ge i r with hin | hin
  ·subst hzi
   have k1 : (i : Int) < (r : Int) := by omega
   have k0 : (0 : Int) ≤ (i : Int) := Int.natCast_nonneg _
   have kb : (i : Int) ≤ 100000 := by have := hr.out; omega
   obtain ⟨p, hp⟩ : ∃ p, p = i * c := ⟨_, rfl⟩
   have hmu2 : (i : Int) * (c : Int) = (p : Int) := by rw [hp, Int.natCast_mul]
   rw [← hp] at hL0
   replace hp := Lib.hid hp
   have hpm := Lib.hid (show ∀ k, k < c → p + k < m by intro k hk; rw [hp.out, hm.out]; exact ix_lt hin hk)
   have hpc := Lib.hid (show p + c = (i + 1) * c by rw [hp.out, Nat.add_mul, Nat.one_mul])
   go_wp2_with fail
   obtain ⟨wo, hwo⟩ : ∃ wo, wo = wr := ⟨_, rfl⟩
   subst hwo
   go_loopg [19] c (fun gk kv wr2 => ∃ (k : Nat) (zk : Int), k + gk = c ∧ kv = .int .i64 zk ∧ zk = (k : Int) ∧ GL w wr2 [(g, frCs (rowV (fun q => f (q / c) (q % c)) m (p + k))), (b, [.int .i64 0, .int .i64 0, .slice none 0 0])])
   case atStart => exact ⟨0, 0, Nat.zero_add c, by first | rfl | go_num, rfl, hL0⟩
   case round =>
    clear hL0
    obtain ⟨k, zk, hkk, rfl, hzk, hL0⟩ := hrel
    rcases Nat.lt_or_ge k c with hkn | hkn
    ·subst hzk
     have m1 : (k : Int) < (c : Int) := by omega
     have m0 : (0 : Int) ≤ (k : Int) := Int.natCast_nonneg _
     have hpk := hpm.out k hkn
     have m2 : (p : Int) + (k : Int) < (m : Int) := by omega
     have m3 : (0 : Int) ≤ (p : Int) + (k : Int) := by omega
     have m4 : (p : Int) + (k : Int) ≤ 100000 := by omega
     have HC1 := HC.out i k hin hkn
     obtain ⟨q, hq⟩ : ∃ q, q = f i k := ⟨_, rfl⟩
     rw [← hq] at HC1
     have hq2 := Lib.hid (show q = (fun q => f (q / c) (q % c)) (p + k) by show q = f ((p + k) / c) ((p + k) % c); rw [hp.out, ix_div hkn, ix_mod hkn]; exact hq)
     replace hq := Lib.hid hq
     replace HC1 := Lib.hid HC1
     go_wp2_with fail
     with_reducible refine Calls.mono (HC1.out _ (hP.out.at hL0.bl kP.out)) ?_
     rintro e y1 ⟨rfl, hb⟩
     replace hL0 := hL0.call hb
     clear hb
     have zh := hL0.get _ _ List.mem_cons_self
     have hlen := rowV_len (fun q => f (q / c) (q % c)) m (p + k) (Nat.le_of_lt hpk)
     obtain ⟨z0, z1, z2, z3, z4⟩ := (hd_fs zh).cell (p + k) (by omega)
     have zz := zh.frz
     clear zh
     have hPt := hL0.putF 0 g (rowV (fun q => f (q / c) (q % c)) m (p + k)) rfl (p + k) q (by omega)
     simp only [List.set_cons_zero, List.set_cons_succ] at hPt
     generalize hputr : (((((y1.setCell ⟨g, (p + k) * 5, none⟩ (.int .u64 ((zl q.num : Nat) : Int))).setCell ⟨g, (p + k) * 5 + 1, none⟩ (.string (zh q.num))).setCell ⟨g, (p + k) * 5 + 2, none⟩ (.bool (zs q.num))).setCell ⟨g, (p + k) * 5 + 3, none⟩ (.int .u64 ((lo (fe q) : Nat) : Int))).setCell ⟨g, (p + k) * 5 + 4, none⟩ (.string (hs (fe q)))) = y2 at hPt
     rw [hq2.out, rowV_step _ m (p + k) hpk] at hPt
     clear hL0
     have hL0 := hPt
     clear hPt
     go_wp2_with fail
     go_roundg (c - (k + 1))
     case measure => omega
     case rel => exact ⟨k + 1, _, by omega, by first | rfl | go_num, by omega, hL0⟩
    ·obtain rfl : c = k := by omega
     subst hzk
     have m1 : ¬ (c : Int) < (c : Int) := by omega
     rw [hpc.out] at hL0
     go_wp2_with fail
     go_roundg (r - (i + 1))
     case measure => omega
     case rel => exact ⟨i + 1, _, by omega, by first | rfl | go_num, by omega, hL0⟩
  ·obtain rfl : r = i := by omega
   subst hzi
   have k1 : ¬ (r : Int) < (r : Int) := by omega
   rw [← hm.out, rowV_end] at hL0
   have hA := cells_of _ 0 [] rfl (hL0.get _ _ (List.mem_cons_of_mem _ List.mem_cons_self))
   simp only [cellsF, and_true, Nat.zero_add, Nat.reduceAdd] at hA
   have zf := (hL0.get _ _ (List.mem_cons_of_mem _ List.mem_cons_self)).frz
   have hPt := hL0.put 1 b _ rfl [.int .i64 (r : Int), .int .i64 (c : Int), .slice (some ⟨g, 0, none⟩) m m] rfl
   simp only [setAll, List.set_cons_zero, List.set_cons_succ] at hPt
   generalize hput1 : (((wr.setCell ⟨b, 0, none⟩ (.int .i64 (r : Int))).setCell ⟨b, 1, none⟩ (.int .i64 (c : Int))).setCell ⟨b, 2, none⟩ (.slice (some ⟨g, 0, none⟩) m m)) = y9 at hPt
   have hB1 := cells_of _ 0 [] rfl (hPt.get _ _ (List.mem_cons_of_mem _ List.mem_cons_self))
   simp only [cellsF, and_true, Nat.zero_add, Nat.reduceAdd] at hB1
   have hNV : NV w.heap.size (tabV m fun q => f (q / c) (q % c)) (.slice (some ⟨g, 0, none⟩) m m) y9 := ⟨g, by rw [tabV_len], by rw [← hbw.out]; exact hx1.out, hPt.get _ _ List.mem_cons_self⟩
   replace hNV := Lib.hid hNV
   clear hL0
   go_wp2_with fail
   exact bodyPost_ret (v := .agg #[.int .i64 (r : Int), .int .i64 (c : Int), .slice (some ⟨g, 0, none⟩) m m]) (by simp [results, Tryz.results108, go_sem, hB1]) rfl ⟨_, rfl, hNV.out, hPt.bl⟩
end Go.Proofs.YtjdjhlmcbffocaaGreatDoor
namespace Go.Proofs.YtjdjhlmcbffocaaGreatDoor
open Go.RowKit
attribute [local irreducible] lo hs sm s64 c64 d64 b64 mh ml pd pc qd qc val hiB str cmpI srD lz nb zl zh zs fe rowV tabV gv bsV tabM
/-- A matrix in a box. -/
def BM (w : World) (b : Nat) (u : Value) (x : Mx) : Prop := w.cell? ⟨b, 0, none⟩ = some (.int .i64 (x.r : Int)) ∧ w.cell? ⟨b, 1, none⟩ = some (.int .i64 (x.c : Int)) ∧ w.cell? ⟨b, 2, none⟩ = some u ∧ CQ w u x.l
theorem BM.keeps (b : Nat) (u : Value) (x : Mx) : Keeps fun w => BM w b u x := fun _ _ hb h => ⟨keepsC hb h.1, keepsC hb h.2.1, keepsC hb h.2.2.1, h.2.2.2.below hb⟩
theorem BM.of {w : World} {b : Nat} {u : Value} {x : Mx} (h : Hd w b [.int .i64 (x.r : Int), .int .i64 (x.c : Int), u]) (hu : CQ w u x.l) : BM w b u x := ⟨h.cell 0 (by simp), h.cell 1 (by simp), h.cell 2 (by simp), hu⟩
structure OKM (x : Mx) : Prop where
 r : x.r ≤ 2048
 c : x.c ≤ 2048
 len : x.l.length = x.r * x.c
theorem OKM.le {x : Mx} (h : OKM x) : x.r * x.c ≤ 5000000 := by
 have := Nat.mul_le_mul h.r h.c
 omega
theorem GM.ok {x : Mx} {n k K : Nat} (h : GM x n k K) (hn : n ≤ 2048) (hk : k ≤ 2048) : OKM x := ⟨by rw [h.r]; exact hn, by rw [h.c]; exact hk, by rw [h.len, h.r, h.c]⟩
/-- An element. -/
theorem matV (x : Mx) (hx : OKM x) (i k : Nat) (hi : i < x.r) (hk : k < x.c) (u : Value) (w : World) (hu : CQ w u x.l) :
  Calls Tryz.prog 110 #[.agg #[.int .i64 (x.r : Int), .int .i64 (x.c : Int), u], .int .i64 (i : Int), .int .i64 (k : Int)] w fun xe w' => xe = .returned (fracV (ent x i k)) ∧ Below w.heap.size w w' := by
 obtain ⟨ao, d, rfl, -⟩ := hu.form
 have hlt := ix_lt hi hk
 obtain ⟨g, rfl, -, ff⟩ := slq_at hu.1 (i * x.c + k) (by rw [hx.len]; exact hlt)
 obtain ⟨f0, f1, f2, f3, f4⟩ := fsc ff (i * x.c + k) (by rw [hx.len]; exact hlt)
 exact mat_w x.r x.c x.l.length d g i k (i * x.c) (ent x i k) rfl (by rw [hx.len]; exact hlt) (by rw [hx.len]; exact hx.le) w f0 f1 f2 f3 f4
/-- A row. -/
theorem mrowV (x : Mx) (hx : OKM x) (i : Nat) (hi : i < x.r) (u : Value) (w0 : World) (hu : CQ w0 u x.l) :
  ∃ a2, (∀ w, Calls Tryz.prog 131 #[.agg #[.int .i64 (x.r : Int), .int .i64 (x.c : Int), u], .int .i64 (i : Int)] w fun xe w' => xe = .returned (.slice a2 x.c x.c) ∧ Below w.heap.size w w') ∧ RQ w0 (.slice a2 x.c x.c) (rowL x i) := by
 obtain ⟨ao, d, rfl, hd⟩ := hu.form
 obtain ⟨a2, h1, h2⟩ := row_slice hu.1 hd hx.len i hi
 have hle : (i + 1) * x.c ≤ x.r * x.c := Nat.mul_le_mul_right _ hi
 have := hx.le
 have := hx.r
 exact ⟨a2, fun w => mrow_w x.r x.c x.l.length d i (i * x.c) ((i + 1) * x.c) ao a2 rfl rfl (by omega) (by omega) h1 w, h2⟩
set_option maxHeartbeats 4000000 in
set_option maxRecDepth 100000 in
theorem mturn1_w (i k r c n d b1 : Nat) (ao : Option Addr) (q : Rat) (KC : World → Prop) (hKC : Keeps KC) (HA : ∀ w, KC w → Calls Tryz.prog 110 #[.agg #[.int .i64 (r : Int), .int .i64 (c : Int), .slice ao n d], .int .i64 (k : Int), .int .i64 (i : Int)] w fun xe w' => xe = .returned (fracV q) ∧ Below w.heap.size w w') (w : World) (kC : KC w) (c0 : w.cell? ⟨b1, 0, none⟩ = some (.int .i64 (r : Int))) (c1 : w.cell? ⟨b1, 1, none⟩ = some (.int .i64 (c : Int))) (c2 : w.cell? ⟨b1, 2, none⟩ = some (.slice ao n d)) :
  Calls Tryz.prog 197 #[.int .i64 (i : Int), .int .i64 (k : Int), .pointer (some ⟨b1, 0, none⟩)] w fun xe w' => xe = .returned (fracV q) ∧ Below w.heap.size w w' := by
 replace HA := Lib.hid HA
 replace hKC := Lib.hid hKC
 have hL0 : GL w w [] := GL.start w
 have hb0 : Below w.heap.size w (w.alloc (.cells #[.int .u64 0, .string ⟨#[]⟩, .bool false, .int .u64 0, .string ⟨#[]⟩] 36)) := (Below.refl _ _).alloc (Nat.le_refl _) _
 replace c0 := keepsC hb0 c0
 replace c1 := keepsC hb0 c1
 replace c2 := keepsC hb0 c2
 replace kC := hKC.out _ _ hb0 kC
 replace hL0 := hL0.new rfl [.int .u64 0, .string ⟨#[]⟩, .bool false, .int .u64 0, .string ⟨#[]⟩] 36
 generalize hweq : w.alloc (.cells #[.int .u64 0, .string ⟨#[]⟩, .bool false, .int .u64 0, .string ⟨#[]⟩] 36) = x1 at hL0 c0 c1 c2 kC
 clear hb0
 go_enter Tryz.func197, Tryz.ntmps197
 go_wp2_with fail
 with_reducible refine Calls.mono (HA.out _ kC) ?_
 rintro e x2 ⟨rfl, hb⟩
 replace hL0 := hL0.call hb
 clear hb hweq c0 c1 c2
 have hA := hL0.fc
 simp only [fcG, cellsF, neK, and_true, ne_eq, Nat.zero_add, Nat.reduceAdd] at hA
 have hPt := hL0.put 0 (w.heap.size) _ rfl [.int .u64 ((zl q.num : Nat) : Int), .string (zh q.num), .bool (zs q.num), .int .u64 ((lo (fe q) : Nat) : Int), .string (hs (fe q))] rfl
 simp only [setAll, List.set_cons_zero, List.set_cons_succ] at hPt
 generalize hput1 : (((((x2.setCell ⟨w.heap.size, 0, none⟩ (.int .u64 ((zl q.num : Nat) : Int))).setCell ⟨w.heap.size, 1, none⟩ (.string (zh q.num))).setCell ⟨w.heap.size, 2, none⟩ (.bool (zs q.num))).setCell ⟨w.heap.size, 3, none⟩ (.int .u64 ((lo (fe q) : Nat) : Int))).setCell ⟨w.heap.size, 4, none⟩ (.string (hs (fe q)))) = x9 at hPt
 have hB1 := hPt.fc
 simp only [fcG, cellsF, neK, and_true, ne_eq, Nat.zero_add, Nat.reduceAdd] at hB1
 go_wp2_with fail
 exact bodyPost_ret (v := fracV q) (by simp [results, Tryz.results197, go_sem, hB1]) rfl ⟨rfl, hPt.bl⟩
set_option maxHeartbeats 4000000 in
set_option maxRecDepth 100000 in
theorem mapp1_w (i k r c n d b1 b2 : Nat) (ao : Option Addr) (u v : Value) (q : Rat) (KC : World → Prop) (hKC : Keeps KC) (HR : ∀ w, Calls Tryz.prog 131 #[.agg #[.int .i64 (r : Int), .int .i64 (c : Int), .slice ao n d], .int .i64 (i : Int)] w fun xe w' => xe = .returned (u) ∧ Below w.heap.size w w') (HD : ∀ w, KC w → Calls Tryz.prog 106 #[u, v] w fun xe w' => xe = .returned (fracV q) ∧ Below w.heap.size w w') (w : World) (kC : KC w) (c0 : w.cell? ⟨b1, 0, none⟩ = some (.int .i64 (r : Int))) (c1 : w.cell? ⟨b1, 1, none⟩ = some (.int .i64 (c : Int))) (c2 : w.cell? ⟨b1, 2, none⟩ = some (.slice ao n d)) (c3 : w.cell? ⟨b2, 0, none⟩ = some (v)) :
  Calls Tryz.prog 175 #[.int .i64 (i : Int), .int .i64 (k : Int), .pointer (some ⟨b1, 0, none⟩), .pointer (some ⟨b2, 0, none⟩)] w fun xe w' => xe = .returned (fracV q) ∧ Below w.heap.size w w' := by
 replace HR := Lib.hid HR
 replace HD := Lib.hid HD
 replace hKC := Lib.hid hKC
 have hL0 : GL w w [] := GL.start w
 have hb0 : Below w.heap.size w (w.alloc (.cells #[.int .u64 0, .string ⟨#[]⟩, .bool false, .int .u64 0, .string ⟨#[]⟩] 36)) := (Below.refl _ _).alloc (Nat.le_refl _) _
 replace c0 := keepsC hb0 c0
 replace c1 := keepsC hb0 c1
 replace c2 := keepsC hb0 c2
 replace c3 := keepsC hb0 c3
 replace kC := hKC.out _ _ hb0 kC
 replace hL0 := hL0.new rfl [.int .u64 0, .string ⟨#[]⟩, .bool false, .int .u64 0, .string ⟨#[]⟩] 36
 generalize hweq : w.alloc (.cells #[.int .u64 0, .string ⟨#[]⟩, .bool false, .int .u64 0, .string ⟨#[]⟩] 36) = x1 at hL0 c0 c1 c2 c3 kC
 clear hb0
 replace c0 := Lib.hid c0
 replace c1 := Lib.hid c1
 replace c2 := Lib.hid c2
 replace c3 := Lib.hid c3
 replace kC := Lib.hid kC
 go_enter Tryz.func175, Tryz.ntmps175
 go_upto_region 1 with fail
 clear hweq
 obtain ⟨α, iα, F, hF1, hF2⟩ := cls x1
 have hq0 : ∀ yz, (F yz).cell? ⟨b1, 0, none⟩ = some (.int .i64 (r : Int)) := fun yz => keepsC (hF1 yz) c0.out
 have hq1 : ∀ yz, (F yz).cell? ⟨b1, 1, none⟩ = some (.int .i64 (c : Int)) := fun yz => keepsC (hF1 yz) c1.out
 have hq2 : ∀ yz, (F yz).cell? ⟨b1, 2, none⟩ = some (.slice ao n d) := fun yz => keepsC (hF1 yz) c2.out
 have hq3 : ∀ yz, (F yz).cell? ⟨b2, 0, none⟩ = some (v) := fun yz => keepsC (hF1 yz) c3.out
 have kC1 := kC.out
 refine region_qs 5 (C := fun w' => ∃ x, w' = F x) (by kernel_rfl) (by kernel_rfl) (cls_drew hF2) ?_
 simp only [List.take_succ_cons, List.take_zero, List.drop_succ_cons, List.drop_zero, List.take_nil, List.drop_nil]
 repeat (go_big_quiet_step (first | fail | (go_at_call 131; with_reducible exact cls_call hF1 hF2 HR.out _) | (go_at_call 106; with_reducible exact cls_callK hKC.out hF1 hF2 kC1 HD.out _)))
 refine wpQuiet_nil ?_
 rintro wq ⟨xq, rfl⟩
 replace hL0 := hL0.call (hF1 xq)
 clear hq0 hq1 hq2 hq3 hF2 kC1
 generalize F xq = x2 at hL0 ⊢
 clear hF1 xq iα F α
 have hA := hL0.fc
 simp only [fcG, cellsF, neK, and_true, ne_eq, Nat.zero_add, Nat.reduceAdd] at hA
 have hPt := hL0.put 0 (w.heap.size) _ rfl [.int .u64 ((zl q.num : Nat) : Int), .string (zh q.num), .bool (zs q.num), .int .u64 ((lo (fe q) : Nat) : Int), .string (hs (fe q))] rfl
 simp only [setAll, List.set_cons_zero, List.set_cons_succ] at hPt
 generalize hput1 : (((((x2.setCell ⟨w.heap.size, 0, none⟩ (.int .u64 ((zl q.num : Nat) : Int))).setCell ⟨w.heap.size, 1, none⟩ (.string (zh q.num))).setCell ⟨w.heap.size, 2, none⟩ (.bool (zs q.num))).setCell ⟨w.heap.size, 3, none⟩ (.int .u64 ((lo (fe q) : Nat) : Int))).setCell ⟨w.heap.size, 4, none⟩ (.string (hs (fe q)))) = x9 at hPt
 have hB1 := hPt.fc
 simp only [fcG, cellsF, neK, and_true, ne_eq, Nat.zero_add, Nat.reduceAdd] at hB1
 go_wp2_with fail
 exact bodyPost_ret (v := fracV q) (by simp [results, Tryz.results175, go_sem, hB1]) rfl ⟨rfl, hPt.bl⟩
set_option maxHeartbeats 4000000 in
set_option maxRecDepth 100000 in
theorem mmul1_w (i k r c n d ry cy ny dy b1 b2 : Nat) (ao ao2 : Option Addr) (u v : Value) (q : Rat) (KC : World → Prop) (hKC : Keeps KC) (HR : ∀ w, Calls Tryz.prog 131 #[.agg #[.int .i64 (r : Int), .int .i64 (c : Int), .slice ao n d], .int .i64 (i : Int)] w fun xe w' => xe = .returned (u) ∧ Below w.heap.size w w') (HS : ∀ w, Calls Tryz.prog 131 #[.agg #[.int .i64 (ry : Int), .int .i64 (cy : Int), .slice ao2 ny dy], .int .i64 (k : Int)] w fun xe w' => xe = .returned (v) ∧ Below w.heap.size w w') (HD : ∀ w, KC w → Calls Tryz.prog 106 #[u, v] w fun xe w' => xe = .returned (fracV q) ∧ Below w.heap.size w w') (w : World) (kC : KC w) (c0 : w.cell? ⟨b1, 0, none⟩ = some (.int .i64 (r : Int))) (c1 : w.cell? ⟨b1, 1, none⟩ = some (.int .i64 (c : Int))) (c2 : w.cell? ⟨b1, 2, none⟩ = some (.slice ao n d)) (c3 : w.cell? ⟨b2, 0, none⟩ = some (.int .i64 (ry : Int))) (c4 : w.cell? ⟨b2, 1, none⟩ = some (.int .i64 (cy : Int))) (c5 : w.cell? ⟨b2, 2, none⟩ = some (.slice ao2 ny dy)) :
  Calls Tryz.prog 141 #[.int .i64 (i : Int), .int .i64 (k : Int), .pointer (some ⟨b1, 0, none⟩), .pointer (some ⟨b2, 0, none⟩)] w fun xe w' => xe = .returned (fracV q) ∧ Below w.heap.size w w' := by
 replace HR := Lib.hid HR
 replace HS := Lib.hid HS
 replace HD := Lib.hid HD
 replace hKC := Lib.hid hKC
 have hL0 : GL w w [] := GL.start w
 have hb0 : Below w.heap.size w (w.alloc (.cells #[.int .u64 0, .string ⟨#[]⟩, .bool false, .int .u64 0, .string ⟨#[]⟩] 36)) := (Below.refl _ _).alloc (Nat.le_refl _) _
 replace c0 := keepsC hb0 c0
 replace c1 := keepsC hb0 c1
 replace c2 := keepsC hb0 c2
 replace c3 := keepsC hb0 c3
 replace c4 := keepsC hb0 c4
 replace c5 := keepsC hb0 c5
 replace kC := hKC.out _ _ hb0 kC
 replace hL0 := hL0.new rfl [.int .u64 0, .string ⟨#[]⟩, .bool false, .int .u64 0, .string ⟨#[]⟩] 36
 generalize hweq : w.alloc (.cells #[.int .u64 0, .string ⟨#[]⟩, .bool false, .int .u64 0, .string ⟨#[]⟩] 36) = x1 at hL0 c0 c1 c2 c3 c4 c5 kC
 clear hb0
 replace c0 := Lib.hid c0
 replace c1 := Lib.hid c1
 replace c2 := Lib.hid c2
 replace c3 := Lib.hid c3
 replace c4 := Lib.hid c4
 replace c5 := Lib.hid c5
 replace kC := Lib.hid kC
 go_enter Tryz.func141, Tryz.ntmps141
 go_upto_region 1 with fail
 clear hweq
 obtain ⟨α, iα, F, hF1, hF2⟩ := cls x1
 have hq0 : ∀ yz, (F yz).cell? ⟨b1, 0, none⟩ = some (.int .i64 (r : Int)) := fun yz => keepsC (hF1 yz) c0.out
 have hq1 : ∀ yz, (F yz).cell? ⟨b1, 1, none⟩ = some (.int .i64 (c : Int)) := fun yz => keepsC (hF1 yz) c1.out
 have hq2 : ∀ yz, (F yz).cell? ⟨b1, 2, none⟩ = some (.slice ao n d) := fun yz => keepsC (hF1 yz) c2.out
 have hq3 : ∀ yz, (F yz).cell? ⟨b2, 0, none⟩ = some (.int .i64 (ry : Int)) := fun yz => keepsC (hF1 yz) c3.out
 have hq4 : ∀ yz, (F yz).cell? ⟨b2, 1, none⟩ = some (.int .i64 (cy : Int)) := fun yz => keepsC (hF1 yz) c4.out
 have hq5 : ∀ yz, (F yz).cell? ⟨b2, 2, none⟩ = some (.slice ao2 ny dy) := fun yz => keepsC (hF1 yz) c5.out
 have kC1 := kC.out
 refine region_qs 7 (C := fun w' => ∃ x, w' = F x) (by kernel_rfl) (by kernel_rfl) (cls_drew hF2) ?_
 simp only [List.take_succ_cons, List.take_zero, List.drop_succ_cons, List.drop_zero, List.take_nil, List.drop_nil]
 repeat (go_big_quiet_step (first | fail | (go_at_call 131; with_reducible exact cls_call hF1 hF2 HR.out _) | (go_at_call 131; with_reducible exact cls_call hF1 hF2 HS.out _) | (go_at_call 106; with_reducible exact cls_callK hKC.out hF1 hF2 kC1 HD.out _)))
 refine wpQuiet_nil ?_
 rintro wq ⟨xq, rfl⟩
 replace hL0 := hL0.call (hF1 xq)
 clear hq0 hq1 hq2 hq3 hq4 hq5 hF2 kC1
 generalize F xq = x2 at hL0 ⊢
 clear hF1 xq iα F α
 have hA := hL0.fc
 simp only [fcG, cellsF, neK, and_true, ne_eq, Nat.zero_add, Nat.reduceAdd] at hA
 have hPt := hL0.put 0 (w.heap.size) _ rfl [.int .u64 ((zl q.num : Nat) : Int), .string (zh q.num), .bool (zs q.num), .int .u64 ((lo (fe q) : Nat) : Int), .string (hs (fe q))] rfl
 simp only [setAll, List.set_cons_zero, List.set_cons_succ] at hPt
 generalize hput1 : (((((x2.setCell ⟨w.heap.size, 0, none⟩ (.int .u64 ((zl q.num : Nat) : Int))).setCell ⟨w.heap.size, 1, none⟩ (.string (zh q.num))).setCell ⟨w.heap.size, 2, none⟩ (.bool (zs q.num))).setCell ⟨w.heap.size, 3, none⟩ (.int .u64 ((lo (fe q) : Nat) : Int))).setCell ⟨w.heap.size, 4, none⟩ (.string (hs (fe q)))) = x9 at hPt
 have hB1 := hPt.fc
 simp only [fcG, cellsF, neK, and_true, ne_eq, Nat.zero_add, Nat.reduceAdd] at hB1
 go_wp2_with fail
 exact bodyPost_ret (v := fracV q) (by simp [results, Tryz.results141, go_sem, hB1]) rfl ⟨rfl, hPt.bl⟩
set_option maxHeartbeats 4000000 in
set_option maxRecDepth 100000 in
theorem mpart1_w (i k r c n d b1 b2 b3 gp np cp gq nq cq p q0 : Nat) (ao : Option Addr) (q : Rat) (KC : World → Prop) (hKC : Keeps KC) (HA : ∀ w, KC w → Calls Tryz.prog 110 #[.agg #[.int .i64 (r : Int), .int .i64 (c : Int), .slice ao n d], .int .i64 (p : Int), .int .i64 (q0 : Int)] w fun xe w' => xe = .returned (fracV q) ∧ Below w.heap.size w w') (hi : i < np) (hk : k < nq) (w : World) (kC : KC w) (c0 : w.cell? ⟨b1, 0, none⟩ = some (.int .i64 (r : Int))) (c1 : w.cell? ⟨b1, 1, none⟩ = some (.int .i64 (c : Int))) (c2 : w.cell? ⟨b1, 2, none⟩ = some (.slice ao n d)) (c3 : w.cell? ⟨b2, 0, none⟩ = some (.slice (some ⟨gp, 0, none⟩) np cp)) (c4 : w.cell? ⟨b3, 0, none⟩ = some (.slice (some ⟨gq, 0, none⟩) nq cq)) (c5 : w.cell? ⟨gp, i, none⟩ = some (.int .i64 (p : Int))) (c6 : w.cell? ⟨gq, k, none⟩ = some (.int .i64 (q0 : Int))) :
  Calls Tryz.prog 119 #[.int .i64 (i : Int), .int .i64 (k : Int), .pointer (some ⟨b1, 0, none⟩), .pointer (some ⟨b2, 0, none⟩), .pointer (some ⟨b3, 0, none⟩)] w fun xe w' => xe = .returned (fracV q) ∧ Below w.heap.size w w' := by
 replace HA := Lib.hid HA
 replace hKC := Lib.hid hKC
 have k0 : (0 : Int) ≤ (i : Int) := Int.natCast_nonneg _
 have k1 : (i : Int) < (np : Int) := by omega
 have k2 : (0 : Int) ≤ (k : Int) := Int.natCast_nonneg _
 have k3 : (k : Int) < (nq : Int) := by omega
 clear hi hk
 have hL0 : GL w w [] := GL.start w
 have hb0 : Below w.heap.size w (w.alloc (.cells #[.int .u64 0, .string ⟨#[]⟩, .bool false, .int .u64 0, .string ⟨#[]⟩] 36)) := (Below.refl _ _).alloc (Nat.le_refl _) _
 replace c0 := keepsC hb0 c0
 replace c1 := keepsC hb0 c1
 replace c2 := keepsC hb0 c2
 replace c3 := keepsC hb0 c3
 replace c4 := keepsC hb0 c4
 replace c5 := keepsC hb0 c5
 replace c6 := keepsC hb0 c6
 replace kC := hKC.out _ _ hb0 kC
 replace hL0 := hL0.new rfl [.int .u64 0, .string ⟨#[]⟩, .bool false, .int .u64 0, .string ⟨#[]⟩] 36
 generalize hweq : w.alloc (.cells #[.int .u64 0, .string ⟨#[]⟩, .bool false, .int .u64 0, .string ⟨#[]⟩] 36) = x1 at hL0 c0 c1 c2 c3 c4 c5 c6 kC
 clear hb0
 replace c0 := Lib.hid c0
 replace c1 := Lib.hid c1
 replace c2 := Lib.hid c2
 replace c3 := Lib.hid c3
 replace c4 := Lib.hid c4
 replace c5 := Lib.hid c5
 replace c6 := Lib.hid c6
 replace kC := Lib.hid kC
 go_enter Tryz.func119, Tryz.ntmps119
 go_upto_region 1 with fail
 clear hweq
 obtain ⟨α, iα, F, hF1, hF2⟩ := cls x1
 have hq0 : ∀ yz, (F yz).cell? ⟨b1, 0, none⟩ = some (.int .i64 (r : Int)) := fun yz => keepsC (hF1 yz) c0.out
 have hq1 : ∀ yz, (F yz).cell? ⟨b1, 1, none⟩ = some (.int .i64 (c : Int)) := fun yz => keepsC (hF1 yz) c1.out
 have hq2 : ∀ yz, (F yz).cell? ⟨b1, 2, none⟩ = some (.slice ao n d) := fun yz => keepsC (hF1 yz) c2.out
 have hq3 : ∀ yz, (F yz).cell? ⟨b2, 0, none⟩ = some (.slice (some ⟨gp, 0, none⟩) np cp) := fun yz => keepsC (hF1 yz) c3.out
 have hq4 : ∀ yz, (F yz).cell? ⟨b3, 0, none⟩ = some (.slice (some ⟨gq, 0, none⟩) nq cq) := fun yz => keepsC (hF1 yz) c4.out
 have hq5 : ∀ yz, (F yz).cell? ⟨gp, i, none⟩ = some (.int .i64 (p : Int)) := fun yz => keepsC (hF1 yz) c5.out
 have hq6 : ∀ yz, (F yz).cell? ⟨gq, k, none⟩ = some (.int .i64 (q0 : Int)) := fun yz => keepsC (hF1 yz) c6.out
 have kC1 := kC.out
 refine region_qs 10 (C := fun w' => ∃ x, w' = F x) (by kernel_rfl) (by kernel_rfl) (cls_drew hF2) ?_
 simp only [List.take_succ_cons, List.take_zero, List.drop_succ_cons, List.drop_zero, List.take_nil, List.drop_nil]
 repeat (go_big_quiet_step (first | fail | (go_at_call 110; with_reducible exact cls_callK hKC.out hF1 hF2 kC1 HA.out _)))
 refine wpQuiet_nil ?_
 rintro wq ⟨xq, rfl⟩
 replace hL0 := hL0.call (hF1 xq)
 clear hq0 hq1 hq2 hq3 hq4 hq5 hq6 hF2 kC1
 generalize F xq = x2 at hL0 ⊢
 clear hF1 xq iα F α
 have hA := hL0.fc
 simp only [fcG, cellsF, neK, and_true, ne_eq, Nat.zero_add, Nat.reduceAdd] at hA
 have hPt := hL0.put 0 (w.heap.size) _ rfl [.int .u64 ((zl q.num : Nat) : Int), .string (zh q.num), .bool (zs q.num), .int .u64 ((lo (fe q) : Nat) : Int), .string (hs (fe q))] rfl
 simp only [setAll, List.set_cons_zero, List.set_cons_succ] at hPt
 generalize hput1 : (((((x2.setCell ⟨w.heap.size, 0, none⟩ (.int .u64 ((zl q.num : Nat) : Int))).setCell ⟨w.heap.size, 1, none⟩ (.string (zh q.num))).setCell ⟨w.heap.size, 2, none⟩ (.bool (zs q.num))).setCell ⟨w.heap.size, 3, none⟩ (.int .u64 ((lo (fe q) : Nat) : Int))).setCell ⟨w.heap.size, 4, none⟩ (.string (hs (fe q)))) = x9 at hPt
 have hB1 := hPt.fc
 simp only [fcG, cellsF, neK, and_true, ne_eq, Nat.zero_add, Nat.reduceAdd] at hB1
 go_wp2_with fail
 exact bodyPost_ret (v := fracV q) (by simp [results, Tryz.results119, go_sem, hB1]) rfl ⟨rfl, hPt.bl⟩
end Go.Proofs.YtjdjhlmcbffocaaGreatDoor
namespace Go.Proofs.YtjdjhlmcbffocaaGreatDoor
open Go.RowKit
attribute [local irreducible] lo hs sm s64 c64 d64 b64 mh ml pd pc qd qc val hiB str cmpI srD lz nb zl zh zs fe rowV tabV gv bsV tabM
theorem enmturn : ∀ (args : Array Value) (w : World), (callFunc 197 args).run Tryz.prog w = .ok (.enter 197 args) w := enters_of Tryz.func197 (by kernel_rfl) rfl
theorem enmapp : ∀ (args : Array Value) (w : World), (callFunc 175 args).run Tryz.prog w = .ok (.enter 175 args) w := enters_of Tryz.func175 (by kernel_rfl) rfl
theorem enmmul : ∀ (args : Array Value) (w : World), (callFunc 141 args).run Tryz.prog w = .ok (.enter 141 args) w := enters_of Tryz.func141 (by kernel_rfl) rfl
theorem enmpart : ∀ (args : Array Value) (w : World), (callFunc 119 args).run Tryz.prog w = .ok (.enter 119 args) w := enters_of Tryz.func119 (by kernel_rfl) rfl
/-- The dot product. -/
theorem mdotV (x y : List Rat) (n k : Nat) (hx : x.length = n) (hy : y.length = n) (hn : n ≤ 1000) (hk : n * (k + k + 1) ≤ 19000) (hk2 : k + k ≤ 19000) (sx : ∀ q ∈ x, Sz q k) (sy : ∀ q ∈ y, Sz q k) (va vb : Value) (w : World) (hv : RQ w va x) (hu : RQ w vb y) :
  Calls Tryz.prog 106 #[va, vb] w fun xe w' => xe = .returned (fracV (bsV n fun i => gv x i * gv y i)) ∧ Below w.heap.size w w' := by
 have HD := fun (w : World) (h : RQ w va x ∧ RQ w vb y) => mDotV x y n k hx hy hn hk hk2 sx sy va vb w h.1 h.2
 generalize bsV n (fun i => gv x i * gv y i) = q at HD ⊢
 obtain ⟨aa, ca, rfl⟩ := hv.form
 obtain ⟨ab, cb, rfl⟩ := hu.form
 have HD1 := Lib.hid HD
 clear HD
 have hL0 : GL w w [] := GL.start w
 replace hL0 := (hL0.new rfl [.int .u64 0, .string ⟨#[]⟩, .bool false, .int .u64 0, .string ⟨#[]⟩] 36)
 generalize hweq : (w.alloc (.cells #[.int .u64 0, .string ⟨#[]⟩, .bool false, .int .u64 0, .string ⟨#[]⟩] 36)) = x1 at hL0
 have hv1 := Lib.hid (hv.below hL0.bl)
 have hu1 := Lib.hid (hu.below hL0.bl)
 clear hv hu hx hy sx sy hn hk hk2
 go_enter Tryz.func106, Tryz.ntmps106
 go_wp2_with fail
 with_reducible refine Calls.mono (HD1.out _ ⟨hv1.out, hu1.out⟩) ?_
 rintro e y1 ⟨rfl, hb⟩
 replace hL0 := hL0.call hb
 clear hb hweq hv1 hu1
 have hL1 := hL0.new rfl [.int .u64 0, .string ⟨#[]⟩, .bool false, .int .u64 0, .string ⟨#[]⟩] 36
 generalize hweq : y1.alloc (.cells #[.int .u64 0, .string ⟨#[]⟩, .bool false, .int .u64 0, .string ⟨#[]⟩] 36) = y2 at hL1
 have hP := hL1.put 0 (y1.heap.size) _ rfl [.int .u64 ((zl q.num : Nat) : Int), .string (zh q.num), .bool (zs q.num), .int .u64 ((lo (fe q) : Nat) : Int), .string (hs (fe q))] rfl
 simp only [setAll, List.set_cons_zero, List.set_cons_succ] at hP
 have hA := hL1.fc
 simp only [fcG, cellsF, neK, and_true, ne_eq, Nat.zero_add, Nat.reduceAdd] at hA
 generalize hput0 : (((((y2.setCell ⟨y1.heap.size, 0, none⟩ (.int .u64 ((zl q.num : Nat) : Int))).setCell ⟨y1.heap.size, 1, none⟩ (.string (zh q.num))).setCell ⟨y1.heap.size, 2, none⟩ (.bool (zs q.num))).setCell ⟨y1.heap.size, 3, none⟩ (.int .u64 ((lo (fe q) : Nat) : Int))).setCell ⟨y1.heap.size, 4, none⟩ (.string (hs (fe q)))) = y3 at hP
 clear hL0 hL1
 have hL0 := hP
 clear hP
 have hB0 := hL0.fc
 simp only [fcG, cellsF, neK, and_true, ne_eq, Nat.zero_add, Nat.reduceAdd] at hB0
 have hPt := hL0.put 1 (w.heap.size) _ rfl [.int .u64 ((zl q.num : Nat) : Int), .string (zh q.num), .bool (zs q.num), .int .u64 ((lo (fe q) : Nat) : Int), .string (hs (fe q))] rfl
 simp only [setAll, List.set_cons_zero, List.set_cons_succ] at hPt
 generalize hput1 : (((((y3.setCell ⟨w.heap.size, 0, none⟩ (.int .u64 ((zl q.num : Nat) : Int))).setCell ⟨w.heap.size, 1, none⟩ (.string (zh q.num))).setCell ⟨w.heap.size, 2, none⟩ (.bool (zs q.num))).setCell ⟨w.heap.size, 3, none⟩ (.int .u64 ((lo (fe q) : Nat) : Int))).setCell ⟨w.heap.size, 4, none⟩ (.string (hs (fe q)))) = y9 at hPt
 have hB1 := hPt.fc
 simp only [fcG, cellsF, neK, and_true, ne_eq, Nat.zero_add, Nat.reduceAdd] at hB1
 go_wp2_with fail
 exact bodyPost_ret (v := fracV q) (by simp [results, Tryz.results106, go_sem, hB1]) rfl ⟨rfl, hPt.bl⟩
theorem mturn_at (x : Mx) (hx : OKM x) (b1 : Nat) (u : Value) (i k : Nat) (hi : i < x.c) (hk : k < x.r) (w : World) (hw : BM w b1 u x) :
  Calls Tryz.prog 197 (#[.int .i64 (i : Int), .int .i64 (k : Int)] ++ #[.pointer (some ⟨b1, 0, none⟩)]) w fun xe w' => xe = .returned (fracV (ent x k i)) ∧ Below w.heap.size w w' := by
 obtain ⟨ao, d, rfl, -⟩ := hw.2.2.2.form
 exact mturn1_w i k x.r x.c x.l.length d b1 ao (ent x k i) (fun w => CQ w _ x.l) (CQ.keeps _ _) (fun w h => matV x hx k i hk hi _ w h) w hw.2.2.2 hw.1 hw.2.1 hw.2.2.1
theorem mapp_at (x : Mx) (v : List Rat) (K : Nat) (hx : OKM x) (hv : v.length = x.c) (h1 : x.c ≤ 1000) (h2 : x.c * (K + K + 1) ≤ 19000) (h3 : K + K ≤ 19000) (sx : ∀ q ∈ x.l, Sz q K) (sv : ∀ q ∈ v, Sz q K) (b1 b2 : Nat) (u s : Value) (i k : Nat) (hi : i < x.r) (w : World) (hw : BM w b1 u x ∧ RQ w s v ∧ w.cell? ⟨b2, 0, none⟩ = some s) :
  Calls Tryz.prog 175 (#[.int .i64 (i : Int), .int .i64 (k : Int)] ++ #[.pointer (some ⟨b1, 0, none⟩), .pointer (some ⟨b2, 0, none⟩)]) w fun xe w' => xe = .returned (fracV (bsV x.c fun t => ent x i t * gv v t)) ∧ Below w.heap.size w w' := by
 obtain ⟨hb, hs, hc⟩ := hw
 obtain ⟨a2, g1, g2⟩ := mrowV x hx i hi u w hb.2.2.2
 obtain ⟨ao, d, rfl, -⟩ := hb.2.2.2.form
 have HD := fun (w : World) (h : RQ w (.slice a2 x.c x.c) (rowL x i) ∧ RQ w s v) => mdotV (rowL x i) v x.c K (row_len x i) hv h1 h2 h3 (fun q hq => by
  obtain ⟨t, ht, rfl⟩ := tab_mem hq
  exact sx _ (gv_mem (by rw [hx.len]; exact ix_lt hi ht))) sv _ _ w h.1 h.2
 rw [bs_congr (g := fun t => ent x i t * gv v t) fun t ht => by rw [gv_row ht]] at HD
 exact mapp1_w i k x.r x.c x.l.length d b1 b2 ao _ s _ _ (Keeps.and (RQ.keeps _ _) (RQ.keeps _ _)) g1 HD w ⟨g2, hs⟩ hb.1 hb.2.1 hb.2.2.1 hc
theorem mmul_at (x y : Mx) (K : Nat) (hx : OKM x) (hy : OKM y) (hc : y.c = x.c) (h1 : x.c ≤ 1000) (h2 : x.c * (K + K + 1) ≤ 19000) (h3 : K + K ≤ 19000) (sx : ∀ q ∈ x.l, Sz q K) (sy : ∀ q ∈ y.l, Sz q K) (b1 b2 : Nat) (u s : Value) (i k : Nat) (hi : i < x.r) (hk : k < y.r) (w : World) (hw : BM w b1 u x ∧ BM w b2 s y) :
  Calls Tryz.prog 141 (#[.int .i64 (i : Int), .int .i64 (k : Int)] ++ #[.pointer (some ⟨b1, 0, none⟩), .pointer (some ⟨b2, 0, none⟩)]) w fun xe w' => xe = .returned (fracV (bsV x.c fun t => ent x i t * ent y k t)) ∧ Below w.heap.size w w' := by
 obtain ⟨hb, hs⟩ := hw
 obtain ⟨a2, g1, g2⟩ := mrowV x hx i hi u w hb.2.2.2
 obtain ⟨a3, g3, g4⟩ := mrowV y hy k hk s w hs.2.2.2
 obtain ⟨ao, d, rfl, -⟩ := hb.2.2.2.form
 obtain ⟨ao2, d2, rfl, -⟩ := hs.2.2.2.form
 have HD := fun (w : World) (h : RQ w (.slice a2 x.c x.c) (rowL x i) ∧ RQ w (.slice a3 y.c y.c) (rowL y k)) => mdotV (rowL x i) (rowL y k) x.c K (row_len x i) ((row_len y k).trans hc) h1 h2 h3 (fun q hq => by
  obtain ⟨t, ht, rfl⟩ := tab_mem hq
  exact sx _ (gv_mem (by rw [hx.len]; exact ix_lt hi ht))) (fun q hq => by
  obtain ⟨t, ht, rfl⟩ := tab_mem hq
  exact sy _ (gv_mem (by rw [hy.len]; exact ix_lt hk ht))) _ _ w h.1 h.2
 rw [bs_congr (g := fun t => ent x i t * ent y k t) fun t ht => by rw [gv_row ht, gv_row (by rw [hc]; exact ht)]] at HD
 exact mmul1_w i k x.r x.c x.l.length d y.r y.c y.l.length d2 b1 b2 ao ao2 _ _ _ _ (Keeps.and (RQ.keeps _ _) (RQ.keeps _ _)) g1 g3 HD w ⟨g2, g4⟩ hb.1 hb.2.1 hb.2.2.1 hs.1 hs.2.1 hs.2.2.1
theorem mpart_at (x : Mx) (hx : OKM x) (ps qs : List Nat) (hp : ∀ p ∈ ps, p < x.r) (hq : ∀ p ∈ qs, p < x.c) (b1 b2 b3 : Nat) (u va vb : Value) (i k : Nat) (hi : i < ps.length) (hk : k < qs.length) (w : World) (hw : BM w b1 u x ∧ ILs w va (ps.map Int.ofNat) ∧ ILs w vb (qs.map Int.ofNat) ∧ w.cell? ⟨b2, 0, none⟩ = some va ∧ w.cell? ⟨b3, 0, none⟩ = some vb) :
  Calls Tryz.prog 119 (#[.int .i64 (i : Int), .int .i64 (k : Int)] ++ #[.pointer (some ⟨b1, 0, none⟩), .pointer (some ⟨b2, 0, none⟩), .pointer (some ⟨b3, 0, none⟩)]) w fun xe w' => xe = .returned (fracV (ent x (ps.getD i 0) (qs.getD k 0))) ∧ Below w.heap.size w w' := by
 obtain ⟨hb, h1, h2, h3, h4⟩ := hw
 obtain ⟨ao, d, rfl, -⟩ := hb.2.2.2.form
 obtain ⟨ap, cp, gp, rfl, e1, e2⟩ := h1
 obtain ⟨aq, cr, gq, rfl, e3, e4⟩ := h2
 rw [List.length_map] at e1 e3 h3 h4
 obtain ⟨rfl, -⟩ := e1 (by omega)
 obtain ⟨rfl, -⟩ := e3 (by omega)
 have c1 := e2 i (by rw [List.length_map]; exact hi)
 have c2 := e4 k (by rw [List.length_map]; exact hk)
 rw [List.getElem_map] at c1 c2
 rw [getN hi, getN hk]
 exact mpart1_w i k x.r x.c x.l.length d b1 b2 b3 gp ps.length cp gq qs.length cr ps[i] qs[k] ao _ (fun w => CQ w _ x.l) (CQ.keeps _ _) (fun w h => matV x hx _ _ (hp _ (List.getElem_mem hi)) (hq _ (List.getElem_mem hk)) _ w h) hi hk w hb.2.2.2 hb.1 hb.2.1 hb.2.2.1 h3 h4 c1 c2
end Go.Proofs.YtjdjhlmcbffocaaGreatDoor
namespace Go.Proofs.YtjdjhlmcbffocaaGreatDoor
open Go.RowKit
attribute [local irreducible] lo hs sm s64 c64 d64 b64 mh ml pd pc qd qc val hiB str cmpI srD lz nb zl zh zs fe rowV tabV gv bsV tabM
set_option maxHeartbeats 4000000 in
set_option maxRecDepth 100000 in
theorem mfault_w (m c g : Nat) (ao : Option Addr) (hm : m ≤ 100000) (w : World) (hx : 0 < m → ao = some ⟨g, 0, none⟩)
  (hc : ∀ i, i < m → ∃ (r k n d : Nat) (a : Option Addr), r ≤ 2048 ∧ k ≤ 2048 ∧ n = r * k ∧ w.cell? ⟨g, i * 3, none⟩ = some (.int .i64 (r : Int)) ∧ w.cell? ⟨g, i * 3 + 1, none⟩ = some (.int .i64 (k : Int)) ∧ w.cell? ⟨g, i * 3 + 2, none⟩ = some (.slice a n d)) :
  Calls Tryz.prog 140 #[.slice ao m c] w fun xe w' => xe = .returned (.int .i64 0) ∧ Below w.heap.size w w' := by
 replace hm := Lib.hid hm
 replace hx := Lib.hid hx
 replace hc := Lib.hid hc
 go_enter Tryz.func140, Tryz.ntmps140
 go_wp2_with fail
 go_loopg [8] m (fun gk iv wr => ∃ (k : Nat) (zi : Int), k + gk = m ∧ iv = .int .i64 zi ∧ zi = (k : Int) ∧ Below w.heap.size w wr)
 case atStart => exact ⟨0, 0, Nat.zero_add m, by first | rfl | go_num, rfl, Below.refl _ _⟩
 case round =>
  obtain ⟨k, zi, hik, rfl, hzi, hbl⟩ := hrel
  have hmm := hm.out
  rcases Nat.lt_or_ge k m with hin | hin
  ·subst hzi
   have k1 : (k : Int) < (m : Int) := by omega
   have k0 : (0 : Int) ≤ (k : Int) := Int.natCast_nonneg _
   have kb : (k : Int) ≤ 100000 := by omega
   obtain ⟨r, q, n, d, a, h1, h2, h3, c0, c1, c3⟩ := hc.out k hin
   have e0 := hx.out (by omega)
   subst e0
   have HK := Lib.hid (mcheck_ok r q n d a h1 h2 h3)
   clear h1 h2 h3
   replace c0 := keepsC hbl c0
   replace c1 := keepsC hbl c1
   replace c3 := keepsC hbl c3
   have hL0 := (GL.start wr).new rfl [.int .i64 (r : Int), .int .i64 (q : Int), .slice a n d] 56
   generalize hweq : wr.alloc (.cells #[.int .i64 (r : Int), .int .i64 (q : Int), .slice a n d] 56) = y1 at hL0
   have hA := hL0.fc
   simp only [fcG, cellsF, neK, and_true, ne_eq, Nat.zero_add, Nat.reduceAdd] at hA
   go_wp2_with fail
   with_reducible refine Calls.mono (HK.out _) ?_
   rintro e y2 ⟨rfl, hb⟩
   have hb2 := hbl.trans ((hL0.call hb).bl.mono hbl.size)
   clear hb hL0 hbl hA hweq c0 c1 c3
   replace hb2 := Lib.hid hb2
   go_wp2_with fail
   go_roundg (m - (k + 1))
   case measure => omega
   case rel => exact ⟨k + 1, _, by omega, by first | rfl | go_num, by omega, hb2.out⟩
  ·obtain rfl : k = m := by omega
   subst hzi
   have k1 : ¬ (k : Int) < (k : Int) := by omega
   replace hbl := Lib.hid hbl
   go_wp2_with fail
   exact bodyPost_ret (v := .int .i64 0) (by simp [results, Tryz.results140, go_sem]) rfl ⟨rfl, hbl.out⟩
theorem mfault_two (x y : Mx) (hx : OKM x) (hy : OKM y) (g : Nat) (u s : Value) (w : World) (hu : CQ w u x.l) (hs : CQ w s y.l) (hd : Hd w g [.int .i64 (x.r : Int), .int .i64 (x.c : Int), u, .int .i64 (y.r : Int), .int .i64 (y.c : Int), s]) :
  Calls Tryz.prog 140 #[.slice (some ⟨g, 0, none⟩) 2 2] w fun xe w' => xe = .returned (.int .i64 0) ∧ Below w.heap.size w w' := by
 obtain ⟨ao, d, rfl, -⟩ := hu.form
 obtain ⟨ao2, d2, rfl, -⟩ := hs.form
 refine mfault_w 2 2 g _ (by omega) w (fun _ => rfl) fun i hi => ?_
 rcases (by omega : i = 0 ∨ i = 1) with rfl | rfl
 ·exact ⟨x.r, x.c, x.l.length, d, ao, hx.r, hx.c, hx.len, hd.cell 0 (by simp), hd.cell 1 (by simp), hd.cell 2 (by simp)⟩
 ·exact ⟨y.r, y.c, y.l.length, d2, ao2, hy.r, hy.c, hy.len, hd.cell 3 (by simp), hd.cell 4 (by simp), hd.cell 5 (by simp)⟩
set_option maxHeartbeats 4000000 in
set_option maxRecDepth 100000 in
theorem mfaultWith_w (r q n d m c g : Nat) (a ao : Option Addr) (ln : Nat → Nat) (h1 : r ≤ 2048) (h2 : q ≤ 2048) (h3 : n = r * q) (hm : m ≤ 100000) (hln : ∀ i, i < m → ln i ≤ 2048) (w : World)
  (hx : 0 < m → ao = some ⟨g, 0, none⟩) (hc : ∀ i, i < m → ∃ a d, w.cell? ⟨g, i, none⟩ = some (.slice a (ln i) d)) :
  Calls Tryz.prog 104 #[.agg #[.int .i64 (r : Int), .int .i64 (q : Int), .slice a n d], .slice ao m c] w fun xe w' => xe = .returned (.int .i64 0) ∧ Below w.heap.size w w' := by
 have HK := Lib.hid (mcheck_ok r q n d a h1 h2 h3)
 clear h1 h2 h3
 replace hm := Lib.hid hm
 replace hln := Lib.hid hln
 replace hx := Lib.hid hx
 have hL0 : GL w w [] := GL.start w
 replace hL0 := (hL0.new rfl [.int .i64 (r : Int), .int .i64 (q : Int), .slice a n d] 56)
 generalize hweq : (w.alloc (.cells #[.int .i64 (r : Int), .int .i64 (q : Int), .slice a n d] 56)) = x1 at hL0
 have hA := hL0.fc
 simp only [fcG, cellsF, neK, and_true, ne_eq, Nat.zero_add, Nat.reduceAdd] at hA
 go_enter Tryz.func104, Tryz.ntmps104
 go_wp2_with fail
 with_reducible refine Calls.mono (HK.out _) ?_
 rintro e y1 ⟨rfl, hb⟩
 replace hL0 := hL0.call hb
 clear hb hA hweq
 have hbl := hL0.bl
 clear hL0
 replace hc := Lib.hid hc
 go_wp2_with fail
 go_loopg [15] m (fun gk iv wr => ∃ (k : Nat) (zi : Int), k + gk = m ∧ iv = .int .i64 zi ∧ zi = (k : Int) ∧ Below w.heap.size w wr)
 case atStart => exact ⟨0, 0, Nat.zero_add m, by first | rfl | go_num, rfl, hbl⟩
 case round =>
  clear hbl
  obtain ⟨k, zi, hik, rfl, hzi, hbl⟩ := hrel
  have hmm := hm.out
  rcases Nat.lt_or_ge k m with hin | hin
  ·subst hzi
   have k1 : (k : Int) < (m : Int) := by omega
   have k0 : (0 : Int) ≤ (k : Int) := Int.natCast_nonneg _
   have kb : (k : Int) ≤ 100000 := by omega
   obtain ⟨a2, d2, hcell⟩ := hc.out k hin
   replace hcell := keepsC hbl hcell
   have hl := hln.out k hin
   have e0 := hx.out (by omega)
   subst e0
   have l1 : ¬ (2048 : Int) < (ln k : Int) := by omega
   have l2 : ¬ 2048 < ln k := by omega
   generalize ln k = lk at *
   replace hbl := Lib.hid hbl
   go_wp2_with fail
   go_roundg (m - (k + 1))
   case measure => omega
   case rel => exact ⟨k + 1, _, by omega, by first | rfl | go_num, by omega, hbl.out⟩
  ·obtain rfl : k = m := by omega
   subst hzi
   have k1 : ¬ (k : Int) < (k : Int) := by omega
   replace hbl := Lib.hid hbl
   go_wp2_with fail
   exact bodyPost_ret (v := .int .i64 0) (by simp [results, Tryz.results104, go_sem]) rfl ⟨rfl, hbl.out⟩
theorem mfaultWith1 (x : Mx) (hx : OKM x) (v : List Rat) (hv : v.length ≤ 2048) (g : Nat) (u s : Value) (w : World) (hu : CQ w u x.l) (hs : SlQ w s v) (hd : Hd w g [s]) :
  Calls Tryz.prog 104 #[.agg #[.int .i64 (x.r : Int), .int .i64 (x.c : Int), u], .slice (some ⟨g, 0, none⟩) 1 1] w fun xe w' => xe = .returned (.int .i64 0) ∧ Below w.heap.size w w' := by
 obtain ⟨ao, d, rfl, -⟩ := hu.form
 obtain ⟨a2, d2, rfl⟩ := slq_form' hs
 refine mfaultWith_w x.r x.c x.l.length d 1 1 g ao _ (fun _ => v.length) hx.r hx.c hx.len (by omega) (fun i _ => hv) w (fun _ => rfl) fun i hi => ?_
 obtain rfl : i = 0 := by omega
 exact ⟨a2, d2, hd.cell 0 (by simp)⟩
theorem mfaultWith2 (x : Mx) (hx : OKM x) (v y : List Rat) (hv : v.length ≤ 2048) (hy : y.length ≤ 2048) (g : Nat) (u s t : Value) (w : World) (hu : CQ w u x.l) (hs : SlQ w s v) (ht : SlQ w t y) (hd : Hd w g [s, t]) :
  Calls Tryz.prog 104 #[.agg #[.int .i64 (x.r : Int), .int .i64 (x.c : Int), u], .slice (some ⟨g, 0, none⟩) 2 2] w fun xe w' => xe = .returned (.int .i64 0) ∧ Below w.heap.size w w' := by
 obtain ⟨ao, d, rfl, -⟩ := hu.form
 obtain ⟨a2, d2, rfl⟩ := slq_form' hs
 obtain ⟨a3, d3, rfl⟩ := slq_form' ht
 refine mfaultWith_w x.r x.c x.l.length d 2 2 g ao _ (fun i => if i = 0 then v.length else y.length) hx.r hx.c hx.len (by omega) (fun i _ => by show (if i = 0 then v.length else y.length) ≤ 2048; split <;> omega) w (fun _ => rfl) fun i hi => ?_
 rcases (by omega : i = 0 ∨ i = 1) with rfl | rfl
 ·exact ⟨a2, d2, hd.cell 0 (by simp)⟩
 ·exact ⟨a3, d3, hd.cell 1 (by simp)⟩
set_option maxHeartbeats 4000000 in
set_option maxRecDepth 100000 in
theorem mturnedV (x : Mx) (hx : OKM x) (hn : x.r * x.c ≤ 100000) (u : Value) (w : World) (hu : CQ w u x.l) :
  Calls Tryz.prog 139 #[.agg #[.int .i64 (x.r : Int), .int .i64 (x.c : Int), u]] w fun xe w' => ∃ v, xe = .returned (.agg #[.int .i64 (x.c : Int), .int .i64 (x.r : Int), v]) ∧ NV w.heap.size (tabM x.c x.r fun i k => ent x k i).l v w' ∧ Below w.heap.size w w' := by
 have hL0 : GL w w [] := GL.start w
 replace hL0 := ((hL0.new rfl [.int .i64 (x.r : Int), .int .i64 (x.c : Int), u] 56).new (K := w.heap.size + 1) (szA _ _) [.int .i64 0, .int .i64 0, .slice none 0 0] 56)
 generalize hweq : ((w.alloc (.cells #[.int .i64 (x.r : Int), .int .i64 (x.c : Int), u] 56)).alloc (.cells #[.int .i64 0, .int .i64 0, .slice none 0 0] 56)) = x1 at hL0
 have hu1 := hu.below hL0.bl
 have hB := BM.of (hL0.get _ _ (List.mem_cons_of_mem _ List.mem_cons_self)) hu1
 have HC := mbuild_w 197 #[.pointer (some ⟨w.heap.size, 0, none⟩)] enmturn x.c x.r (fun i k => ent x k i) (fun w => BM w _ u x) (BM.keeps _ _ _) (fun i k hi hk w h => mturn_at x hx _ u i k hi hk w h) hx.c hx.r (by rw [Nat.mul_comm]; exact hn) x1 hB
 generalize (tabM x.c x.r fun i k => ent x k i).l = tl at HC ⊢
 obtain ⟨ao, d, rfl, -⟩ := hu.form
 replace HC := Lib.hid HC
 clear hu hu1 hB hx hn
 have hA := hL0.fc
 simp only [fcG, cellsF, neK, and_true, ne_eq, Nat.zero_add, Nat.reduceAdd] at hA
 go_enter Tryz.func139, Tryz.ntmps139
 have hx0 := Lib.hid hL0
 go_wp2_with fail
 with_reducible refine Calls.mono (HC.out) ?_
 rintro e y1 ⟨u, rfl, hnv, hb⟩
 replace hL0 := hL0.call hb
 clear hb hA hweq
 replace hx0 := hx0.out
 obtain ⟨gu, rfl, hge, hHd⟩ := hnv
 replace hL0 := GL.tnew (M := []) hL0 hx0 hHd hge (fun p hp => by cases hp)
 simp only [List.nil_append] at hL0
 have hge2 := Lib.hid (Nat.le_trans hx0.bl.size hge)
 clear hx0 hge hHd
 have hA := cells_of _ 0 [] rfl (hL0.get _ _ (List.mem_cons_of_mem _ List.mem_cons_self))
 simp only [cellsF, and_true, Nat.zero_add, Nat.reduceAdd] at hA
 have zf := (hL0.get _ _ (List.mem_cons_of_mem _ List.mem_cons_self)).frz
 have hPt := hL0.put 1 (w.heap.size + 1) _ rfl [.int .i64 (x.c : Int), .int .i64 (x.r : Int), .slice (some ⟨gu, 0, none⟩) tl.length tl.length] rfl
 simp only [setAll, List.set_cons_zero, List.set_cons_succ] at hPt
 generalize hput1 : (((y1.setCell ⟨w.heap.size + 1, 0, none⟩ (.int .i64 (x.c : Int))).setCell ⟨w.heap.size + 1, 1, none⟩ (.int .i64 (x.r : Int))).setCell ⟨w.heap.size + 1, 2, none⟩ (.slice (some ⟨gu, 0, none⟩) tl.length tl.length)) = y2 at hPt
 have hB1 := cells_of _ 0 [] rfl (hPt.get _ _ (List.mem_cons_of_mem _ List.mem_cons_self))
 simp only [cellsF, and_true, Nat.zero_add, Nat.reduceAdd] at hB1
 have hNV : NV w.heap.size tl (.slice (some ⟨gu, 0, none⟩) tl.length tl.length) y2 := ⟨gu, rfl, hge2.out, hPt.get _ _ List.mem_cons_self⟩
 replace hNV := Lib.hid hNV
 clear hL0 hge2
 go_wp2_with fail
 exact bodyPost_ret (v := .agg #[.int .i64 (x.c : Int), .int .i64 (x.r : Int), .slice (some ⟨gu, 0, none⟩) tl.length tl.length]) (by simp [results, Tryz.results139, go_sem, hB1]) rfl ⟨_, rfl, hNV.out, hPt.bl⟩
theorem m_field2 (r c : Int) (a : Option Addr) (n d : Nat) (w : World) : (Instr.field 56 (.agg #[.int .i64 r, .int .i64 c, .slice a n d]) 2).run Tryz.prog w = .ok (.slice a n d) w := by
 simp [go_sem, Instr.field, asAgg]
theorem tab_col (r : Nat) (f : Nat → Rat) : (tabM r 1 fun i _ => f i).l = tabV r f := by
 unfold tabM
 show tabV (r * 1) (fun p => f (p / 1)) = tabV r f
 rw [Nat.mul_one]
 exact tab_ext fun i _ => by rw [Nat.div_one]
set_option maxHeartbeats 4000000 in
set_option maxRecDepth 100000 in
theorem mappliedV (x : Mx) (v : List Rat) (K : Nat) (hx : OKM x) (hv : v.length = x.c) (h1 : x.c ≤ 1000) (h2 : x.c * (K + K + 1) ≤ 19000) (h3 : K + K ≤ 19000) (sx : ∀ q ∈ x.l, Sz q K) (sv : ∀ q ∈ v, Sz q K) (u s : Value) (w : World) (hu : CQ w u x.l) (hs : SlQ w s v) :
  Calls Tryz.prog 105 #[.agg #[.int .i64 (x.r : Int), .int .i64 (x.c : Int), u], s] w fun xe w' => ∃ t, xe = .returned t ∧ NV w.heap.size (tabV x.r fun i => bsV x.c fun t => ent x i t * gv v t) t w' ∧ Below w.heap.size w w' := by
 rw [← tab_col]
 have hL0 : GL w w [] := GL.start w
 replace hL0 := ((hL0.new rfl [.int .i64 (x.r : Int), .int .i64 (x.c : Int), u] 56).new (K := w.heap.size + 1) (szA _ _) [s] 28)
 generalize hweq : ((w.alloc (.cells #[.int .i64 (x.r : Int), .int .i64 (x.c : Int), u] 56)).alloc (.cells #[s] 28)) = x1 at hL0
 have hu1 := hu.below hL0.bl
 have hs1 := hs.below hL0.bl
 have hB := BM.of (hL0.get _ _ (List.mem_cons_of_mem _ List.mem_cons_self)) hu1
 have hc1 := (hL0.get _ _ List.mem_cons_self).cell 0 (by simp)
 simp only [List.getElem_cons_zero, List.getElem_cons_succ] at hc1
 have HC := mbuild_w 175 #[.pointer (some ⟨w.heap.size, 0, none⟩), .pointer (some ⟨w.heap.size + 1, 0, none⟩)] enmapp x.r 1 (fun i _ => bsV x.c fun t => ent x i t * gv v t) (fun w => BM w _ u x ∧ RQ w s v ∧ w.cell? ⟨_, 0, none⟩ = some s) (Keeps.and (BM.keeps _ _ _) (Keeps.and (RQ.keeps _ _) (keepsB _ _))) (fun i k hi hk w h => mapp_at x v K hx hv h1 h2 h3 sx sv _ _ u s i k hi w h) hx.r (by omega) (by have := hx.r; omega) x1 ⟨hB, hs1.rq, hc1⟩
 generalize (tabM x.r 1 fun i _ => bsV x.c fun t => ent x i t * gv v t).l = tl at HC ⊢
 obtain ⟨ao, d, rfl, -⟩ := hu.form
 obtain ⟨a5, d5, rfl⟩ := slq_form' hs
 replace HC := Lib.hid HC
 clear hu hu1 hB hs hs1 hc1 hx hv h1 h2 h3 sx sv
 have hA := hL0.fc
 simp only [fcG, cellsF, neK, and_true, ne_eq, Nat.zero_add, Nat.reduceAdd] at hA
 go_enter Tryz.func105, Tryz.ntmps105
 have hx0 := Lib.hid hL0
 go_wp2_with fail
 with_reducible refine Calls.mono (HC.out) ?_
 rintro e y1 ⟨u, rfl, hnv, hb⟩
 replace hL0 := hL0.call hb
 clear hb hA hweq
 have hNV := Lib.hid (hnv.mono hx0.out.bl.size)
 obtain ⟨gu, rfl, -, -⟩ := hnv
 clear hx0
 replace hL0 := Lib.hid hL0
 have hfd := fun W => m_field2 (x.r : Int) 1 (some ⟨gu, 0, none⟩) tl.length tl.length W
 go_wp2_with fail
 exact bodyPost_ret (v := .slice (some ⟨gu, 0, none⟩) tl.length tl.length) (by simp [results, Tryz.results105, go_sem]) rfl ⟨_, rfl, hNV.out, hL0.out.bl⟩
end Go.Proofs.YtjdjhlmcbffocaaGreatDoor
namespace Go.Proofs.YtjdjhlmcbffocaaGreatDoor
open Go.RowKit
attribute [local irreducible] lo hs sm s64 c64 d64 b64 mh ml pd pc qd qc val hiB str cmpI srD lz nb zl zh zs fe rowV tabV gv bsV tabM
theorem tabM_mk (r c : Nat) (f : Nat → Nat → Rat) : tabM r c f = (⟨r, c, (tabM r c f).l⟩ : Mx) := by unfold tabM; rfl
set_option maxHeartbeats 4000000 in
set_option maxRecDepth 100000 in
theorem mMulV (x y : Mx) (K : Nat) (hx : OKM x) (hy : OKM y) (hc : y.r = x.c) (n1 : x.r * y.c ≤ 100000) (n2 : y.r * y.c ≤ 100000) (h1 : x.c ≤ 1000) (h2 : x.c * (K + K + 1) ≤ 19000) (h3 : K + K ≤ 19000) (sx : ∀ q ∈ x.l, Sz q K) (sy : ∀ q ∈ y.l, Sz q K) (u s : Value) (w : World) (hu : CQ w u x.l) (hs : CQ w s y.l) :
  Calls Tryz.prog 64 #[.agg #[.int .i64 (x.r : Int), .int .i64 (x.c : Int), u], .agg #[.int .i64 (y.r : Int), .int .i64 (y.c : Int), s]] w fun xe w' => ∃ v, xe = .returned (.tuple #[.agg #[.int .i64 (x.r : Int), .int .i64 (y.c : Int), v], .int .i64 0]) ∧ NV w.heap.size (tabM x.r y.c fun i j => bsV x.c fun t => ent x i t * ent y t j).l v w' ∧ Below w.heap.size w w' := by
 obtain ⟨yr, yc, yl⟩ := y
 obtain rfl : yr = x.c := hc
 dsimp only at hs n1 n2 sy ⊢
 have hT := tabM_mk yc x.c (fun i k => ent (⟨x.c, yc, yl⟩ : Mx) k i)
 have hyt : OKM (tabM yc x.c fun i k => ent (⟨x.c, yc, yl⟩ : Mx) k i) := by rw [hT]; exact ⟨hy.c, hy.r, by unfold tabM; exact tabV_len _ _⟩
 have syt : ∀ q ∈ (tabM yc x.c fun i k => ent (⟨x.c, yc, yl⟩ : Mx) k i).l, Sz q K := by
  unfold tabM
  refine tab_all fun p hp => ?_
  obtain ⟨e1, e2⟩ := ix_row hp
  exact sy _ (gv_mem (by rw [hy.len]; exact ix_lt e2 e1))
 have het : ∀ i k, i < yc → k < x.c → ent (tabM yc x.c fun i k => ent (⟨x.c, yc, yl⟩ : Mx) k i) i k = ent (⟨x.c, yc, yl⟩ : Mx) k i := fun i k hi hk => ent_tab hi hk
 have HT := fun w h => mturnedV (⟨x.c, yc, yl⟩ : Mx) hy n2 s w h
 dsimp only at HT
 rw [hT] at hyt het
 generalize (tabM yc x.c fun i k => ent (⟨x.c, yc, yl⟩ : Mx) k i).l = tt at HT hyt syt het
 clear hT
 have HB : ∀ b1 b2 ut ux (w : World), BM w b1 ux x ∧ BM w b2 ut (⟨yc, x.c, tt⟩ : Mx) → Calls Tryz.prog 108 #[.int .i64 (x.r : Int), .int .i64 (yc : Int), .func (.func 141) #[] #[.pointer (some ⟨b1, 0, none⟩), .pointer (some ⟨b2, 0, none⟩)]] w fun xe w' => ∃ v, xe = .returned (.agg #[.int .i64 (x.r : Int), .int .i64 (yc : Int), v]) ∧ NV w.heap.size (tabM x.r yc fun i j => bsV x.c fun t => ent x i t * ent (⟨x.c, yc, yl⟩ : Mx) t j).l v w' ∧ Below w.heap.size w w' := fun b1 b2 ut ux w h =>
  mbuild_w 141 #[.pointer (some ⟨b1, 0, none⟩), .pointer (some ⟨b2, 0, none⟩)] enmmul x.r yc (fun i j => bsV x.c fun t => ent x i t * ent (⟨x.c, yc, yl⟩ : Mx) t j) (fun w => BM w b1 ux x ∧ BM w b2 ut (⟨yc, x.c, tt⟩ : Mx)) (Keeps.and (BM.keeps _ _ _) (BM.keeps _ _ _)) (fun i k hi hk w h => by
   have := mmul_at x (⟨yc, x.c, tt⟩ : Mx) K hx hyt rfl h1 h2 h3 sx syt b1 b2 ux ut i k hi hk w h
   rwa [bs_congr (g := fun t => ent x i t * ent (⟨x.c, yc, yl⟩ : Mx) t k) fun t ht => by rw [het k t hk ht]] at this) hx.r hy.c n1 w h
 have HF := fun (g : Nat) (w : World) (h1 : CQ w u x.l) (h2 : CQ w s yl) (hd : Hd w g [.int .i64 (x.r : Int), .int .i64 (x.c : Int), u, .int .i64 ((⟨x.c, yc, yl⟩ : Mx).r : Int), .int .i64 ((⟨x.c, yc, yl⟩ : Mx).c : Int), s]) => mfault_two x (⟨x.c, yc, yl⟩ : Mx) hx hy g u s w h1 h2 hd
 clear hyt het syt sx sy h1 h2 h3 n1 n2 hx hy
 generalize (tabM x.r yc fun i j => bsV x.c fun t => ent x i t * ent (⟨x.c, yc, yl⟩ : Mx) t j).l = tl at HB ⊢
 obtain ⟨ao, d, rfl, -⟩ := id hu.form
 obtain ⟨a5, d5, rfl, -⟩ := id hs.form
 replace HT := Lib.hid HT
 replace HB := Lib.hid HB
 have hL0 : GL w w [] := GL.start w
 replace hL0 := (((hL0.new rfl [.int .i64 (x.r : Int), .int .i64 (x.c : Int), (.slice ao x.l.length d)] 56).new (K := w.heap.size + 1) (szA _ _) [.int .i64 (x.c : Int), .int .i64 (yc : Int), (.slice a5 yl.length d5)] 56).new (K := w.heap.size + 1 + 1) (by simp only [World.size_alloc]) [.int .i64 0, .int .i64 0, .slice none 0 0] 56)
 generalize hweq : (((w.alloc (.cells #[.int .i64 (x.r : Int), .int .i64 (x.c : Int), (.slice ao x.l.length d)] 56)).alloc (.cells #[.int .i64 (x.c : Int), .int .i64 (yc : Int), (.slice a5 yl.length d5)] 56)).alloc (.cells #[.int .i64 0, .int .i64 0, .slice none 0 0] 56)) = x1 at hL0
 have hu1 := hu.below hL0.bl
 have hs1 := hs.below hL0.bl
 have hZ := hL0.fc
 simp only [fcG, cellsF, neK, and_true, ne_eq, Nat.zero_add, Nat.reduceAdd] at hZ
 replace hL0 := (hL0.new rfl [.int .i64 (x.r : Int), .int .i64 (x.c : Int), (.slice ao x.l.length d), .int .i64 (x.c : Int), .int .i64 (yc : Int), (.slice a5 yl.length d5)] 56)
 generalize hweq2 : (x1.alloc (.cells #[.int .i64 (x.r : Int), .int .i64 (x.c : Int), (.slice ao x.l.length d), .int .i64 (x.c : Int), .int .i64 (yc : Int), (.slice a5 yl.length d5)] 56)) = x2 at hL0
 have hb2 : Below x1.heap.size x1 x2 := hweq2 ▸ ((Below.refl _ _).alloc (Nat.le_refl _) _)
 have hu2 := Lib.hid (hu1.below hb2)
 have hs2 := Lib.hid (hs1.below hb2)
 replace HF := Lib.hid (HF x1.heap.size x2 hu2.out hs2.out (hL0.get _ _ List.mem_cons_self))
 clear hu hs hu1 hs1 hb2
 have hA := hL0.fc
 simp only [fcG, cellsF, neK, and_true, ne_eq, Nat.zero_add, Nat.reduceAdd] at hA
 go_enter Tryz.func64, Tryz.ntmps64
 go_wp2_with fail
 with_reducible refine Calls.mono (HF.out) ?_
 rintro e y1 ⟨rfl, hb⟩
 replace hu2 := Lib.hid (hu2.out.below hb)
 replace hs2 := Lib.hid (hs2.out.below hb)
 replace hL0 := hL0.call hb
 clear hb hA hZ hweq hweq2 HF
 have hA := hL0.fc
 simp only [fcG, cellsF, neK, and_true, ne_eq, Nat.zero_add, Nat.reduceAdd] at hA
 have hx0 := Lib.hid hL0
 go_wp2_with fail
 with_reducible refine Calls.mono (HT.out _ hs2.out) ?_
 rintro e y2 ⟨u3, rfl, hnv, hb⟩
 replace hu2 := Lib.hid (hu2.out.below hb)
 replace hL0 := hL0.call hb
 clear hb hA hs2 HT
 replace hx0 := hx0.out
 obtain ⟨gt, rfl, hge, hHd⟩ := hnv
 replace hL0 := GL.tnew (M := []) hL0 hx0 hHd hge (fun p hp => by cases hp)
 simp only [List.nil_append] at hL0
 clear hx0 hge hHd
 have hL1 := hL0.new rfl [.int .i64 (yc : Int), .int .i64 (x.c : Int), (.slice (some ⟨gt, 0, none⟩) tt.length tt.length)] 56
 generalize hweq : y2.alloc (.cells #[.int .i64 (yc : Int), .int .i64 (x.c : Int), (.slice (some ⟨gt, 0, none⟩) tt.length tt.length)] 56) = y3 at hL1
 have hb3 : Below y2.heap.size y2 y3 := hweq ▸ ((Below.refl _ _).alloc (Nat.le_refl _) _)
 replace hu2 := Lib.hid (hu2.out.below hb3)
 clear hb3 hL0
 have hL0 := hL1
 clear hL1
 have hB1 := BM.of (hL0.get _ _ (List.mem_cons_of_mem _ (List.mem_cons_of_mem _ (List.mem_cons_of_mem _ (List.mem_cons_of_mem _ (List.mem_cons_of_mem _ List.mem_cons_self)))))) hu2.out
 have hB2 := BM.of (x := (⟨yc, x.c, tt⟩ : Mx)) (hL0.get _ _ List.mem_cons_self) (show CQ y3 _ tt from ⟨.inr ⟨gt, _, rfl, hd_fs (hL0.get _ _ (List.mem_cons_of_mem _ List.mem_cons_self))⟩, _, _, _, rfl, Nat.le_refl _⟩)
 replace HB := Lib.hid (HB.out _ _ _ _ _ ⟨hB1, hB2⟩)
 clear hB1 hB2 hu2
 have hx0 := Lib.hid hL0
 have hA := cells_of _ 0 [] rfl (hL0.get _ _ (List.mem_cons_of_mem _ (List.mem_cons_of_mem _ (List.mem_cons_of_mem _ (List.mem_cons_of_mem _ (List.mem_cons_of_mem _ List.mem_cons_self))))))
 simp only [cellsF, and_true, Nat.zero_add, Nat.reduceAdd] at hA
 have zA := (hL0.get _ _ (List.mem_cons_of_mem _ (List.mem_cons_of_mem _ (List.mem_cons_of_mem _ (List.mem_cons_of_mem _ (List.mem_cons_of_mem _ List.mem_cons_self)))))).frz
 have hC := cells_of _ 0 [] rfl (hL0.get _ _ (List.mem_cons_of_mem _ (List.mem_cons_of_mem _ (List.mem_cons_of_mem _ (List.mem_cons_of_mem _ List.mem_cons_self)))))
 simp only [cellsF, and_true, Nat.zero_add, Nat.reduceAdd] at hC
 have zC := (hL0.get _ _ (List.mem_cons_of_mem _ (List.mem_cons_of_mem _ (List.mem_cons_of_mem _ (List.mem_cons_of_mem _ List.mem_cons_self))))).frz
 go_wp2_with fail
 with_reducible refine Calls.mono (HB.out) ?_
 rintro e y4 ⟨u, rfl, hnv, hb⟩
 replace hL0 := hL0.call hb
 clear hb hA hC zA zC hweq
 replace hx0 := hx0.out
 obtain ⟨gu, rfl, hge, hHd⟩ := hnv
 replace hL0 := GL.tnew (M := []) hL0 hx0 hHd hge (fun p hp => by cases hp)
 simp only [List.nil_append] at hL0
 have hge2 := Lib.hid (Nat.le_trans hx0.bl.size hge)
 clear hx0 hge hHd
 have hA := cells_of _ 0 [] rfl (hL0.get _ _ (List.mem_cons_of_mem _ (List.mem_cons_of_mem _ (List.mem_cons_of_mem _ (List.mem_cons_of_mem _ List.mem_cons_self)))))
 simp only [cellsF, and_true, Nat.zero_add, Nat.reduceAdd] at hA
 have zf := (hL0.get _ _ (List.mem_cons_of_mem _ (List.mem_cons_of_mem _ (List.mem_cons_of_mem _ (List.mem_cons_of_mem _ List.mem_cons_self))))).frz
 have hPt := hL0.put 4 (w.heap.size + 1 + 1) _ rfl [.int .i64 (x.r : Int), .int .i64 (yc : Int), .slice (some ⟨gu, 0, none⟩) tl.length tl.length] rfl
 simp only [setAll, List.set_cons_zero, List.set_cons_succ] at hPt
 generalize hput1 : (((y4.setCell ⟨w.heap.size + 1 + 1, 0, none⟩ (.int .i64 (x.r : Int))).setCell ⟨w.heap.size + 1 + 1, 1, none⟩ (.int .i64 (yc : Int))).setCell ⟨w.heap.size + 1 + 1, 2, none⟩ (.slice (some ⟨gu, 0, none⟩) tl.length tl.length)) = y5 at hPt
 have hB1 := cells_of _ 0 [] rfl (hPt.get _ _ (List.mem_cons_of_mem _ (List.mem_cons_of_mem _ (List.mem_cons_of_mem _ (List.mem_cons_of_mem _ List.mem_cons_self)))))
 simp only [cellsF, and_true, Nat.zero_add, Nat.reduceAdd] at hB1
 have hNV : NV w.heap.size tl (.slice (some ⟨gu, 0, none⟩) tl.length tl.length) y5 := ⟨gu, rfl, hge2.out, hPt.get _ _ List.mem_cons_self⟩
 replace hNV := Lib.hid hNV
 clear hL0 hge2
 go_wp2_with fail
 exact bodyPost_ret (v := .tuple #[.agg #[.int .i64 (x.r : Int), .int .i64 (yc : Int), .slice (some ⟨gu, 0, none⟩) tl.length tl.length], .int .i64 0]) (by simp [results, Tryz.results64, go_sem, hB1]) rfl ⟨_, rfl, hNV.out, hPt.bl⟩
set_option maxHeartbeats 4000000 in
set_option maxRecDepth 100000 in
theorem mTurnV (x : Mx) (hx : OKM x) (n1 : x.r * x.c ≤ 100000) (u : Value) (w : World) (hu : CQ w u x.l) :
  Calls Tryz.prog 63 #[.agg #[.int .i64 (x.r : Int), .int .i64 (x.c : Int), u]] w fun xe w' => ∃ v, xe = .returned (.tuple #[.agg #[.int .i64 (x.c : Int), .int .i64 (x.r : Int), v], .int .i64 0]) ∧ NV w.heap.size (tabM x.c x.r fun i k => ent x k i).l v w' ∧ Below w.heap.size w w' := by
 have HC := fun w h => mturnedV x hx n1 u w h
 have HK := fun (n d : Nat) (ao : Option Addr) (hn : n = x.r * x.c) => mcheck_ok x.r x.c n d ao hx.r hx.c hn
 have hlen := hx.len
 clear n1 hx
 generalize (tabM x.c x.r fun i k => ent x k i).l = tl at HC ⊢
 obtain ⟨ao, d, rfl, -⟩ := id hu.form
 replace HK := Lib.hid (HK x.l.length d ao hlen)
 clear hlen
 replace HC := Lib.hid HC
 have hL0 : GL w w [] := GL.start w
 replace hL0 := ((hL0.new rfl [.int .i64 (x.r : Int), .int .i64 (x.c : Int), (.slice ao x.l.length d)] 56).new (K := w.heap.size + 1) (szA _ _) [.int .i64 0, .int .i64 0, .slice none 0 0] 56)
 generalize hweq : ((w.alloc (.cells #[.int .i64 (x.r : Int), .int .i64 (x.c : Int), (.slice ao x.l.length d)] 56)).alloc (.cells #[.int .i64 0, .int .i64 0, .slice none 0 0] 56)) = x1 at hL0
 have hu1 := Lib.hid (hu.below hL0.bl)
 clear hu
 have hA := hL0.fc
 simp only [fcG, cellsF, neK, and_true, ne_eq, Nat.zero_add, Nat.reduceAdd] at hA
 go_enter Tryz.func63, Tryz.ntmps63
 go_wp2_with fail
 with_reducible refine Calls.mono (HK.out _) ?_
 rintro e y1 ⟨rfl, hb⟩
 replace hu1 := Lib.hid (hu1.out.below hb)
 replace hL0 := hL0.call hb
 clear hb hA hweq HK
 have hx0 := Lib.hid hL0
 have hA := cells_of _ 0 [] rfl (hL0.get _ _ (List.mem_cons_of_mem _ List.mem_cons_self))
 simp only [cellsF, and_true, Nat.zero_add, Nat.reduceAdd] at hA
 have zA := (hL0.get _ _ (List.mem_cons_of_mem _ List.mem_cons_self)).frz
 go_wp2_with fail
 with_reducible refine Calls.mono (HC.out _ hu1.out) ?_
 rintro e y4 ⟨u, rfl, hnv, hb⟩
 replace hL0 := hL0.call hb
 clear hb hA zA hu1 HC
 replace hx0 := hx0.out
 obtain ⟨gu, rfl, hge, hHd⟩ := hnv
 replace hL0 := GL.tnew (M := []) hL0 hx0 hHd hge (fun p hp => by cases hp)
 simp only [List.nil_append] at hL0
 have hge2 := Lib.hid (Nat.le_trans hx0.bl.size hge)
 clear hx0 hge hHd
 have hA := cells_of _ 0 [] rfl (hL0.get _ _ (List.mem_cons_of_mem _ List.mem_cons_self))
 simp only [cellsF, and_true, Nat.zero_add, Nat.reduceAdd] at hA
 have zf := (hL0.get _ _ (List.mem_cons_of_mem _ List.mem_cons_self)).frz
 have hPt := hL0.put 1 (w.heap.size + 1) _ rfl [.int .i64 (x.c : Int), .int .i64 (x.r : Int), .slice (some ⟨gu, 0, none⟩) tl.length tl.length] rfl
 simp only [setAll, List.set_cons_zero, List.set_cons_succ] at hPt
 generalize hput1 : (((y4.setCell ⟨w.heap.size + 1, 0, none⟩ (.int .i64 (x.c : Int))).setCell ⟨w.heap.size + 1, 1, none⟩ (.int .i64 (x.r : Int))).setCell ⟨w.heap.size + 1, 2, none⟩ (.slice (some ⟨gu, 0, none⟩) tl.length tl.length)) = y5 at hPt
 have hB1 := cells_of _ 0 [] rfl (hPt.get _ _ (List.mem_cons_of_mem _ List.mem_cons_self))
 simp only [cellsF, and_true, Nat.zero_add, Nat.reduceAdd] at hB1
 have hNV : NV w.heap.size tl (.slice (some ⟨gu, 0, none⟩) tl.length tl.length) y5 := ⟨gu, rfl, hge2.out, hPt.get _ _ List.mem_cons_self⟩
 replace hNV := Lib.hid hNV
 clear hL0 hge2
 go_wp2_with fail
 exact bodyPost_ret (v := .tuple #[.agg #[.int .i64 (x.c : Int), .int .i64 (x.r : Int), .slice (some ⟨gu, 0, none⟩) tl.length tl.length], .int .i64 0]) (by simp [results, Tryz.results63, go_sem, hB1]) rfl ⟨_, rfl, hNV.out, hPt.bl⟩
set_option maxHeartbeats 4000000 in
set_option maxRecDepth 100000 in
theorem mApplyV (x : Mx) (v : List Rat) (K : Nat) (hx : OKM x) (hv : v.length = x.c) (h1 : x.c ≤ 1000) (h2 : x.c * (K + K + 1) ≤ 19000) (h3 : K + K ≤ 19000) (sx : ∀ q ∈ x.l, Sz q K) (sv : ∀ q ∈ v, Sz q K) (u s : Value) (w : World) (hu : CQ w u x.l) (hs : SlQ w s v) :
  Calls Tryz.prog 30 #[.agg #[.int .i64 (x.r : Int), .int .i64 (x.c : Int), u], s] w fun xe w' => ∃ t, xe = .returned (.tuple #[t, .int .i64 0]) ∧ NV w.heap.size (tabV x.r fun i => bsV x.c fun t => ent x i t * gv v t) t w' ∧ Below w.heap.size w w' := by
 have HC := fun w h g => mappliedV x v K hx hv h1 h2 h3 sx sv u s w h g
 have HF := fun (g : Nat) (w : World) (a : CQ w u x.l) (b : SlQ w s v) (hd : Hd w g [s]) => mfaultWith1 x hx v (by rw [hv]; exact hx.c) g u s w a b hd
 clear h1 h2 h3 hx sx sv
 generalize (tabV x.r fun i => bsV x.c fun t => ent x i t * gv v t) = tl at HC ⊢
 obtain ⟨ao, d, rfl, -⟩ := id hu.form
 obtain ⟨a5, d5, rfl⟩ := slq_form' hs
 replace HC := Lib.hid HC
 rw [hv] at HC HF hs ⊢
 clear hv
 have hL0 : GL w w [] := GL.start w
 replace hL0 := (hL0.new rfl [.int .i64 (x.r : Int), .int .i64 (x.c : Int), (.slice ao x.l.length d)] 56)
 generalize hweq : (w.alloc (.cells #[.int .i64 (x.r : Int), .int .i64 (x.c : Int), (.slice ao x.l.length d)] 56)) = x1 at hL0
 have hu1 := hu.below hL0.bl
 have hs1 := hs.below hL0.bl
 have hZ := hL0.fc
 simp only [fcG, cellsF, neK, and_true, ne_eq, Nat.zero_add, Nat.reduceAdd] at hZ
 replace hL0 := (hL0.new rfl [.slice a5 x.c d5] 28)
 generalize hweq2 : (x1.alloc (.cells #[.slice a5 x.c d5] 28)) = x2 at hL0
 have hb2 : Below x1.heap.size x1 x2 := hweq2 ▸ ((Below.refl _ _).alloc (Nat.le_refl _) _)
 have hu2 := Lib.hid (hu1.below hb2)
 have hs2 := Lib.hid (hs1.below hb2)
 replace HF := Lib.hid (HF x1.heap.size x2 hu2.out hs2.out (hL0.get _ _ List.mem_cons_self))
 clear hu hs hu1 hs1 hb2
 have hA := hL0.fc
 simp only [fcG, cellsF, neK, and_true, ne_eq, Nat.zero_add, Nat.reduceAdd] at hA
 go_enter Tryz.func30, Tryz.ntmps30
 go_wp2_with fail
 with_reducible refine Calls.mono (HF.out) ?_
 rintro e y1 ⟨rfl, hb⟩
 replace hu2 := Lib.hid (hu2.out.below hb)
 replace hs2 := Lib.hid (hs2.out.below hb)
 replace hL0 := hL0.call hb
 clear hb hA hZ hweq hweq2 HF
 have hA := cells_of _ 0 [] rfl (hL0.get _ _ (List.mem_cons_of_mem _ List.mem_cons_self))
 simp only [cellsF, and_true, Nat.zero_add, Nat.reduceAdd] at hA
 have hx0 := Lib.hid hL0
 go_wp2_with fail
 with_reducible refine Calls.mono (HC.out _ hu2.out hs2.out) ?_
 rintro e y4 ⟨u, rfl, hnv, hb⟩
 replace hL0 := hL0.call hb
 clear hb hA hu2 hs2 HC
 have hNV := Lib.hid (hnv.mono hx0.out.bl.size)
 obtain ⟨gu, rfl, -, -⟩ := hnv
 clear hx0
 replace hL0 := Lib.hid hL0
 go_wp2_with fail
 exact bodyPost_ret (v := .tuple #[.slice (some ⟨gu, 0, none⟩) tl.length tl.length, .int .i64 0]) (by simp [results, Tryz.results30, go_sem]) rfl ⟨_, rfl, hNV.out, hL0.out.bl⟩
set_option maxHeartbeats 4000000 in
set_option maxRecDepth 100000 in
theorem mFormV (x : Mx) (v y : List Rat) (K M : Nat) (hx : OKM x) (hv : y.length = x.c) (hw : v.length = x.r) (h0 : x.r ≤ 1000) (h1 : x.c ≤ 1000) (h2 : x.c * (K + K + 1) ≤ 19000) (h3 : K + K ≤ 19000) (sx : ∀ q ∈ x.l, Sz q K) (sy : ∀ q ∈ y, Sz q K) (g2 : x.r * (M + M + 1) ≤ 19000) (g3 : M + M ≤ 19000) (hM : x.c * (K + K + 1) + 1 ≤ M) (sv : ∀ q ∈ v, Sz q M) (u s t : Value) (w : World) (hu : CQ w u x.l) (hs : SlQ w s v) (ht : SlQ w t y) :
  Calls Tryz.prog 31 #[.agg #[.int .i64 (x.r : Int), .int .i64 (x.c : Int), u], s, t] w fun xe w' => xe = .returned (.tuple #[fracV (bsV x.r fun i => gv v i * gv (tabV x.r fun i => bsV x.c fun t => ent x i t * gv y t) i), .int .i64 0]) ∧ Below w.heap.size w w' := by
 have HC := fun w h g => mappliedV x y K hx hv h1 h2 h3 sx sy u t w h g
 have sA : ∀ q ∈ (tabV x.r fun i => bsV x.c fun t => ent x i t * gv y t), Sz q M := tab_all fun i hi => (bs_sz (k := K + K) fun k hk => (sx _ (gv_mem (by rw [hx.len]; exact ix_lt hi hk))).mul (qsk y sy k (by rw [hv]; exact hk))).mono hM
 have HD := fun va vb (w : World) h g => mdotV v (tabV x.r fun i => bsV x.c fun t => ent x i t * gv y t) x.r M hw (tabV_len _ _) h0 g2 g3 sv sA va vb w h g
 have HF := fun (g : Nat) (w : World) (a : CQ w u x.l) (b : SlQ w s v) (c : SlQ w t y) (hd : Hd w g [s, t]) => mfaultWith2 x hx v y (by rw [hw]; exact hx.r) (by rw [hv]; exact hx.c) g u s t w a b c hd
 clear h0 h1 h2 h3 hx sx sy sv g2 g3 hM sA
 generalize (bsV x.r fun i => gv v i * gv (tabV x.r fun i => bsV x.c fun t => ent x i t * gv y t) i) = q at HD ⊢
 generalize (tabV x.r fun i => bsV x.c fun t => ent x i t * gv y t) = tl at HC HD
 obtain ⟨ao, d, rfl, -⟩ := id hu.form
 obtain ⟨a5, d5, rfl⟩ := slq_form' hs
 obtain ⟨a6, d6, rfl⟩ := slq_form' ht
 replace HC := Lib.hid HC
 replace HD := Lib.hid HD
 rw [hw] at HF hs ⊢
 rw [hv] at HC HF ht ⊢
 clear hv hw
 have hL0 : GL w w [] := GL.start w
 replace hL0 := ((hL0.new rfl [.int .i64 (x.r : Int), .int .i64 (x.c : Int), (.slice ao x.l.length d)] 56).new (K := w.heap.size + 1) (szA _ _) [.int .u64 0, .string ⟨#[]⟩, .bool false, .int .u64 0, .string ⟨#[]⟩] 36)
 generalize hweq : ((w.alloc (.cells #[.int .i64 (x.r : Int), .int .i64 (x.c : Int), (.slice ao x.l.length d)] 56)).alloc (.cells #[.int .u64 0, .string ⟨#[]⟩, .bool false, .int .u64 0, .string ⟨#[]⟩] 36)) = x1 at hL0
 have hu1 := hu.below hL0.bl
 have hs1 := hs.below hL0.bl
 have ht1 := ht.below hL0.bl
 have hZ := hL0.fc
 simp only [fcG, cellsF, neK, and_true, ne_eq, Nat.zero_add, Nat.reduceAdd] at hZ
 replace hL0 := (hL0.new rfl [.slice a5 x.r d5, .slice a6 x.c d6] 28)
 generalize hweq2 : (x1.alloc (.cells #[.slice a5 x.r d5, .slice a6 x.c d6] 28)) = x2 at hL0
 have hb2 : Below x1.heap.size x1 x2 := hweq2 ▸ ((Below.refl _ _).alloc (Nat.le_refl _) _)
 have hu2 := Lib.hid (hu1.below hb2)
 have hs2 := Lib.hid (hs1.below hb2)
 have ht2 := Lib.hid (ht1.below hb2)
 replace HF := Lib.hid (HF x1.heap.size x2 hu2.out hs2.out ht2.out (hL0.get _ _ List.mem_cons_self))
 clear hu hs ht hu1 hs1 ht1 hb2
 have hA := hL0.fc
 simp only [fcG, cellsF, neK, and_true, ne_eq, Nat.zero_add, Nat.reduceAdd] at hA
 go_enter Tryz.func31, Tryz.ntmps31
 go_wp2_with fail
 with_reducible refine Calls.mono (HF.out) ?_
 rintro e y1 ⟨rfl, hb⟩
 replace hu2 := Lib.hid (hu2.out.below hb)
 replace hs2 := Lib.hid (hs2.out.below hb)
 replace ht2 := Lib.hid (ht2.out.below hb)
 replace hL0 := hL0.call hb
 clear hb hA hZ hweq hweq2 HF
 have hA := cells_of _ 0 [] rfl (hL0.get _ _ (List.mem_cons_of_mem _ (List.mem_cons_of_mem _ List.mem_cons_self)))
 simp only [cellsF, and_true, Nat.zero_add, Nat.reduceAdd] at hA
 go_wp2_with fail
 with_reducible refine Calls.mono (HC.out _ hu2.out ht2.out) ?_
 rintro e y4 ⟨u, rfl, hnv, hb⟩
 replace hs2 := Lib.hid (hs2.out.below hb)
 replace hL0 := hL0.call hb
 clear hb hA hu2 ht2 HC
 have hsl := Lib.hid hnv.slq
 obtain ⟨gu, rfl, -, -⟩ := hnv
 go_wp2_with fail
 with_reducible refine Calls.mono (HD.out _ _ _ hs2.out.rq hsl.out.rq) ?_
 rintro e y5 ⟨rfl, hb⟩
 replace hL0 := hL0.call hb
 clear hb hs2 hsl HD
 have hA := hL0.fc
 simp only [fcG, cellsF, neK, and_true, ne_eq, Nat.zero_add, Nat.reduceAdd] at hA
 have hPt := hL0.put 1 (w.heap.size + 1) _ rfl [.int .u64 ((zl q.num : Nat) : Int), .string (zh q.num), .bool (zs q.num), .int .u64 ((lo (fe q) : Nat) : Int), .string (hs (fe q))] rfl
 simp only [setAll, List.set_cons_zero, List.set_cons_succ] at hPt
 generalize hput1 : (((((y5.setCell ⟨w.heap.size + 1, 0, none⟩ (.int .u64 ((zl q.num : Nat) : Int))).setCell ⟨w.heap.size + 1, 1, none⟩ (.string (zh q.num))).setCell ⟨w.heap.size + 1, 2, none⟩ (.bool (zs q.num))).setCell ⟨w.heap.size + 1, 3, none⟩ (.int .u64 ((lo (fe q) : Nat) : Int))).setCell ⟨w.heap.size + 1, 4, none⟩ (.string (hs (fe q)))) = y6 at hPt
 have hB1 := hPt.fc
 simp only [fcG, cellsF, neK, and_true, ne_eq, Nat.zero_add, Nat.reduceAdd] at hB1
 go_wp2_with fail
 exact bodyPost_ret (v := .tuple #[fracV q, .int .i64 0]) (by simp [results, Tryz.results31, go_sem, hB1]) rfl ⟨rfl, hPt.bl⟩
end Go.Proofs.YtjdjhlmcbffocaaGreatDoor
namespace Go.Proofs.YtjdjhlmcbffocaaGreatDoor
open Go.RowKit
attribute [local irreducible] lo hs sm s64 c64 d64 b64 mh ml pd pc qd qc val hiB str cmpI srD lz nb zl zh zs fe rowV tabV gv bsV tabM
set_option maxHeartbeats 4000000 in
set_option maxRecDepth 100000 in
theorem rtextV (x : List Rat) (n k : Nat) (Jt : List UInt8) (hx : x.length = n) (hn : n ≤ 10000) (hk : k ≤ 1000) (sx : ∀ q ∈ x, Sz q k) (hJ : Lib.join ((x.map qtxt).map (·.data.toList)) [32] = Jt) (hJl : Jt.length ≤ 1000000) (va : Value) (w : World) (ht : Tab w) (hv : RQ w va x) :
  Calls Tryz.prog 81 #[va] w fun xe w' => xe = .returned (.string ⟨([91] ++ Jt ++ [93]).toArray⟩) ∧ Below w.heap.size w w' := by
 obtain ⟨ao, c, rfl, hf⟩ := id hv
 rw [hx] at hv hf ⊢
 have HT := Lib.hid (fun i (hi : i < n) w ht => textF (gv x i) k (qsk x sx i (by omega)) (by omega) w ht)
 obtain ⟨tx, htx⟩ : ∃ tx, tx = x.map qtxt := ⟨_, rfl⟩
 have hti : ∀ i, i < n → tx.take (i + 1) = tx.take i ++ [qtxt (gv x i)] := fun i hi => by
  rw [htx, List.take_succ_eq_append_getElem (by rw [List.length_map]; omega), List.getElem_map, gv_get (by omega)]
 have htl : tx.length = n := by rw [htx, List.length_map, hx]
 rw [← htx] at hJ
 replace hti := Lib.hid hti
 replace htl := Lib.hid htl
 replace hJ := Lib.hid hJ
 replace hJl := Lib.hid hJl
 replace hf := Lib.hid hf
 replace ht := Lib.hid ht
 replace hn := Lib.hid hn
 clear sx hv htx
 go_enter Tryz.func81, Tryz.ntmps81
 go_wp2_with fail
 go_loopg [3, 8] n (fun gk sv iv wr => ∃ (k : Nat) (zi : Int) (vs : Value), k + gk = n ∧ vs = sv ∧ iv = .int .i64 zi ∧ zi = (k : Int) ∧ OwnS wr w.heap.size vs k (tx.take k) ∧ Below w.heap.size w wr)
 case atStart => exact ⟨0, 0, _, Nat.zero_add n, rfl, by first | rfl | go_num, rfl, World.ownsRow_nil _ _ _ _, Below.refl _ _⟩
 case round =>
  obtain ⟨k, zi, vs, hik, rfl, rfl, hzi, hown, hB⟩ := hrel
  replace hown := Lib.hid hown
  have hnn := hn.out
  rcases Nat.lt_or_ge k n with hin | hin
  ·subst hzi
   have k1 : (k : Int) < (n : Int) := by omega
   have k0 : (0 : Int) ≤ (k : Int) := Int.natCast_nonneg _
   have kb : (k : Int) ≤ 10000 := by omega
   obtain ⟨g, o, rfl, hfs⟩ := hf.out (by omega)
   have hcs := (hfs.below hB) k (by omega)
   have HT1 := HT.out k hin
   have hti1 := hti.out k hin
   generalize gv x k = q at hcs HT1 hti1
   obtain ⟨S, hS⟩ : ∃ S, S = qtxt q := ⟨_, rfl⟩
   rw [← hS] at HT1 hti1
   replace HT1 := Lib.hid HT1
   replace hti1 := Lib.hid hti1
   clear hS hfs
   obtain ⟨f0, f1, f2, f3, f4⟩ := hcs
   have hL0 : GL wr wr [] := GL.start wr
   replace hL0 := hL0.new rfl [.int .u64 ((zl q.num : Nat) : Int), .string (zh q.num), .bool (zs q.num), .int .u64 ((lo (fe q) : Nat) : Int), .string (hs (fe q))] 36
   generalize hweq : wr.alloc (.cells #[.int .u64 ((zl q.num : Nat) : Int), .string (zh q.num), .bool (zs q.num), .int .u64 ((lo (fe q) : Nat) : Int), .string (hs (fe q))] 36) = y2 at hL0
   have hN0 := cells_of _ 0 [] rfl (hL0.get _ _ List.mem_cons_self)
   simp only [cellsF, and_true, Nat.zero_add, Nat.reduceAdd] at hN0
   have hB2 := Lib.hid (hB.trans (hL0.bl.mono hB.size))
   go_wp2_with fail
   with_reducible refine Calls.mono (HT1.out _ (ht.out.below hB2.out)) ?_
   rintro e y3 ⟨rfl, hb3⟩
   replace hL0 := hL0.call hb3
   have hown3 := Lib.hid (ownS_below hown.out hL0.bl)
   have hB3 := Lib.hid (hB.trans (hL0.bl.mono hB.size))
   clear hb3 hN0 hweq f0 f1 f2 f3 f4 hL0 hB2 hB hown
   have hL1 : GL y3 y3 [] := GL.start y3
   replace hL1 := hL1.new rfl [.string S] 9
   generalize hweq : y3.alloc (.cells #[.string S] 9) = y4 at hL1
   have hown4 := Lib.hid (ownS_below hown3.out hL1.bl)
   have hB4 := Lib.hid (hB3.out.trans (hL1.bl.mono hB3.out.size))
   have hH := Lib.hid (hL1.get _ _ List.mem_cons_self)
   go_wp2_with (at_builtin; refine wp_appendS rfl _ _ rfl _ _ _ _ rfl hown4.out _ S rfl hH.out (by omega) hB4.out.size ?_)
   intro v' w5 hown5 hgrow _
   have hB5 := hB4.out.grown hgrow hB4.out.size (fun j hj => (hown4.out.lt j hj).1)
   rw [← hti1.out] at hown5
   replace hown5 := Lib.hid hown5
   clear hgrow hown4 hB4 hown3 hB3 hH hweq
   go_wp2_with fail
   go_roundg (gk - 1)
   case measure => omega
   case rel => exact ⟨k + 1, _, _, by omega, rfl, by first | rfl | go_num, by omega, hown5.out, hB5⟩
  ·obtain rfl : k = n := by omega
   subst hzi
   have k1 : ¬ (k : Int) < (k : Int) := by omega
   rw [List.take_of_length_le (Nat.le_of_eq htl.out)] at hown
   have hJ2 : Calls Tryz.prog 132 #[vs, .string ⟨#[32]⟩] wr fun e w' => e = .returned (.string ⟨Jt.toArray⟩) ∧ Below wr.heap.size wr w' := by
    by_cases h0 : k = 0
    ·have e0 : tx = [] := List.eq_nil_of_length_eq_zero (by rw [htl.out, h0])
     obtain ⟨a, c2, hvs⟩ := ownS_form hown.out
     rw [hvs, h0]
     rw [e0] at hJ
     refine (Tryz.strings_Join_none a c2 ⟨#[32]⟩ wr).mono ?_
     rintro e w' ⟨rfl, rfl⟩
     exact ⟨by rw [← hJ.out]; rfl, Below.refl _ _⟩
    ·obtain ⟨g9, c9, hvs, hc9, hg9, hce9⟩ := ownS_cells hown.out (by rw [htl.out]; omega)
     rw [hvs]
     have := Tryz.strings_Join g9 0 c9 tx ⟨#[32]⟩ wr hce9 hg9 (by rw [htl.out]; omega) hc9 (by
      have h1 := hJl.out
      rw [← hJ.out] at h1
      exact Nat.le_trans h1 (by decide))
     rw [show (⟨#[32]⟩ : ByteArray).data.toList = [32] from rfl, hJ.out] at this
     exact this
   replace hJ2 := Lib.hid hJ2
   have j1 : (Jt.length : Int) ≤ 1000000 := by have := hJl.out; omega
   have j2 : ¬ (9223372036854775807 : Int) < 1 + (Jt.length : Int) := by omega
   have j3 : ¬ (9223372036854775806 : Int) < (Jt.length : Int) := by omega
   have j4 : 1 + (Jt.length : Int) ≤ 9223372036854775807 := by omega
   have j5 : ¬ (9223372036854775807 : Int) < 1 + (Jt.length : Int) + 1 := by omega
   have j6 : ¬ (9223372036854775806 : Int) < 1 + (Jt.length : Int) := by omega
   replace hB := Lib.hid hB
   obtain ⟨a9, c9, hvs⟩ := ownS_form hown.out
   subst hvs
   clear hown
   go_wp2_with fail
   refine hJ2.out.mono ?_
   rintro e y9 ⟨rfl, hb9⟩
   replace hb9 := Lib.hid (hB.out.trans (hb9.mono hB.out.size))
   go_wp2_with fail
   exact bodyPost_ret (v := .string ⟨([91] ++ Jt ++ [93]).toArray⟩) (by simp [results, Tryz.results81, go_sem]; apply ByteArray.ext; simp) rfl ⟨rfl, hb9.out⟩
set_option maxHeartbeats 4000000 in
set_option maxRecDepth 100000 in
theorem mSumV (x : Mx) (k : Nat) (hx : OKM x) (hk : x.l.length * (k + 1) ≤ 19000) (hk2 : k ≤ 19000) (hl : x.l.length ≤ 1000) (sx : ∀ q ∈ x.l, Sz q k) (u : Value) (w : World) (hu : CQ w u x.l) :
  Calls Tryz.prog 36 #[.agg #[.int .i64 (x.r : Int), .int .i64 (x.c : Int), u]] w fun xe w' => xe = .returned (fracV (qsum x.l)) ∧ Below w.heap.size w w' := by
 obtain ⟨ao, d, rfl, -⟩ := hu.form
 have HS := Lib.hid fun w h => sumF2 ao x.l.length d x.l k hk hk2 hl sx w h
 have HK := Lib.hid (mcheck_ok x.r x.c x.l.length d ao hx.r hx.c hx.len)
 generalize qsum x.l = q at HS ⊢
 clear hk hk2 hl sx hx
 have hL0 : GL w w [] := GL.start w
 replace hL0 := ((hL0.new rfl [.int .i64 (x.r : Int), .int .i64 (x.c : Int), (.slice ao x.l.length d)] 56).new (K := w.heap.size + 1) (szA _ _) [.int .u64 0, .string ⟨#[]⟩, .bool false, .int .u64 0, .string ⟨#[]⟩] 36)
 generalize hweq : ((w.alloc (.cells #[.int .i64 (x.r : Int), .int .i64 (x.c : Int), (.slice ao x.l.length d)] 56)).alloc (.cells #[.int .u64 0, .string ⟨#[]⟩, .bool false, .int .u64 0, .string ⟨#[]⟩] 36)) = x1 at hL0
 have hu1 := Lib.hid (hu.1.below hL0.bl)
 clear hu
 have hA := hL0.fc
 simp only [fcG, cellsF, neK, and_true, ne_eq, Nat.zero_add, Nat.reduceAdd] at hA
 go_enter Tryz.func36, Tryz.ntmps36
 go_wp2_with fail
 with_reducible refine Calls.mono (HK.out _) ?_
 rintro e y1 ⟨rfl, hb⟩
 replace hu1 := Lib.hid (hu1.out.below hb)
 replace hL0 := hL0.call hb
 clear hb hA hweq HK
 have hA := cells_of _ 0 [] rfl (hL0.get _ _ (List.mem_cons_of_mem _ List.mem_cons_self))
 simp only [cellsF, and_true, Nat.zero_add, Nat.reduceAdd] at hA
 go_wp2_with fail
 with_reducible refine Calls.mono (HS.out _ hu1.out) ?_
 rintro e y2 ⟨rfl, hb⟩
 replace hL0 := hL0.call hb
 clear hb hA hu1 HS
 have hA := hL0.fc
 simp only [fcG, cellsF, neK, and_true, ne_eq, Nat.zero_add, Nat.reduceAdd] at hA
 have hPt := hL0.put 0 (w.heap.size + 1) _ rfl [.int .u64 ((zl q.num : Nat) : Int), .string (zh q.num), .bool (zs q.num), .int .u64 ((lo (fe q) : Nat) : Int), .string (hs (fe q))] rfl
 simp only [setAll, List.set_cons_zero, List.set_cons_succ] at hPt
 generalize hput1 : (((((y2.setCell ⟨w.heap.size + 1, 0, none⟩ (.int .u64 ((zl q.num : Nat) : Int))).setCell ⟨w.heap.size + 1, 1, none⟩ (.string (zh q.num))).setCell ⟨w.heap.size + 1, 2, none⟩ (.bool (zs q.num))).setCell ⟨w.heap.size + 1, 3, none⟩ (.int .u64 ((lo (fe q) : Nat) : Int))).setCell ⟨w.heap.size + 1, 4, none⟩ (.string (hs (fe q)))) = y9 at hPt
 have hB1 := hPt.fc
 simp only [fcG, cellsF, neK, and_true, ne_eq, Nat.zero_add, Nat.reduceAdd] at hB1
 go_wp2_with fail
 exact bodyPost_ret (v := fracV q) (by simp [results, Tryz.results36, go_sem, hB1]) rfl ⟨rfl, hPt.bl⟩
set_option maxHeartbeats 4000000 in
set_option maxRecDepth 100000 in
theorem mcheck_err (r c : Int) (e : Int) (n d : Nat) (ao : Option Addr) (he : e ≠ 0) (HS : ∀ w, Calls Tryz.prog 113 #[.int .i64 r, .int .i64 c] w fun xe w' => xe = .returned (.int .i64 e) ∧ Below w.heap.size w w') (w : World) : Calls Tryz.prog 77 #[.agg #[.int .i64 r, .int .i64 c, .slice ao n d]] w fun xe w' => xe = .returned (.int .i64 e) ∧ Below w.heap.size w w' := by
 replace HS := Lib.hid HS
 have h1 : (e != 0) = true := by simpa using he
 have h2 : (e == 0) = false := by simpa using he
 clear he
 have hL0 : GL w w [] := GL.start w
 replace hL0 := (hL0.new rfl [.int .i64 r, .int .i64 c, .slice ao n d] 56)
 generalize hweq : (w.alloc (.cells #[.int .i64 r, .int .i64 c, .slice ao n d] 56)) = x1 at hL0
 have hA := hL0.fc
 simp only [fcG, cellsF, neK, and_true, ne_eq, Nat.zero_add, Nat.reduceAdd] at hA
 go_enter Tryz.func77, Tryz.ntmps77
 go_wp2_with fail
 with_reducible refine Calls.mono (HS.out _) ?_
 rintro e y1 ⟨rfl, hb⟩
 replace hL0 := hL0.call hb
 clear hb hA hweq HS
 replace hL0 := Lib.hid hL0
 go_wp2_with fail
 exact bodyPost_ret (v := .int .i64 e) (by simp [results, Tryz.results77, go_sem]) rfl ⟨rfl, hL0.out.bl⟩
set_option maxHeartbeats 4000000 in
set_option maxRecDepth 100000 in
theorem mcheck_len (r c n d m : Nat) (ao : Option Addr) (hr : r ≤ 2048) (hc : c ≤ 2048) (hm : m = r * c) (hn : n ≠ m) (w : World) : Calls Tryz.prog 77 #[.agg #[.int .i64 (r : Int), .int .i64 (c : Int), .slice ao n d]] w fun xe w' => xe = .returned (.int .i64 1) ∧ Below w.heap.size w w' := by
 have HS := Lib.hid (msize_ok r c hr hc)
 have hmul : (r : Int) * (c : Int) = (m : Int) := by rw [hm, Int.natCast_mul]
 have hle : m ≤ 2048 * 2048 := by rw [hm]; exact Nat.mul_le_mul hr hc
 have hb1 : (m : Int) ≤ 5000000 := by omega
 have hb0 : (0 : Int) ≤ (m : Int) := Int.natCast_nonneg _
 have h1 : ((n : Int) != (m : Int)) = true := by simp; omega
 have h2 : ((n : Int) == (m : Int)) = false := by simp; omega
 have h3 : (n == m) = false := by simp; omega
 have h4 : ¬ (n : Int) = (m : Int) := by omega
 clear hr hc hm hle hn
 have hL0 : GL w w [] := GL.start w
 replace hL0 := (hL0.new rfl [.int .i64 (r : Int), .int .i64 (c : Int), .slice ao n d] 56)
 generalize hweq : (w.alloc (.cells #[.int .i64 (r : Int), .int .i64 (c : Int), .slice ao n d] 56)) = x1 at hL0
 have hA := hL0.fc
 simp only [fcG, cellsF, neK, and_true, ne_eq, Nat.zero_add, Nat.reduceAdd] at hA
 go_enter Tryz.func77, Tryz.ntmps77
 go_wp2_with fail
 with_reducible refine Calls.mono (HS.out _) ?_
 rintro e y1 ⟨rfl, hb⟩
 replace hL0 := hL0.call hb
 clear hb hA hweq HS
 have hA := hL0.fc
 simp only [fcG, cellsF, neK, and_true, ne_eq, Nat.zero_add, Nat.reduceAdd] at hA
 go_wp2_with fail
 exact bodyPost_ret (v := .int .i64 1) (by simp [results, Tryz.results77, go_sem]) rfl ⟨rfl, hL0.bl⟩
set_option maxHeartbeats 4000000 in
set_option maxRecDepth 100000 in
theorem mOf_ok (r c : Nat) (zs : List Int) (hm : zs.length ≤ 100000) (hz : ∀ z ∈ zs, -9223372036854775808 ≤ z ∧ z < 9223372036854775808) (hr : r ≤ 2048) (hc : c ≤ 2048) (hl : zs.length = r * c) (s : Value) (w : World) (hs : ILs w s zs) :
  Calls Tryz.prog 102 #[.int .i64 (r : Int), .int .i64 (c : Int), s] w fun xe w' => ∃ v, xe = .returned (.tuple #[.agg #[.int .i64 (r : Int), .int .i64 (c : Int), v], .int .i64 0]) ∧ NV w.heap.size (tabV zs.length (ofV zs)) v w' ∧ Below w.heap.size w w' := by
 have HV := Lib.hid fun w h => vofV zs hm hz s w h
 have HK := fun d ao => mcheck_ok r c zs.length d ao hr hc hl
 clear hr hc hl hm hz
 have hle : (tabV zs.length (ofV zs)).length = zs.length := tabV_len _ _
 rw [← hle] at HK
 clear hle
 generalize tabV zs.length (ofV zs) = tl at HV HK ⊢
 replace HK := Lib.hid HK
 obtain ⟨ao, c1, -, rfl, -⟩ := id hs
 have hL0 : GL w w [] := GL.start w
 replace hL0 := (hL0.new rfl [.int .i64 0, .int .i64 0, .slice none 0 0] 56)
 generalize hweq : (w.alloc (.cells #[.int .i64 0, .int .i64 0, .slice none 0 0] 56)) = x1 at hL0
 have hs1 := Lib.hid (hs.below hL0.bl)
 clear hs
 go_enter Tryz.func102, Tryz.ntmps102
 have hx0 := Lib.hid hL0
 go_wp2_with fail
 with_reducible refine Calls.mono (HV.out _ hs1.out) ?_
 rintro e y1 ⟨u, rfl, hnv, hb⟩
 replace hL0 := hL0.call hb
 clear hb hweq hs1 HV
 replace hx0 := hx0.out
 obtain ⟨gu, rfl, hge, hHd⟩ := hnv
 replace hL0 := GL.tnew (M := []) hL0 hx0 hHd hge (fun p hp => by cases hp)
 simp only [List.nil_append] at hL0
 have hge2 := Lib.hid (Nat.le_trans hx0.bl.size hge)
 clear hx0 hge hHd
 have hL1 := hL0.new rfl [.int .i64 (r : Int), .int .i64 (c : Int), .slice (some ⟨gu, 0, none⟩) tl.length tl.length] 56
 generalize hweq : y1.alloc (.cells #[.int .i64 (r : Int), .int .i64 (c : Int), .slice (some ⟨gu, 0, none⟩) tl.length tl.length] 56) = y2 at hL1
 clear hL0
 have hL0 := hL1
 clear hL1
 have hA := cells_of _ 0 [] rfl (hL0.get _ _ List.mem_cons_self)
 simp only [cellsF, and_true, Nat.zero_add, Nat.reduceAdd] at hA
 go_wp2_with fail
 with_reducible refine Calls.mono (HK.out _ _ _) ?_
 rintro e y3 ⟨rfl, hb⟩
 replace hL0 := hL0.call hb
 clear hb hA hweq HK
 have hC := cells_of _ 0 [] rfl (hL0.get _ _ List.mem_cons_self)
 simp only [cellsF, and_true, Nat.zero_add, Nat.reduceAdd] at hC
 have hA := cells_of _ 0 [] rfl (hL0.get _ _ (List.mem_cons_of_mem _ (List.mem_cons_of_mem _ List.mem_cons_self)))
 simp only [cellsF, and_true, Nat.zero_add, Nat.reduceAdd] at hA
 have zf := (hL0.get _ _ (List.mem_cons_of_mem _ (List.mem_cons_of_mem _ List.mem_cons_self))).frz
 have hPt := hL0.put 2 (w.heap.size) _ rfl [.int .i64 (r : Int), .int .i64 (c : Int), .slice (some ⟨gu, 0, none⟩) tl.length tl.length] rfl
 simp only [setAll, List.set_cons_zero, List.set_cons_succ] at hPt
 generalize hput1 : (((y3.setCell ⟨w.heap.size, 0, none⟩ (.int .i64 (r : Int))).setCell ⟨w.heap.size, 1, none⟩ (.int .i64 (c : Int))).setCell ⟨w.heap.size, 2, none⟩ (.slice (some ⟨gu, 0, none⟩) tl.length tl.length)) = y4 at hPt
 have hB1 := cells_of _ 0 [] rfl (hPt.get _ _ (List.mem_cons_of_mem _ (List.mem_cons_of_mem _ List.mem_cons_self)))
 simp only [cellsF, and_true, Nat.zero_add, Nat.reduceAdd] at hB1
 have hNV : NV w.heap.size tl (.slice (some ⟨gu, 0, none⟩) tl.length tl.length) y4 := ⟨gu, rfl, hge2.out, hPt.get _ _ (List.mem_cons_of_mem _ List.mem_cons_self)⟩
 replace hNV := Lib.hid hNV
 clear hL0 hge2
 go_wp2_with fail
 exact bodyPost_ret (v := .tuple #[.agg #[.int .i64 (r : Int), .int .i64 (c : Int), .slice (some ⟨gu, 0, none⟩) tl.length tl.length], .int .i64 0]) (by simp [results, Tryz.results102, go_sem, hB1]) rfl ⟨_, rfl, hNV.out, hPt.bl⟩
set_option maxHeartbeats 4000000 in
set_option maxRecDepth 100000 in
theorem mOf_err (r c e : Int) (zs : List Int) (hm : zs.length ≤ 100000) (hz : ∀ z ∈ zs, -9223372036854775808 ≤ z ∧ z < 9223372036854775808) (he : e ≠ 0) (HK : ∀ d ao w, Calls Tryz.prog 77 #[.agg #[.int .i64 r, .int .i64 c, .slice ao zs.length d]] w fun xe w' => xe = .returned (.int .i64 e) ∧ Below w.heap.size w w') (s : Value) (w : World) (hs : ILs w s zs) :
  Calls Tryz.prog 102 #[.int .i64 r, .int .i64 c, s] w fun xe w' => xe = .returned (.tuple #[.agg #[.int .i64 0, .int .i64 0, .slice none 0 0], .int .i64 e]) ∧ Below w.heap.size w w' := by
 have HV := Lib.hid fun w h => vofV zs hm hz s w h
 clear hm hz
 have hle : (tabV zs.length (ofV zs)).length = zs.length := tabV_len _ _
 rw [← hle] at HK
 clear hle
 generalize tabV zs.length (ofV zs) = tl at HV HK ⊢
 replace HK := Lib.hid HK
 have h1 : (e != 0) = true := by simpa using he
 have h2 : (e == 0) = false := by simpa using he
 clear he
 obtain ⟨ao, c1, -, rfl, -⟩ := id hs
 have hL0 : GL w w [] := GL.start w
 replace hL0 := (hL0.new rfl [.int .i64 0, .int .i64 0, .slice none 0 0] 56)
 generalize hweq : (w.alloc (.cells #[.int .i64 0, .int .i64 0, .slice none 0 0] 56)) = x1 at hL0
 have hs1 := Lib.hid (hs.below hL0.bl)
 clear hs
 go_enter Tryz.func102, Tryz.ntmps102
 have hx0 := Lib.hid hL0
 go_wp2_with fail
 with_reducible refine Calls.mono (HV.out _ hs1.out) ?_
 rintro e y1 ⟨u, rfl, hnv, hb⟩
 replace hL0 := hL0.call hb
 clear hb hweq hs1 HV
 replace hx0 := hx0.out
 obtain ⟨gu, rfl, hge, hHd⟩ := hnv
 replace hL0 := GL.tnew (M := []) hL0 hx0 hHd hge (fun p hp => by cases hp)
 simp only [List.nil_append] at hL0
 have hge2 := Lib.hid (Nat.le_trans hx0.bl.size hge)
 clear hx0 hge hHd
 have hL1 := hL0.new rfl [.int .i64 r, .int .i64 c, .slice (some ⟨gu, 0, none⟩) tl.length tl.length] 56
 generalize hweq : y1.alloc (.cells #[.int .i64 r, .int .i64 c, .slice (some ⟨gu, 0, none⟩) tl.length tl.length] 56) = y2 at hL1
 clear hL0
 have hL0 := hL1
 clear hL1
 have hA := cells_of _ 0 [] rfl (hL0.get _ _ List.mem_cons_self)
 simp only [cellsF, and_true, Nat.zero_add, Nat.reduceAdd] at hA
 go_wp2_with fail
 with_reducible refine Calls.mono (HK.out _ _ _) ?_
 rintro e y3 ⟨rfl, hb⟩
 replace hL0 := hL0.call hb
 clear hb hA hweq HK
 have hA := cells_of _ 0 [] rfl (hL0.get _ _ (List.mem_cons_of_mem _ (List.mem_cons_of_mem _ List.mem_cons_self)))
 simp only [cellsF, and_true, Nat.zero_add, Nat.reduceAdd] at hA
 have zf := (hL0.get _ _ (List.mem_cons_of_mem _ (List.mem_cons_of_mem _ List.mem_cons_self))).frz
 have hPt := hL0.put 2 (w.heap.size) _ rfl [.int .i64 0, .int .i64 0, .slice none 0 0] rfl
 simp only [setAll, List.set_cons_zero, List.set_cons_succ] at hPt
 generalize hput1 : (((y3.setCell ⟨w.heap.size, 0, none⟩ (.int .i64 0)).setCell ⟨w.heap.size, 1, none⟩ (.int .i64 0)).setCell ⟨w.heap.size, 2, none⟩ (.slice none 0 0)) = y4 at hPt
 have hB1 := cells_of _ 0 [] rfl (hPt.get _ _ (List.mem_cons_of_mem _ (List.mem_cons_of_mem _ List.mem_cons_self)))
 simp only [cellsF, and_true, Nat.zero_add, Nat.reduceAdd] at hB1
 clear hL0 hge2
 go_wp2_with fail
 exact bodyPost_ret (v := .tuple #[.agg #[.int .i64 0, .int .i64 0, .slice none 0 0], .int .i64 e]) (by simp [results, Tryz.results102, go_sem, hB1]) rfl ⟨rfl, hPt.bl⟩
set_option maxHeartbeats 4000000 in
set_option maxRecDepth 100000 in
theorem mindex_in (i n : Int) (h0 : 0 ≤ i) (h1 : i < n) (w : World) : Calls Tryz.prog 107 #[.int .i64 i, .int .i64 n] w fun xe w' => xe = .returned (.bool true) ∧ Below w.heap.size w w' := by
 go_enter Tryz.func107, Tryz.ntmps107
 go_wp2_with fail
 exact bodyPost_ret (v := .bool true) (by simp [results, Tryz.results107, go_sem]) rfl ⟨rfl, Below.refl _ _⟩
set_option maxHeartbeats 4000000 in
set_option maxRecDepth 100000 in
theorem mindices_ok (ps : List Nat) (n : Nat) (hm : ps.length ≤ 100000) (hp : ∀ p ∈ ps, p < n) (v : Value) (w : World) (hv : ILs w v (ps.map Int.ofNat)) : Calls Tryz.prog 118 #[v, .int .i64 (n : Int)] w fun xe w' => xe = .returned (.bool true) ∧ Below w.heap.size w w' := by
 obtain ⟨ao, c, g, rfl, h2, h3⟩ := hv
 rw [List.length_map] at h2 ⊢
 obtain ⟨m, hme⟩ : ∃ m, m = ps.length := ⟨_, rfl⟩
 rw [← hme] at h2 hm ⊢
 have h4 : ∀ i, i < m → ∃ p : Nat, p < n ∧ w.cell? ⟨g, i, none⟩ = some (.int .i64 (p : Int)) := fun i hi => by
  have e := h3 i (by rw [List.length_map, ← hme]; exact hi)
  rw [List.getElem_map] at e
  exact ⟨_, hp _ (List.getElem_mem (by rw [← hme]; exact hi)), e⟩
 clear hp h3 hme
 replace h2 := Lib.hid h2
 replace h4 := Lib.hid h4
 replace hm := Lib.hid hm
 go_enter Tryz.func118, Tryz.ntmps118
 go_wp2_with fail
 go_loopg [9] m (fun gk iv wr => ∃ (k : Nat) (zi : Int), k + gk = m ∧ iv = .int .i64 zi ∧ zi = (k : Int) ∧ Below w.heap.size w wr)
 case atStart => exact ⟨0, 0, Nat.zero_add m, by first | rfl | go_num, rfl, Below.refl _ _⟩
 case round =>
  obtain ⟨k, zi, hik, rfl, hzi, hbl⟩ := hrel
  have hmm := hm.out
  rcases Nat.lt_or_ge k m with hin | hin
  ·subst hzi
   have k1 : (k : Int) < (m : Int) := by omega
   have k0 : (0 : Int) ≤ (k : Int) := Int.natCast_nonneg _
   have kb : (k : Int) ≤ 100000 := by omega
   obtain ⟨p, hp, hcell⟩ := h4.out k hin
   replace hcell := keepsC hbl hcell
   obtain ⟨rfl, -⟩ := h2.out (by omega)
   have HI := Lib.hid (mindex_in (p : Int) (n : Int) (Int.natCast_nonneg _) (by omega))
   replace hbl := Lib.hid hbl
   clear hp
   go_wp2_with fail
   with_reducible refine Calls.mono (HI.out _) ?_
   rintro e y2 ⟨rfl, hb⟩
   have hb2 := Lib.hid (hbl.out.trans (hb.mono hbl.out.size))
   clear hb hbl hcell
   go_wp2_with fail
   go_roundg (m - (k + 1))
   case measure => omega
   case rel => exact ⟨k + 1, _, by omega, by first | rfl | go_num, by omega, hb2.out⟩
  ·obtain rfl : k = m := by omega
   subst hzi
   have k1 : ¬ (k : Int) < (k : Int) := by omega
   replace hbl := Lib.hid hbl
   go_wp2_with fail
   exact bodyPost_ret (v := .bool true) (by simp [results, Tryz.results118, go_sem]) rfl ⟨rfl, hbl.out⟩
set_option maxHeartbeats 4000000 in
set_option maxRecDepth 100000 in
theorem mPartV (x : Mx) (ps qs : List Nat) (hx : OKM x) (hm : ps.length ≤ 100) (hq : qs.length ≤ 100) (hp : ∀ p ∈ ps, p < x.r) (hr : ∀ p ∈ qs, p < x.c) (u s t : Value) (w : World) (hu : CQ w u x.l) (hs : ILs w s (ps.map Int.ofNat)) (ht : ILs w t (qs.map Int.ofNat)) :
  Calls Tryz.prog 42 #[.agg #[.int .i64 (x.r : Int), .int .i64 (x.c : Int), u], s, t] w fun xe w' => ∃ v, xe = .returned (.tuple #[.agg #[.int .i64 (ps.length : Int), .int .i64 (qs.length : Int), v], .int .i64 0]) ∧ NV w.heap.size (tabM ps.length qs.length fun i j => ent x (ps.getD i 0) (qs.getD j 0)).l v w' ∧ Below w.heap.size w w' := by
 have HB : ∀ b1 b2 b3 ux va vb (w : World), (BM w b1 ux x ∧ ILs w va (ps.map Int.ofNat) ∧ ILs w vb (qs.map Int.ofNat) ∧ w.cell? ⟨b2, 0, none⟩ = some va ∧ w.cell? ⟨b3, 0, none⟩ = some vb) → Calls Tryz.prog 108 #[.int .i64 (ps.length : Int), .int .i64 (qs.length : Int), .func (.func 119) #[] #[.pointer (some ⟨b1, 0, none⟩), .pointer (some ⟨b2, 0, none⟩), .pointer (some ⟨b3, 0, none⟩)]] w fun xe w' => ∃ v, xe = .returned (.agg #[.int .i64 (ps.length : Int), .int .i64 (qs.length : Int), v]) ∧ NV w.heap.size (tabM ps.length qs.length fun i j => ent x (ps.getD i 0) (qs.getD j 0)).l v w' ∧ Below w.heap.size w w' := fun b1 b2 b3 ux va vb w h =>
  mbuild_w 119 #[.pointer (some ⟨b1, 0, none⟩), .pointer (some ⟨b2, 0, none⟩), .pointer (some ⟨b3, 0, none⟩)] enmpart ps.length qs.length (fun i j => ent x (ps.getD i 0) (qs.getD j 0)) (fun w => BM w b1 ux x ∧ ILs w va (ps.map Int.ofNat) ∧ ILs w vb (qs.map Int.ofNat) ∧ w.cell? ⟨b2, 0, none⟩ = some va ∧ w.cell? ⟨b3, 0, none⟩ = some vb) (Keeps.and (BM.keeps _ _ _) (Keeps.and (ILs.keeps _ _) (Keeps.and (ILs.keeps _ _) (Keeps.and (keepsB _ _) (keepsB _ _))))) (fun i k hi hk w h => mpart_at x hx ps qs hp hr b1 b2 b3 ux va vb i k hi hk w h) (by omega) (by omega) (by have := Nat.mul_le_mul hm hq; omega) w h
 have HK := fun (d : Nat) (ao : Option Addr) => mcheck_ok x.r x.c x.l.length d ao hx.r hx.c hx.len
 have HS := Lib.hid (msize_ok ps.length qs.length (by omega) (by omega))
 have HI := Lib.hid fun w h => mindices_ok ps x.r (by omega) hp s w h
 have HJ := Lib.hid fun w h => mindices_ok qs x.c (by omega) hr t w h
 clear hp hr hx hm hq
 generalize (tabM ps.length qs.length fun i j => ent x (ps.getD i 0) (qs.getD j 0)).l = tl at HB ⊢
 obtain ⟨ao, d, rfl, -⟩ := id hu.form
 obtain ⟨a5, d5, g5, rfl, -⟩ := id hs
 obtain ⟨a6, d6, g6, rfl, -⟩ := id ht
 rw [List.length_map] at hs ht HI HJ ⊢
 replace HK := Lib.hid (HK d ao)
 replace HB := Lib.hid HB
 have hL0 : GL w w [] := GL.start w
 replace hL0 := ((((hL0.new rfl [.int .i64 (x.r : Int), .int .i64 (x.c : Int), (.slice ao x.l.length d)] 56).new (K := w.heap.size + 1) (szA _ _) [.slice a5 ps.length d5] 24).new (K := w.heap.size + 1 + 1) (by simp only [World.size_alloc]) [.slice a6 qs.length d6] 24).new (K := w.heap.size + 1 + 1 + 1) (by simp only [World.size_alloc]) [.int .i64 0, .int .i64 0, .slice none 0 0] 56)
 generalize hweq : ((((w.alloc (.cells #[.int .i64 (x.r : Int), .int .i64 (x.c : Int), (.slice ao x.l.length d)] 56)).alloc (.cells #[.slice a5 ps.length d5] 24)).alloc (.cells #[.slice a6 qs.length d6] 24)).alloc (.cells #[.int .i64 0, .int .i64 0, .slice none 0 0] 56)) = x1 at hL0
 have hu1 := Lib.hid (hu.below hL0.bl)
 have hs1 := Lib.hid (hs.below hL0.bl)
 have ht1 := Lib.hid (ht.below hL0.bl)
 clear hu hs ht
 have hA := hL0.fc
 simp only [fcG, cellsF, neK, and_true, ne_eq, Nat.zero_add, Nat.reduceAdd] at hA
 go_enter Tryz.func42, Tryz.ntmps42
 go_wp2_with fail
 with_reducible refine Calls.mono (HK.out _) ?_
 rintro e y1 ⟨rfl, hb⟩
 replace hu1 := Lib.hid (hu1.out.below hb)
 replace hs1 := Lib.hid (hs1.out.below hb)
 replace ht1 := Lib.hid (ht1.out.below hb)
 replace hL0 := hL0.call hb
 clear hb hA hweq HK
 have hA := hL0.fc
 simp only [fcG, cellsF, neK, and_true, ne_eq, Nat.zero_add, Nat.reduceAdd] at hA
 go_wp2_with fail
 with_reducible refine Calls.mono (HS.out _) ?_
 rintro e y2 ⟨rfl, hb⟩
 replace hu1 := Lib.hid (hu1.out.below hb)
 replace hs1 := Lib.hid (hs1.out.below hb)
 replace ht1 := Lib.hid (ht1.out.below hb)
 replace hL0 := hL0.call hb
 clear hb hA HS
 have hA := hL0.fc
 simp only [fcG, cellsF, neK, and_true, ne_eq, Nat.zero_add, Nat.reduceAdd] at hA
 go_wp2_with fail
 with_reducible refine Calls.mono (HI.out _ hs1.out) ?_
 rintro e y3 ⟨rfl, hb⟩
 replace hu1 := Lib.hid (hu1.out.below hb)
 replace hs1 := Lib.hid (hs1.out.below hb)
 replace ht1 := Lib.hid (ht1.out.below hb)
 replace hL0 := hL0.call hb
 clear hb hA HI
 have hA := hL0.fc
 simp only [fcG, cellsF, neK, and_true, ne_eq, Nat.zero_add, Nat.reduceAdd] at hA
 go_wp2_with fail
 with_reducible refine Calls.mono (HJ.out _ ht1.out) ?_
 rintro e y4 ⟨rfl, hb⟩
 replace hu1 := Lib.hid (hu1.out.below hb)
 replace hs1 := Lib.hid (hs1.out.below hb)
 replace ht1 := Lib.hid (ht1.out.below hb)
 replace hL0 := hL0.call hb
 clear hb hA HJ
 have hB1 := BM.of (hL0.get _ _ (List.mem_cons_of_mem _ (List.mem_cons_of_mem _ (List.mem_cons_of_mem _ List.mem_cons_self)))) hu1.out
 have hc1 := (hL0.get _ _ (List.mem_cons_of_mem _ (List.mem_cons_of_mem _ List.mem_cons_self))).cell 0 (by simp)
 simp only [List.getElem_cons_zero, List.getElem_cons_succ] at hc1
 have hc2 := (hL0.get _ _ (List.mem_cons_of_mem _ List.mem_cons_self)).cell 0 (by simp)
 simp only [List.getElem_cons_zero, List.getElem_cons_succ] at hc2
 replace HB := Lib.hid (HB.out _ _ _ _ _ _ _ ⟨hB1, hs1.out, ht1.out, hc1, hc2⟩)
 clear hc1 hc2 hB1 hu1 hs1 ht1
 have hx0 := Lib.hid hL0
 have hA := cells_of _ 0 [] rfl (hL0.get _ _ (List.mem_cons_of_mem _ (List.mem_cons_of_mem _ List.mem_cons_self)))
 simp only [cellsF, and_true, Nat.zero_add, Nat.reduceAdd] at hA
 have zA := (hL0.get _ _ (List.mem_cons_of_mem _ (List.mem_cons_of_mem _ List.mem_cons_self))).frz
 have hC := cells_of _ 0 [] rfl (hL0.get _ _ (List.mem_cons_of_mem _ List.mem_cons_self))
 simp only [cellsF, and_true, Nat.zero_add, Nat.reduceAdd] at hC
 have zC := (hL0.get _ _ (List.mem_cons_of_mem _ List.mem_cons_self)).frz
 go_wp2_with fail
 with_reducible refine Calls.mono (HB.out) ?_
 rintro e y5 ⟨u, rfl, hnv, hb⟩
 replace hL0 := hL0.call hb
 clear hb hA hC zA zC
 replace hx0 := hx0.out
 obtain ⟨gu, rfl, hge, hHd⟩ := hnv
 replace hL0 := GL.tnew (M := []) hL0 hx0 hHd hge (fun p hp => by cases hp)
 simp only [List.nil_append] at hL0
 have hge2 := Lib.hid (Nat.le_trans hx0.bl.size hge)
 clear hx0 hge hHd
 have hA := cells_of _ 0 [] rfl (hL0.get _ _ (List.mem_cons_of_mem _ List.mem_cons_self))
 simp only [cellsF, and_true, Nat.zero_add, Nat.reduceAdd] at hA
 have zf := (hL0.get _ _ (List.mem_cons_of_mem _ List.mem_cons_self)).frz
 have hPt := hL0.put 1 (w.heap.size + 1 + 1 + 1) _ rfl [.int .i64 (ps.length : Int), .int .i64 (qs.length : Int), .slice (some ⟨gu, 0, none⟩) tl.length tl.length] rfl
 simp only [setAll, List.set_cons_zero, List.set_cons_succ] at hPt
 generalize hput1 : (((y5.setCell ⟨w.heap.size + 1 + 1 + 1, 0, none⟩ (.int .i64 (ps.length : Int))).setCell ⟨w.heap.size + 1 + 1 + 1, 1, none⟩ (.int .i64 (qs.length : Int))).setCell ⟨w.heap.size + 1 + 1 + 1, 2, none⟩ (.slice (some ⟨gu, 0, none⟩) tl.length tl.length)) = y6 at hPt
 have hB1 := cells_of _ 0 [] rfl (hPt.get _ _ (List.mem_cons_of_mem _ List.mem_cons_self))
 simp only [cellsF, and_true, Nat.zero_add, Nat.reduceAdd] at hB1
 have hNV : NV w.heap.size tl (.slice (some ⟨gu, 0, none⟩) tl.length tl.length) y6 := ⟨gu, rfl, hge2.out, hPt.get _ _ List.mem_cons_self⟩
 replace hNV := Lib.hid hNV
 clear hL0 hge2
 go_wp2_with fail
 exact bodyPost_ret (v := .tuple #[.agg #[.int .i64 (ps.length : Int), .int .i64 (qs.length : Int), .slice (some ⟨gu, 0, none⟩) tl.length tl.length], .int .i64 0]) (by simp [results, Tryz.results42, go_sem, hB1]) rfl ⟨_, rfl, hNV.out, hPt.bl⟩
set_option maxHeartbeats 4000000 in
set_option maxRecDepth 100000 in
theorem mTextV (x : Mx) (S : Nat → ByteArray) (Jt : List UInt8) (hx : OKM x) (HT : ∀ i, i < x.r → ∀ (v : Value) (w : World), Tab w → RQ w v (rowL x i) → Calls Tryz.prog 81 #[v] w fun xe w' => xe = .returned (.string (S i)) ∧ Below w.heap.size w w') (hJ : Lib.join (((List.range x.r).map S).map (·.data.toList)) [32] = Jt) (hJl : Jt.length ≤ 1000000) (u : Value) (w : World) (ht : Tab w) (hu : CQ w u x.l) :
  Calls Tryz.prog 54 #[.agg #[.int .i64 (x.r : Int), .int .i64 (x.c : Int), u]] w fun xe w' => xe = .returned (.string ⟨Jt.toArray⟩) ∧ Below w.heap.size w w' := by
 have HR := Lib.hid fun i (hi : i < x.r) w0 (h : CQ w0 u x.l) => mrowV x hx i hi u w0 h
 obtain ⟨ao, d, rfl, -⟩ := id hu.form
 have HK := Lib.hid (mcheck_ok x.r x.c x.l.length d ao hx.r hx.c hx.len)
 have hn := Lib.hid hx.r
 obtain ⟨n, hne⟩ : ∃ n, n = x.r := ⟨_, rfl⟩
 rw [← hne] at HR HK hn hJ HT ⊢
 obtain ⟨tx, htx⟩ : ∃ tx, tx = (List.range n).map S := ⟨_, rfl⟩
 have hti : ∀ i, i < n → tx.take (i + 1) = tx.take i ++ [S i] := fun i hi => by
  rw [htx, List.take_succ_eq_append_getElem (by rw [List.length_map, List.length_range]; omega), List.getElem_map, List.getElem_range]
 have htl : tx.length = n := by rw [htx, List.length_map, List.length_range]
 rw [← htx] at hJ
 replace hti := Lib.hid hti
 replace htl := Lib.hid htl
 replace hJ := Lib.hid hJ
 replace hJl := Lib.hid hJl
 replace ht := Lib.hid ht
 replace HT := Lib.hid HT
 clear htx hx hne
 have hL0 : GL w w [] := GL.start w
 replace hL0 := (hL0.new rfl [.int .i64 (n : Int), .int .i64 (x.c : Int), .slice ao x.l.length d] 56)
 generalize hweq : (w.alloc (.cells #[.int .i64 (n : Int), .int .i64 (x.c : Int), .slice ao x.l.length d] 56)) = x1 at hL0
 have hu1 := Lib.hid (hu.below hL0.bl)
 clear hu
 have hA := hL0.fc
 simp only [fcG, cellsF, neK, and_true, ne_eq, Nat.zero_add, Nat.reduceAdd] at hA
 go_enter Tryz.func54, Tryz.ntmps54
 go_wp2_with fail
 with_reducible refine Calls.mono (HK.out _) ?_
 rintro e y1 ⟨rfl, hb⟩
 replace hu1 := Lib.hid (hu1.out.below hb)
 replace hL0 := hL0.call hb
 clear hb hA hweq HK
 have hA := hL0.fc
 simp only [fcG, cellsF, neK, and_true, ne_eq, Nat.zero_add, Nat.reduceAdd] at hA
 go_wp2_with fail
 clear hA
 obtain ⟨x1, hx1⟩ : ∃ x1, x1 = y1 := ⟨_, rfl⟩
 rw [← hx1] at hL0 hu1 ⊢
 replace hx1 := hx1.symm
 obtain ⟨b, hbw⟩ : ∃ b, b = w.heap.size := ⟨_, rfl⟩
 rw [← hbw] at hL0 ⊢
 replace hbw := Lib.hid hbw
 have hbx := Lib.hid (show b < x1.heap.size from (hL0.get _ _ List.mem_cons_self).lt)
 have hbc := Lib.hid (hL0.get _ _ List.mem_cons_self)
 have hwx := Lib.hid hL0.bl
 clear hL0 hx1
 go_loopg [3, 10] n (fun gk sv iv wr => ∃ (k : Nat) (zi : Int) (vs : Value), k + gk = n ∧ vs = sv ∧ iv = .int .i64 zi ∧ zi = (k : Int) ∧ OwnS wr x1.heap.size vs k (tx.take k) ∧ Below x1.heap.size x1 wr)
 case atStart => exact ⟨0, 0, _, Nat.zero_add n, rfl, by first | rfl | go_num, rfl, World.ownsRow_nil _ _ _ _, Below.refl _ _⟩
 case round =>
  obtain ⟨k, zi, vs, hik, rfl, rfl, hzi, hown, hB⟩ := hrel
  replace hown := Lib.hid hown
  have hnn := hn.out
  rcases Nat.lt_or_ge k n with hin | hin
  ·subst hzi
   have k1 : (k : Int) < (n : Int) := by omega
   have k0 : (0 : Int) ≤ (k : Int) := Int.natCast_nonneg _
   have kb : (k : Int) ≤ 10000 := by omega
   have hcu := hu1.out.below hB
   obtain ⟨a2, g1, g2⟩ := HR.out k hin wr hcu
   have hcb := cells_of _ 0 [] rfl (hbc.out.below hB)
   simp only [cellsF, and_true, Nat.zero_add, Nat.reduceAdd] at hcb
   have HT1 := Lib.hid fun w => HT.out k hin (.slice a2 x.c x.c) w
   have hti1 := hti.out k hin
   obtain ⟨St, hS⟩ : ∃ St, St = S k := ⟨_, rfl⟩
   rw [← hS] at HT1 hti1
   replace hti1 := Lib.hid hti1
   replace g1 := Lib.hid g1
   replace g2 := Lib.hid g2
   clear hS hcu
   go_wp2_with fail
   with_reducible refine Calls.mono (g1.out _) ?_
   rintro e y2 ⟨rfl, hb2⟩
   have hB2 := hB.trans (hb2.mono hB.size)
   have g3 := Lib.hid (g2.out.below hb2)
   have hown2 := Lib.hid (ownS_below hown.out hb2)
   clear hb2 g1 g2 hown hcb
   have ht2 := Lib.hid (ht.out.below (hwx.out.trans (hB2.mono hwx.out.size)))
   clear hB
   replace hB2 := Lib.hid hB2
   go_wp2_with fail
   with_reducible refine Calls.mono (HT1.out _ ht2.out g3.out) ?_
   rintro e y3 ⟨rfl, hb3⟩
   have hown3 := Lib.hid (ownS_below hown2.out hb3)
   have hB3 := Lib.hid (hB2.out.trans (hb3.mono hB2.out.size))
   clear hb3 hown2 hB2 ht2 g3 HT1
   have hL1 : GL y3 y3 [] := GL.start y3
   replace hL1 := hL1.new rfl [.string St] 9
   generalize hweq : y3.alloc (.cells #[.string St] 9) = y4 at hL1
   have hown4 := Lib.hid (ownS_below hown3.out hL1.bl)
   have hB4 := Lib.hid (hB3.out.trans (hL1.bl.mono hB3.out.size))
   have hH := Lib.hid (hL1.get _ _ List.mem_cons_self)
   go_wp2_with (at_builtin; refine wp_appendS rfl _ _ rfl _ _ _ _ rfl hown4.out _ St rfl hH.out (by omega) hB4.out.size ?_)
   intro v' w5 hown5 hgrow _
   have hB5 := hB4.out.grown hgrow hB4.out.size (fun j hj => (hown4.out.lt j hj).1)
   rw [← hti1.out] at hown5
   replace hown5 := Lib.hid hown5
   clear hgrow hown4 hB4 hown3 hB3 hH hweq
   go_wp2_with fail
   go_roundg (gk - 1)
   case measure => omega
   case rel => exact ⟨k + 1, _, _, by omega, rfl, by first | rfl | go_num, by omega, hown5.out, hB5⟩
  ·obtain rfl : k = n := by omega
   subst hzi
   have k1 : ¬ (k : Int) < (k : Int) := by omega
   rw [List.take_of_length_le (Nat.le_of_eq htl.out)] at hown
   have hJ2 : Calls Tryz.prog 132 #[vs, .string ⟨#[32]⟩] wr fun e w' => e = .returned (.string ⟨Jt.toArray⟩) ∧ Below wr.heap.size wr w' := by
    by_cases h0 : k = 0
    ·have e0 : tx = [] := List.eq_nil_of_length_eq_zero (by rw [htl.out, h0])
     obtain ⟨a, c2, hvs⟩ := ownS_form hown.out
     rw [hvs, h0]
     rw [e0] at hJ
     refine (Tryz.strings_Join_none a c2 ⟨#[32]⟩ wr).mono ?_
     rintro e w' ⟨rfl, rfl⟩
     exact ⟨by rw [← hJ.out]; rfl, Below.refl _ _⟩
    ·obtain ⟨g9, c9, hvs, hc9, hg9, hce9⟩ := ownS_cells hown.out (by rw [htl.out]; omega)
     rw [hvs]
     have := Tryz.strings_Join g9 0 c9 tx ⟨#[32]⟩ wr hce9 hg9 (by rw [htl.out]; omega) hc9 (by
      have h1 := hJl.out
      rw [← hJ.out] at h1
      exact Nat.le_trans h1 (by decide))
     rw [show (⟨#[32]⟩ : ByteArray).data.toList = [32] from rfl, hJ.out] at this
     exact this
   replace hJ2 := Lib.hid hJ2
   replace hB := Lib.hid hB
   obtain ⟨a9, c9, hvs⟩ := ownS_form hown.out
   subst hvs
   go_wp2_with fail
   with_reducible refine Calls.mono hJ2.out ?_
   rintro e y9 ⟨rfl, hb9⟩
   have hB9 := Lib.hid (hwx.out.trans ((hB.out.trans (hb9.mono hB.out.size)).mono hwx.out.size))
   clear hb9
   go_wp2_with fail
   exact bodyPost_ret (v := .string ⟨Jt.toArray⟩) (by simp [results, Tryz.results54, go_sem]) rfl ⟨rfl, hB9.out⟩
/-- Equal to the transpose, below the diagonal. -/
def LowM (x : Mx) (n : Nat) : Prop := ∀ i k, k < i → i < n → ent x i k = ent x k i
set_option maxHeartbeats 4000000 in
set_option maxRecDepth 100000 in
theorem mSymm_w (x : Mx) (n m d : Nat) (ao : Option Addr) (hr : n ≤ 2048) (hm : m = n * n) (KC : World → Prop) (hKC : Keeps KC)
  (HA : ∀ i k, i < n → k < n → ∀ w, KC w → Calls Tryz.prog 110 #[.agg #[.int .i64 (n : Int), .int .i64 (n : Int), .slice ao m d], .int .i64 (i : Int), .int .i64 (k : Int)] w fun xe w' => xe = .returned (fracV (ent x i k)) ∧ Below w.heap.size w w') (b : Bool) (hb : b = true ↔ LowM x n) (w : World) (kC : KC w) :
  Calls Tryz.prog 103 #[.agg #[.int .i64 (n : Int), .int .i64 (n : Int), .slice ao m d]] w fun xe w' => xe = .returned (.bool b) ∧ Below w.heap.size w w' := by
 have HK := Lib.hid (mcheck_ok n n m d ao hr hr hm)
 have hn := Lib.hid hr
 clear hr hm
 replace HA := Lib.hid HA
 replace hKC := Lib.hid hKC
 replace hb := Lib.hid hb
 have hL0 : GL w w [] := GL.start w
 replace hL0 := (hL0.new rfl [.int .i64 (n : Int), .int .i64 (n : Int), .slice ao m d] 56)
 generalize hweq : (w.alloc (.cells #[.int .i64 (n : Int), .int .i64 (n : Int), .slice ao m d] 56)) = x0 at hL0
 replace kC := Lib.hid (hKC.out.at hL0.bl kC)
 have hA := hL0.fc
 simp only [fcG, cellsF, neK, and_true, ne_eq, Nat.zero_add, Nat.reduceAdd] at hA
 go_enter Tryz.func103, Tryz.ntmps103
 go_wp2_with fail
 with_reducible refine Calls.mono (HK.out _) ?_
 rintro e x1 ⟨rfl, hb1⟩
 replace kC := Lib.hid (hKC.out.at hb1 kC.out)
 replace hL0 := hL0.call hb1
 clear hb1 hA hweq HK
 have hA := hL0.fc
 simp only [fcG, cellsF, neK, and_true, ne_eq, Nat.zero_add, Nat.reduceAdd] at hA
 have e1 : ((n : Int) != (n : Int)) = false := by simp
 go_wp2_with fail
 clear hA e1
 have hbc := Lib.hid (hL0.get _ _ List.mem_cons_self)
 have hwx := Lib.hid hL0.bl
 clear hL0
 go_loopg [17] n (fun gk iv wr => ∃ (i : Nat) (zi : Int), i + gk = n ∧ iv = .int .i64 zi ∧ zi = (i : Int) ∧ LowM x i ∧ Below x1.heap.size x1 wr)
 case atStart => exact ⟨0, 0, Nat.zero_add n, by first | rfl | go_num, rfl, fun i k h1 h2 => by omega, Below.refl _ _⟩
 case round =>
  obtain ⟨i, zi, hik, rfl, hzi, hlow, hB⟩ := hrel
  have hnn := hn.out
  replace hlow := Lib.hid hlow
  rcases Nat.lt_or_ge i n with hin | hin
  ·subst hzi
   have k1 : (i : Int) < (n : Int) := by omega
   have k0 : (0 : Int) ≤ (i : Int) := Int.natCast_nonneg _
   have kb : (i : Int) ≤ 10000 := by omega
   replace hB := Lib.hid hB
   go_wp2_with fail
   obtain ⟨wo, hwo⟩ : ∃ wo, wo = wr := ⟨_, rfl⟩
   subst hwo
   go_loopg [21] i (fun gk kv wr2 => ∃ (k : Nat) (zk : Int), k + gk = i ∧ kv = .int .i64 zk ∧ zk = (k : Int) ∧ (∀ b, b < k → ent x i b = ent x b i) ∧ Below x1.heap.size x1 wr2)
   case atStart => exact ⟨0, 0, Nat.zero_add i, by first | rfl | go_num, rfl, fun b h => by omega, hB.out⟩
   case round =>
    clear hB
    obtain ⟨k, zk, hkk, rfl, hzk, hrow, hB⟩ := hrel
    replace hrow := Lib.hid hrow
    rcases Nat.lt_or_ge k i with hkn | hkn
    ·subst hzk
     have m1 : (k : Int) < (i : Int) := by omega
     have m0 : (0 : Int) ≤ (k : Int) := Int.natCast_nonneg _
     have mb : (k : Int) ≤ 10000 := by omega
     have HA1 := HA.out i k hin (by omega)
     have HA2 := HA.out k i (by omega) hin
     obtain ⟨p, hp⟩ : ∃ p, p = ent x i k := ⟨_, rfl⟩
     obtain ⟨q, hq⟩ : ∃ q, q = ent x k i := ⟨_, rfl⟩
     rw [← hp] at HA1
     rw [← hq] at HA2
     replace HA1 := Lib.hid HA1
     replace HA2 := Lib.hid HA2
     replace hp := Lib.hid hp
     replace hq := Lib.hid hq
     have kC1 := hKC.out.at hB kC.out
     have hcb := cells_of _ 0 [] rfl (hbc.out.below hB)
     simp only [cellsF, and_true, Nat.zero_add, Nat.reduceAdd] at hcb
     obtain ⟨c0, c1, c9⟩ := hcb
     obtain ⟨t, ht⟩ : ∃ t, t = decide (p = q) := ⟨_, rfl⟩
     have heq := fun W => run_neqF p q t ht W
     replace ht := Lib.hid ht
     replace hB := Lib.hid hB
     go_upto_region 9 with fail
     obtain ⟨wz, hwz⟩ : ∃ wz, wz = wr := ⟨_, rfl⟩
     rw [← hwz] at hB kC1 c0 c1 c9 ⊢
     clear hwz
     obtain ⟨α, iα, F, hF1, hF2⟩ := cls wz
     have q0 := fun yz => keepsC (hF1 yz) c0
     have q1 := fun yz => keepsC (hF1 yz) c1
     have q2 := fun yz => keepsC (hF1 yz) c9
     clear c0 c1 c9
     refine region_cls (F := F) (by kernel_rfl) (lexB_of_fast (by kernel_rfl)) (cls_drew hF2) ?_
     repeat (go_big_quiet_step (first | fail | (go_at_call 110; with_reducible exact cls_callK hKC.out hF1 hF2 kC1 HA1.out _) | (go_at_call 110; with_reducible exact cls_callK hKC.out hF1 hF2 kC1 HA2.out _)))
     refine wpQuiet_nil ?_
     rintro wq ⟨xq, rfl⟩
     replace hB := Lib.hid (hB.out.trans ((hF1 xq).mono hB.out.size))
     clear q0 q1 q2 hF2 heq kC1
     generalize F xq = wy at hB ⊢
     clear hF1 xq iα F α
     cases t with
     | true =>
      have hpq := Lib.hid (show ent x i k = ent x k i by rw [← hp.out, ← hq.out]; exact of_decide_eq_true ht.out.symm)
      clear hp hq HA1 HA2
      go_wp2_with fail
      go_roundg (i - (k + 1))
      case measure => omega
      case rel => exact ⟨k + 1, _, by omega, by first | rfl | go_num, by omega, fun b h => by
       rcases Nat.lt_or_ge b k with g | g
       ·exact hrow.out b g
       ·rw [show b = k by omega]; exact hpq.out, hB.out⟩
     | false =>
      obtain rfl : b = false := by
       cases b with
       | false => rfl
       | true =>
        have := hb.out.1 rfl i k hkn hin
        rw [← hp.out, ← hq.out] at this
        exact absurd this (of_decide_eq_false ht.out.symm)
      clear hp hq HA1 HA2
      have hB9 := Lib.hid (hwx.out.trans (hB.out.mono hwx.out.size))
      go_wp2_with fail
      exact bodyPost_ret (v := .bool false) (by simp [results, Tryz.results103, go_sem]) rfl ⟨rfl, hB9.out⟩
    ·obtain rfl : i = k := by omega
     subst hzk
     have m1 : ¬ (i : Int) < (i : Int) := by omega
     have hl2 : LowM x (i + 1) := fun a b h1 h2 => by
      rcases Nat.lt_or_ge a i with g | g
      ·exact hlow.out a b h1 g
      ·obtain rfl : a = i := by omega
       exact hrow.out b h1
     replace hl2 := Lib.hid hl2
     replace hB := Lib.hid hB
     go_wp2_with fail
     go_roundg (n - (i + 1))
     case measure => omega
     case rel => exact ⟨i + 1, _, by omega, by first | rfl | go_num, by omega, hl2.out, hB.out⟩
  ·obtain rfl : n = i := by omega
   subst hzi
   have k1 : ¬ (n : Int) < (n : Int) := by omega
   obtain rfl : b = true := hb.out.2 hlow.out
   have hB9 := Lib.hid (hwx.out.trans (hB.mono hwx.out.size))
   clear hB
   go_wp2_with fail
   exact bodyPost_ret (v := .bool true) (by simp [results, Tryz.results103, go_sem]) rfl ⟨rfl, hB9.out⟩
set_option maxHeartbeats 4000000 in
set_option maxRecDepth 100000 in
theorem mSymm_ns (r c n d : Nat) (ao : Option Addr) (hr : r ≤ 2048) (hc : c ≤ 2048) (hm : n = r * c) (hne : r ≠ c) (w : World) : Calls Tryz.prog 103 #[.agg #[.int .i64 (r : Int), .int .i64 (c : Int), .slice ao n d]] w fun xe w' => xe = .returned (.bool false) ∧ Below w.heap.size w w' := by
 have HK := Lib.hid (mcheck_ok r c n d ao hr hc hm)
 have h1 : ((r : Int) != (c : Int)) = true := by simp; omega
 have h2 : ((r : Int) == (c : Int)) = false := by simp; omega
 have h3 : (r == c) = false := by simp; omega
 have h4 : ¬ (r : Int) = (c : Int) := by omega
 clear hr hc hm hne
 have hL0 : GL w w [] := GL.start w
 replace hL0 := (hL0.new rfl [.int .i64 (r : Int), .int .i64 (c : Int), .slice ao n d] 56)
 generalize hweq : (w.alloc (.cells #[.int .i64 (r : Int), .int .i64 (c : Int), .slice ao n d] 56)) = x1 at hL0
 have hA := hL0.fc
 simp only [fcG, cellsF, neK, and_true, ne_eq, Nat.zero_add, Nat.reduceAdd] at hA
 go_enter Tryz.func103, Tryz.ntmps103
 go_wp2_with fail
 with_reducible refine Calls.mono (HK.out _) ?_
 rintro e y1 ⟨rfl, hb⟩
 replace hL0 := hL0.call hb
 clear hb hA hweq HK
 have hA := hL0.fc
 simp only [fcG, cellsF, neK, and_true, ne_eq, Nat.zero_add, Nat.reduceAdd] at hA
 go_wp2_with fail
 exact bodyPost_ret (v := .bool false) (by simp [results, Tryz.results103, go_sem]) rfl ⟨rfl, hL0.bl⟩
end Go.Proofs.YtjdjhlmcbffocaaGreatDoor
namespace Go.Proofs.YtjdjhlmcbffocaaGreatDoor
open Go.RowKit
attribute [local irreducible] lo hs sm s64 c64 d64 b64 mh ml pd pc qd qc val hiB str cmpI srD lz nb zl zh zs fe qmade
section
variable {x y : Mx} {n k p K M : Nat}
theorem sqM {a b c : Nat} (h1 : a ≤ 12) (h2 : b ≤ 12) : a * b ≤ 144 := Nat.mul_le_mul h1 h2
theorem mul9 {a b c d : Nat} (h1 : a ≤ c) (h2 : b ≤ d) (h3 : c * d ≤ 19000) : a * b ≤ 19000 := Nat.le_trans (Nat.mul_le_mul h1 h2) h3
theorem MulG (hx : GM x n k K) (hy : GM y k p M) (hn : n ≤ 12) (hk : k ≤ 12) (hp : p ≤ 12) (hK : K ≤ 700) (hM : M ≤ 700) (u v : Value) (w : World) (hu : MT w u x) (hv : MT w v y) :
  Calls Tryz.prog 64 #[u, v] w fun e w' => ∃ pv, e = .returned (.tuple #[pv, .int .i64 0]) ∧ MT w' pv (mulM n k p x y) ∧ Below w.heap.size w w' := by
 have ox := hx.ok (by omega) (by omega)
 have oy := hy.ok (by omega) (by omega)
 have sx := (hx.mono (Nat.le_max_left K M)).sz
 have sy := (hy.mono (Nat.le_max_right K M)).sz
 obtain ⟨rfl, rfl, -, -⟩ := hx
 obtain ⟨hr, rfl, -, -⟩ := hy
 obtain ⟨u1, rfl, hu⟩ := hu
 obtain ⟨v1, rfl, hv⟩ := hv
 refine (mMulV x y (max K M) ox oy hr (by have := sqM (c := 0) hn hp; omega) (by rw [hr]; have := sqM (c := 0) hk hp; omega) (by omega) (mul9 hk (show max K M + max K M + 1 ≤ 1401 by omega) (by omega)) (by omega) sx sy u1 v1 w hu hv).mono ?_
 rintro e w' ⟨t, rfl, h1, hb⟩
 exact ⟨_, rfl, ⟨t, rfl, h1.cq⟩, hb⟩
theorem MTurnG (hx : GM x n k K) (hn : n ≤ 12) (hk : k ≤ 12) (u : Value) (w : World) (hu : MT w u x) :
  Calls Tryz.prog 63 #[u] w fun e w' => ∃ pv, e = .returned (.tuple #[pv, .int .i64 0]) ∧ MT w' pv (turM n k x) ∧ Below w.heap.size w w' := by
 have ox := hx.ok (by omega) (by omega)
 obtain ⟨rfl, rfl, -, -⟩ := hx
 obtain ⟨u1, rfl, hu⟩ := hu
 refine (mTurnV x ox (by have := sqM (c := 0) hn hk; omega) u1 w hu).mono ?_
 rintro e w' ⟨t, rfl, h1, hb⟩
 exact ⟨_, rfl, ⟨t, rfl, h1.cq⟩, hb⟩
theorem MApplyG {v : List Rat} (hx : GM x n k K) (hv : GV v k M) (hn : n ≤ 12) (hk : k ≤ 12) (hK : K ≤ 700) (hM : M ≤ 700) (u s : Value) (w : World) (hu : MT w u x) (hs : PT w s v) :
  Calls Tryz.prog 30 #[u, s] w fun e w' => ∃ pv, e = .returned (.tuple #[pv, .int .i64 0]) ∧ PT w' pv (appV n k x v) ∧ Below w.heap.size w w' := by
 have ox := hx.ok (by omega) (by omega)
 have sx := (hx.mono (Nat.le_max_left K M)).sz
 have sv := (hv.mono (Nat.le_max_right K M)).sz
 have hl := hv.len
 obtain ⟨rfl, rfl, -, -⟩ := hx
 obtain ⟨u1, rfl, hu⟩ := hu
 refine (mApplyV x v (max K M) ox hl (by omega) (mul9 hk (show max K M + max K M + 1 ≤ 1401 by omega) (by omega)) (by omega) sx sv u1 s w hu hs).mono ?_
 rintro e w' ⟨t, rfl, h1, hb⟩
 exact ⟨_, rfl, h1.slq, hb⟩
theorem MFormG {v y : List Rat} {N : Nat} (hx : GM x n k K) (hv : GV v n M) (hy : GV y k M) (hn : n ≤ 12) (hk : k ≤ 12) (hN : k * (max K M + max K M + 1) + 1 ≤ N) (hM : M ≤ N) (hN2 : N ≤ 700) (hK : K ≤ 700) (u s t : Value) (w : World) (hu : MT w u x) (hs : PT w s v) (ht : PT w t y) :
  Calls Tryz.prog 31 #[u, s, t] w fun e w' => e = .returned (.tuple #[fracV (formM n k x v y), .int .i64 0]) ∧ Below w.heap.size w w' := by
 have ox := hx.ok (by omega) (by omega)
 have sx := (hx.mono (Nat.le_max_left K M)).sz
 have sy := (hy.mono (Nat.le_max_right K M)).sz
 have sv := (hv.mono hM).sz
 have hl := hy.len
 have hw := hv.len
 obtain ⟨rfl, rfl, -, -⟩ := hx
 obtain ⟨u1, rfl, hu⟩ := hu
 exact mFormV x v y (max K M) N ox hl hw (by omega) (by omega) (mul9 hk (show max K M + max K M + 1 ≤ 1401 by omega) (by omega)) (by omega) sx sy (mul9 hn (show N + N + 1 ≤ 1401 by omega) (by omega)) (by omega) hN sv u1 s t w hu hs ht
theorem MSymG (hx : GM x n n K) (hn : n ≤ 12) (b : Bool) (hb : b = true ↔ SymM n x) (u : Value) (w : World) (hu : MT w u x) :
  Calls Tryz.prog 103 #[u] w fun e w' => e = .returned (.bool b) ∧ Below w.heap.size w w' := by
 have ox := hx.ok (by omega) (by omega)
 have hl := hx.len
 obtain ⟨hr, hc, -, -⟩ := hx
 obtain ⟨u1, rfl, hu⟩ := hu
 rw [hr, hc]
 obtain ⟨ao, d, rfl, -⟩ := id hu.form
 exact mSymm_w x n x.l.length d ao (by omega) hl (fun w => CQ w _ x.l) (CQ.keeps _ _) (fun i k hi hk w h => by have := matV x ox i k (by omega) (by omega) _ w h; rwa [hr, hc] at this) b (hb.trans ⟨fun h i k h1 h2 => h i k h2 (by omega), fun h i k hi hk => by
  rcases Nat.lt_trichotomy i k with g | g | g
  ·exact (h k i g hk).symm
  ·rw [g]
  ·exact h i k g hi⟩) w hu
theorem MSymN (hx : GM x n k K) (hn : n ≤ 12) (hk : k ≤ 12) (hne : n ≠ k) (u : Value) (w : World) (hu : MT w u x) :
  Calls Tryz.prog 103 #[u] w fun e w' => e = .returned (.bool false) ∧ Below w.heap.size w w' := by
 have hl := hx.len
 obtain ⟨hr, hc, -, -⟩ := hx
 obtain ⟨u1, rfl, hu⟩ := hu
 rw [hr, hc]
 obtain ⟨ao, d, rfl, -⟩ := id hu.form
 exact mSymm_ns n k x.l.length d ao (by omega) (by omega) hl hne w
end
end Go.Proofs.YtjdjhlmcbffocaaGreatDoor
namespace Go.Proofs.YtjdjhlmcbffocaaGreatDoor
open Go.RowKit
attribute [local irreducible] lo hs sm s64 c64 d64 b64 mh ml pd pc qd qc val hiB str cmpI srD lz nb zl zh zs fe rowV tabV gv bsV
theorem slq_upd {W W' : World} {v : Value} {l : List Rat} {k : Nat} (h : SlQ W v l) (hu : Upd k W W') (hk : ∀ g c, v = .slice (some ⟨g, 0, none⟩) l.length c → FS W g l → l ≠ [] → g ≠ k) : SlQ W' v l := by
 by_cases h0 : l = []
 ·subst h0
  rcases h with h1 | ⟨g, c, h1, h2⟩
  ·exact .inl h1
  ·exact .inl ⟨_, c, h1, rfl⟩
 ·rcases h with ⟨_, _, _, h1⟩ | ⟨g, c, h1, h2⟩
  ·exact absurd h1 h0
  ·have hbl := hu.block g (hk g c h1 h2 h0)
   have cc : ∀ j, W'.cell? ⟨g, j, none⟩ = W.cell? ⟨g, j, none⟩ := fun j => World.cell?_of_block (a := ⟨g, j, none⟩) hbl
   exact .inr ⟨g, c, h1, fun i hi => by rw [cc, cc, cc, cc, cc]; exact h2.cell i hi, by rw [hu.size]; exact h2.lt⟩
/-- .. a box whose first cell begins no fraction. -/
theorem PTs.putM {W W' : World} {S : List (Value × List Rat)} (h : PTs W S) {k : Nat} {x : Value} {cs : List Value} (hu : Upd k W W') (hd : Hd W k (x :: cs)) (hx : ∀ n, x ≠ .int .u64 n) : PTs W' S := fun p hp =>
 slq_upd (h p hp) hu fun g c _ hf h0 e => by
  subst e
  have h1 := (hf.cell 0 (List.length_pos_iff.2 h0)).1
  rw [Nat.zero_mul, hd.cell 0 (by simp)] at h1
  exact hx _ (Option.some.inj h1)
/-- .. a box that was made behind the slices. -/
theorem PTs.putN {W0 W W' : World} {S : List (Value × List Rat)} (h : PTs W S) (h0 : PTs W0 S) {k : Nat} (hk : W0.heap.size ≤ k) (hu : Upd k W W') : PTs W' S := fun p hp =>
 slq_upd (h p hp) hu fun g c hv hf hl e => by
  subst e
  rcases h0 p hp with ⟨_, _, _, h1⟩ | ⟨g2, c2, h1, h2⟩
  ·exact hl h1
  ·rw [h1] at hv
   injection hv with e1
   obtain rfl : g2 = g := by simpa using e1
   have := h2.lt
   omega
/-- A slice of matrices as the laws take them: the lengths of their rows of elements. -/
def FWs (w : World) (v : Value) (ls : List Nat) : Prop := ∃ ao c g, v = .slice ao ls.length c ∧ (0 < ls.length → ao = some ⟨g, 0, none⟩) ∧ ∀ i (h : i < ls.length), ∃ a d, w.cell? ⟨g, i * 3 + 2, none⟩ = some (.slice a (ls[i]'h) d)
end Go.Proofs.YtjdjhlmcbffocaaGreatDoor
namespace Go.Proofs.YtjdjhlmcbffocaaGreatDoor
open Go.RowKit
attribute [local irreducible] lo hs sm s64 c64 d64 b64 mh ml pd pc qd qc val hiB str cmpI srD lz nb zl zh zs fe rowV tabV gv bsV tabM
set_option maxHeartbeats 4000000 in
set_option maxRecDepth 100000 in
theorem mfew_w (m c g : Nat) (ao : Option Addr) (ln : Nat → Nat) (hm : m ≤ 100000) (w : World) (hx : 0 < m → ao = some ⟨g, 0, none⟩)
  (hc : ∀ i, i < m → ∃ a d, w.cell? ⟨g, i * 3 + 2, none⟩ = some (.slice a (ln i) d)) (b : Bool) (hb : b = true ↔ ∀ i, i < m → ln i ≤ 40) :
  Calls Tryz.prog 25 #[.slice ao m c] w fun xe w' => xe = .returned (.bool b) ∧ Below w.heap.size w w' := by
 replace hm := Lib.hid hm
 replace hx := Lib.hid hx
 replace hc := Lib.hid hc
 replace hb := Lib.hid hb
 go_enter Tryz.func25, Tryz.ntmps25
 go_wp2_with fail
 go_loopg [3] m (fun gk iv wr => ∃ (k : Nat) (zi : Int), k + gk = m ∧ iv = .int .i64 zi ∧ zi = (k : Int) ∧ (∀ i, i < k → ln i ≤ 40) ∧ wr = w)
 case atStart => exact ⟨0, 0, Nat.zero_add m, by first | rfl | go_num, rfl, fun i h => by omega, rfl⟩
 case round =>
  obtain ⟨k, zi, hik, rfl, hzi, hall, hwr⟩ := hrel
  subst hwr
  have hmm := hm.out
  replace hall := Lib.hid hall
  rcases Nat.lt_or_ge k m with hin | hin
  ·subst hzi
   have k1 : (k : Int) < (m : Int) := by omega
   have k0 : (0 : Int) ≤ (k : Int) := Int.natCast_nonneg _
   have kb : (k : Int) ≤ 100000 := by omega
   obtain ⟨a, d, hcell⟩ := hc.out k hin
   have e0 := hx.out (by omega)
   subst e0
   rcases Nat.lt_or_ge 40 (ln k) with hl | hl
   ·have l1 : (40 : Int) < (ln k : Int) := by omega
    obtain rfl : b = false := by
     cases b with
     | false => rfl
     | true => exact absurd (hb.out.1 rfl k hin) (by omega)
    generalize ln k = lk at *
    go_wp2_with fail
    exact bodyPost_ret (v := .bool false) (by simp [results, Tryz.results25, go_sem]) rfl ⟨rfl, Below.refl _ _⟩
   ·have l1 : ¬ (40 : Int) < (ln k : Int) := by omega
    have l2 : ¬ 40 < ln k := by omega
    have hl9 := Lib.hid hl
    clear hl
    obtain ⟨lk, hlk⟩ : ∃ lk, lk = ln k := ⟨_, rfl⟩
    rw [← hlk] at hcell l1 l2
    clear hlk
    go_wp2_with fail
    go_roundg (m - (k + 1))
    case measure => omega
    case rel => exact ⟨k + 1, _, by omega, by first | rfl | go_num, by omega, fun i h => by
     rcases Nat.lt_or_ge i k with g | g
     ·exact hall.out i g
     ·rw [show i = k by omega]; exact hl9.out, rfl⟩
  ·obtain rfl : k = m := by omega
   subst hzi
   have k1 : ¬ (k : Int) < (k : Int) := by omega
   obtain rfl : b = true := hb.out.2 hall.out
   go_wp2_with fail
   exact bodyPost_ret (v := .bool true) (by simp [results, Tryz.results25, go_sem]) rfl ⟨rfl, Below.refl _ _⟩
/-- The element of a slice of plain fractions, or 0. -/
def qE (ql : List (Int × Int)) (i : Nat) : Rat := if i < ql.length then qm (ql.getD i (0, 0)) else 0
theorem qE_in {ql : List (Int × Int)} {i : Nat} (h : i < ql.length) : qE ql i = qm ql[i] := by
 unfold qE
 rw [if_pos h, List.getD_eq_getElem?_getD, List.getElem?_eq_getElem h]
 rfl
theorem qE_out {ql : List (Int × Int)} {i : Nat} (h : ql.length ≤ i) : qE ql i = 0 := by
 unfold qE
 rw [if_neg (by omega)]
def vecM (ql : List (Int × Int)) (n : Nat) : List Rat := tabV n (qE ql)
theorem rowV_stop {f : Nat → Rat} {n m : Nat} (h : m ≤ n) (h0 : ∀ i, m ≤ i → f i = 0) : rowV f n m = tabV n f := by
 have e : rowV f n m = tabV m f ++ List.replicate (n - m) 0 := by unfold rowV; rfl
 rw [e]
 apply List.ext_getElem (by rw [List.length_append, tabV_len, List.length_replicate, tabV_len]; omega)
 intro i h1 h2
 rw [tabV_get h2]
 rcases Nat.lt_or_ge i m with g | g
 ·rw [List.getElem_append_left (by rw [tabV_len]; exact g), tabV_get]
 ·rw [List.getElem_append_right (by rw [tabV_len]; exact g), List.getElem_replicate, h0 i g]
set_option maxHeartbeats 4000000 in
set_option maxRecDepth 100000 in
theorem mvec_w (ql : List (Int × Int)) (n m : Nat) (hn : n ≤ 100) (hl : ql.length = m) (hm : m ≤ 100) (v : Value) (w : World) (hv : QV w v ql) :
  Calls Tryz.prog 29 #[v, .int .i64 (n : Int)] w fun xe w' => ∃ u, xe = .returned u ∧ SlQ w' u (vecM ql n) ∧ Below w.heap.size w w' := by
 obtain ⟨ao, c, rfl, hc, hc0, hq⟩ := hv
 rw [hl] at hq ⊢
 have hmk := fun W => makeV W (n : Int) n rfl (by omega)
 replace hq := Lib.hid hq
 replace hn := Lib.hid hn
 replace hm := Lib.hid hm
 replace hl := Lib.hid hl
 clear hc hc0
 have hL0 : GL w w [] := GL.start w
 replace hL0 := hL0.new rfl (frCs (List.replicate n 0)) 36
 generalize hweq : w.alloc (.cells (frCs (List.replicate n 0)).toArray 36) = x1 at hL0
 rw [← rowV_zero (qE ql) n] at hL0
 go_enter Tryz.func29, Tryz.ntmps29
 go_wp2_with fail
 clear hweq hmk
 obtain ⟨g, hg⟩ : ∃ g, g = w.heap.size := ⟨_, rfl⟩
 rw [← hg] at hL0 ⊢
 replace hg := Lib.hid hg
 go_loopg [6] n (fun gk iv wr => ∃ (k : Nat) (zi : Int), k + gk = n ∧ iv = .int .i64 zi ∧ zi = (k : Int) ∧ k ≤ m ∧ GL w wr [(g, frCs (rowV (qE ql) n k))])
 case atStart => exact ⟨0, 0, Nat.zero_add n, by first | rfl | go_num, rfl, Nat.zero_le _, hL0⟩
 case round =>
  clear hL0
  obtain ⟨k, zi, hik, rfl, hzi, hkm, hL0⟩ := hrel
  have hnn := hn.out
  have hend : ∀ wz, GL w wz [(g, frCs (rowV (qE ql) n k))] → (n ≤ k ∨ m ≤ k) → SlQ wz (.slice (some ⟨g, 0, none⟩) n n) (vecM ql n) := fun wz hz ho => by
   have e : rowV (qE ql) n k = vecM ql n := by
    rcases ho with h | h
    ·obtain rfl : k = n := by omega
     exact rowV_end _ _
    ·exact rowV_stop (by omega) fun i hi => qE_out (by rw [hl.out]; omega)
   rw [e] at hz
   exact .inr ⟨g, n, by rw [vecM, tabV_len], hd_fs (hz.get _ _ List.mem_cons_self)⟩
  replace hend := Lib.hid hend
  rcases Nat.lt_or_ge k n with hin | hin
  ·subst hzi
   have k1 : (k : Int) < (n : Int) := by omega
   have k0 : (0 : Int) ≤ (k : Int) := Int.natCast_nonneg _
   have kb : (k : Int) ≤ 1000 := by omega
   rcases Nat.lt_or_ge k m with him | him
   ·have k2 : (k : Int) < (m : Int) := by omega
    obtain ⟨a, rfl, hsl⟩ := hq.out (by omega)
    have hki : k < ql.length := by rw [hl.out]; exact him
    have e0 := (hsl.below hL0.bl).c0 k hki
    have e1 := (hsl.below hL0.bl).c1 k hki
    obtain ⟨⟨b1, b2⟩, b3, b4⟩ := hsl.rg ql[k] (List.getElem_mem hki)
    have HQ := qof_any ql[k].1 ql[k].2 b1 b2 b3 b4
    obtain ⟨q, hqq⟩ : ∃ q, q = qm ql[k] := ⟨_, rfl⟩
    rw [show qmade ql[k].1 ql[k].2.toNat = qm ql[k] from rfl, ← hqq] at HQ
    rw [← qE_in hki] at hqq
    generalize ql[k].1 = zn at *
    generalize ql[k].2 = zd at *
    replace HQ := Lib.hid HQ
    replace hqq := Lib.hid hqq
    rw [add_one] at e1
    clear hsl b1 b2 b3 b4 hend
    go_wp2_with fail
    with_reducible refine Calls.mono (HQ.out _) ?_
    rintro e y1 ⟨rfl, hb3⟩
    replace hL0 := hL0.call hb3
    clear hb3 e0 e1 HQ
    have zh := hL0.get _ _ List.mem_cons_self
    have hlen := rowV_len (qE ql) n k (Nat.le_of_lt hin)
    obtain ⟨z0, z1, z2, z3, z4⟩ := (hd_fs zh).cell k (by omega)
    have zz := zh.frz
    clear zh
    have hPt := hL0.putF 0 g (rowV (qE ql) n k) rfl k q (by omega)
    simp only [List.set_cons_zero, List.set_cons_succ] at hPt
    generalize hputr : (((((y1.setCell ⟨g, k * 5, none⟩ (.int .u64 ((zl q.num : Nat) : Int))).setCell ⟨g, k * 5 + 1, none⟩ (.string (zh q.num))).setCell ⟨g, k * 5 + 2, none⟩ (.bool (zs q.num))).setCell ⟨g, k * 5 + 3, none⟩ (.int .u64 ((lo (fe q) : Nat) : Int))).setCell ⟨g, k * 5 + 4, none⟩ (.string (hs (fe q)))) = y2 at hPt
    rw [hqq.out, rowV_step (qE ql) n k hin] at hPt
    clear hL0
    have hL0 := hPt
    clear hPt
    go_wp2_with fail
    go_roundg (n - (k + 1))
    case measure => omega
    case rel => exact ⟨k + 1, _, by omega, by first | rfl | go_num, by omega, by omega, hL0⟩
   ·have k2 : ¬ (k : Int) < (m : Int) := by omega
    have hs9 := Lib.hid (hend.out _ hL0 (.inr him))
    go_wp2_with fail
    exact bodyPost_ret (v := .slice (some ⟨g, 0, none⟩) n n) (by simp [results, Tryz.results29, go_sem]) rfl ⟨_, rfl, hs9.out, hL0.bl⟩
  ·have hs9 := Lib.hid (hend.out _ hL0 (.inl hin))
   subst hzi
   have k1 : ¬ (k : Int) < (n : Int) := by omega
   go_wp2_with fail
   exact bodyPost_ret (v := .slice (some ⟨g, 0, none⟩) n n) (by simp [results, Tryz.results29, go_sem]) rfl ⟨_, rfl, hs9.out, hL0.bl⟩
end Go.Proofs.YtjdjhlmcbffocaaGreatDoor
namespace Go.Proofs.YtjdjhlmcbffocaaGreatDoor
open Go.RowKit
attribute [local irreducible] lo hs sm s64 c64 d64 b64 mh ml pd pc qd qc val hiB str cmpI srD lz nb zl zh zs fe rowV tabV gv bsV tabM
theorem wp_appendM {w : World} {ops : Array Oper} {rest : List Oper} {o : Oper} {a : Act} {Q : Exit → Act → World → Prop} (hgd : o.guard = none) (s x : Operand)
  (ho : o.op = .call { callee := .builtin .append, args := #[s, x], argTypes := #[27, 27] }) (B : Nat) (v : Value) (n : Nat) (L : List Rat) (hs : a.eval s = v) (hown : OwnF w B v n L) (g : Nat) (t : Rat) (hx : a.eval x = .slice (some ⟨g, 0, none⟩) 1 1) (hH : Hd w g (frC t))
  (hn : n ≤ 100000) (hbase : B ≤ w.heap.size)
  (h : ∀ v' w', OwnF w' B v' (n + 1) (L ++ [t]) → w.grownBy w' v.ownBlock → (v'.ownBlock = v.ownBlock ∨ v'.ownBlock = some w.heap.size) → wpList Tryz.prog ops Q rest (a.put o.dst v') w') : wpList Tryz.prog ops Q (o :: rest) a w := by
 obtain ⟨i0, hi, hz1, hz2, hz3⟩ := info_parts infoFr
 refine wpList_append_own_at w hgd s x 27 ho B 36 i0 _ 5 56 Tryz.underlying27 hi hz1 hz2 hz3 rfl (by decide) v n (frCs L) hs hown ⟨g, 0, none⟩ 1 1 (frC t) hx rfl (hd_newsH hH) (frC_one t) (by unfold maxLen; omega) (by omega) hbase ?_
 intro v' w' h1 h2 _ h4
 refine h v' w' ?_ h2 h4
 unfold OwnF
 rw [frCs_snoc]; exact h1
theorem own_updM {W W' : World} {B n k : Nat} {v : Value} {l : List Rat} (h : OwnF W B v n l) (hu : Upd k W W') (hk : k < B) : OwnF W' B v n l := by
 refine ⟨h.1, ?_⟩
 rcases h.2 with h1 | ⟨g, cap, cur, h1, h2, h3, h4⟩
 ·exact .inl h1
 ·refine .inr ⟨g, cap, cur, h1, h2, ?_, h4⟩
  have hg := (World.ownsRow.lt h g (by rw [h1]; rfl)).1
  rw [hu.block g (by omega)]; exact h3
theorem own_updN {W W' : World} {B n k : Nat} {v : Value} {l : List Rat} (h : OwnF W B v n l) (hu : Upd k W W') (hk : ∀ z, v.ownBlock = some z → z ≠ k) : OwnF W' B v n l := by
 refine ⟨h.1, ?_⟩
 rcases h.2 with h1 | ⟨g, cap, cur, h1, h2, h3, h4⟩
 ·exact .inl h1
 ·refine .inr ⟨g, cap, cur, h1, h2, ?_, h4⟩
  rw [hu.block g (hk g (by rw [h1]; rfl))]; exact h3
theorem own_cq {w : World} {B n : Nat} {v : Value} {l : List Rat} (h : OwnF w B v n l) (hn : n = l.length) : CQ w v l := by
 refine ⟨own_slq h hn, ?_⟩
 rcases h.2 with ⟨h1, h2⟩ | ⟨g, cap, cur, h1, h2, h3, h4, h5, h6, h7⟩
 ·exact ⟨none, 0, 0, h1, Nat.le_refl _⟩
 ·exact ⟨_, _, _, h1, by omega⟩
theorem own_formM {w : World} {B n : Nat} {v : Value} {l : List Rat} (h : OwnF w B v n l) : ∃ a c, v = .slice a n c := by
 rcases h.2 with ⟨h1, h2⟩ | ⟨g, cap, cur, h1, _⟩
 ·exact ⟨_, _, by rw [h1, h2]⟩
 ·exact ⟨_, _, h1⟩
/-- A slice that an operation has made. -/
def NSl (B : Nat) (c : List Value) (v : Value) (w : World) : Prop := ∃ g, v = .slice (some ⟨g, 0, none⟩) 1 1 ∧ B ≤ g ∧ Hd w g c
theorem stays_nsl (B : Nat) (c : List Value) : Stays (NSl B c) := fun _ _ _ hb ⟨g, h1, h2, h3⟩ => ⟨g, h1, h2, h3.below hb⟩
theorem nsl_mk {B : Nat} {c : List Value} {t : TypeId} {w : World} (h : B ≤ w.heap.size) : NSl B c (.slice (some ⟨w.heap.size, 0, none⟩) 1 1) (w.alloc (.cells c.toArray t)) := ⟨_, rfl, h, hd_new w c t⟩
/-- The matrix whose elements are given, with zeros for missing ones. -/
def someM (ql : List (Int × Int)) (r c : Nat) : Mx := ⟨r, c, tabV (r * c) (qE ql)⟩
set_option maxHeartbeats 4000000 in
set_option maxRecDepth 100000 in
theorem msome_w (ql : List (Int × Int)) (r c nl : Nat) (zr zc : Int) (al : Option Addr) (cl : Nat) (hr : r ≤ 20) (hc : c ≤ 20) (hnl : nl ≤ 1000) (w : World) (hv : QV w (.slice al nl cl) ql) :
  Calls Tryz.prog 58 #[.agg #[.int .u8 zr, .int .u8 zc, .slice al nl cl], .int .i64 (r : Int), .int .i64 (c : Int)] w fun xe w' => ∃ u, xe = .returned u ∧ MT w' u (someM ql r c) ∧ Below w.heap.size w w' := by
 obtain ⟨m, hm⟩ : ∃ m, m = r * c := ⟨_, rfl⟩
 have hm4 : m ≤ 400 := by rw [hm]; exact Nat.mul_le_mul hr hc
 have hmul : (r : Int) * (c : Int) = (m : Int) := by rw [hm, Int.natCast_mul]
 have hm1 : (m : Int) ≤ 400 := by omega
 have hm0 : (0 : Int) ≤ (m : Int) := Int.natCast_nonneg _
 obtain ⟨qs, hqs⟩ : ∃ qs, qs = tabV m (qE ql) := ⟨_, rfl⟩
 have hlq : qs.length = m := by rw [hqs, tabV_len]
 have hti : ∀ i, i < m → qs.take (i + 1) = qs.take i ++ [qE ql i] := fun i hi => by
  have h9 : i < qs.length := by rw [hlq]; exact hi
  rw [List.take_succ_eq_append_getElem h9]
  congr 2
  simp only [hqs]
  exact tabV_get _
 have hsm : someM ql r c = ⟨r, c, qs⟩ := by unfold someM; rw [hqs, hm]
 rw [hsm]
 have hnb : (nl : Int) ≤ 1000 := by omega
 clear hsm hqs
 replace hm := Lib.hid hm
 replace hti := Lib.hid hti
 replace hlq := Lib.hid hlq
 replace hm4 := Lib.hid hm4
 have hL0 : GL w w [] := GL.start w
 replace hL0 := (((hL0.new rfl [.int .u8 zr, .int .u8 zc, .slice al nl cl] 51).new (K := w.heap.size + 1) (szA _ _) [.int .i64 0, .int .i64 0, .slice none 0 0] 56).new (K := w.heap.size + 1 + 1) (by simp only [World.size_alloc]) [.int .i64 0, .int .i64 0, .slice none 0 0] 56)
 generalize hweq : (((w.alloc (.cells #[.int .u8 zr, .int .u8 zc, .slice al nl cl] 51)).alloc (.cells #[.int .i64 0, .int .i64 0, .slice none 0 0] 56)).alloc (.cells #[.int .i64 0, .int .i64 0, .slice none 0 0] 56)) = x0 at hL0
 have hA := cells_of _ 0 [] rfl (hL0.get _ _ List.mem_cons_self)
 simp only [cellsF, and_true, Nat.zero_add, Nat.reduceAdd] at hA
 have zf := (hL0.get _ _ List.mem_cons_self).frz
 have hPt := hL0.put 0 (w.heap.size + 1 + 1) _ rfl [.int .i64 (r : Int), .int .i64 (c : Int), .slice none 0 0] rfl
 simp only [setAll, List.set_cons_zero, List.set_cons_succ] at hPt
 generalize hput0 : (((x0.setCell ⟨w.heap.size + 1 + 1, 0, none⟩ (.int .i64 (r : Int))).setCell ⟨w.heap.size + 1 + 1, 1, none⟩ (.int .i64 (c : Int))).setCell ⟨w.heap.size + 1 + 1, 2, none⟩ (.slice none 0 0)) = x1 at hPt
 clear hL0
 have hL0 := hPt
 clear hPt
 have hkB := Lib.hid (show w.heap.size + 1 + 1 < x1.heap.size from (hL0.get _ _ List.mem_cons_self).lt)
 go_enter Tryz.func58, Tryz.ntmps58
 go_wp2_with fail
 clear hweq hA zf hput0
 obtain ⟨B, hB⟩ : ∃ B, B = x1.heap.size := ⟨_, rfl⟩
 rw [← hB] at hkB
 have hown0 : OwnF x1 B (.slice none 0 0) 0 (qs.take 0) := World.ownsRow_nil _ _ _ _
 have hBx := Lib.hid (Nat.le_of_eq hB)
 clear hB
 go_loopg [8] m (fun gk iv wr => ∃ (k : Nat) (zi : Int) (v : Value), k + gk = m ∧ iv = .int .i64 zi ∧ zi = (k : Int) ∧ OwnF wr B v k (qs.take k) ∧ B ≤ wr.heap.size ∧ GL w wr [(w.heap.size + 1 + 1, [.int .i64 (r : Int), .int .i64 (c : Int), v]), (w.heap.size + 1, [.int .i64 0, .int .i64 0, .slice none 0 0]), (w.heap.size, [.int .u8 zr, .int .u8 zc, .slice al nl cl])])
 case atStart => exact ⟨0, 0, _, Nat.zero_add m, by first | rfl | go_num, rfl, hown0, hBx.out, hL0⟩
 case round =>
  clear hL0 hown0 hBx
  obtain ⟨k, zi, v, hik, rfl, hzi, hown, hBz, hL0⟩ := hrel
  have hmm := hm4.out
  replace hown := Lib.hid hown
  rcases Nat.lt_or_ge k m with hin | hin
  ·subst hzi
   have k1 : (k : Int) < (m : Int) := by omega
   have k0 : (0 : Int) ≤ (k : Int) := Int.natCast_nonneg _
   have kb : (k : Int) ≤ 1000 := by omega
   have hkx0 : ∀ z, v.ownBlock = some z → z < wr.heap.size := fun z hz => (World.ownsRow.lt hown.out z hz).2
   have hb9 : Below wr.heap.size wr (wr.alloc (.cells #[.int .i64 0, .int .u32 0] 40)) := (Below.refl _ _).alloc (Nat.le_refl _) _
   replace hL0 := hL0.new rfl [.int .i64 0, .int .u32 0] 40
   replace hown := Lib.hid (own_below hown.out hb9)
   replace hBz := Lib.hid (Nat.le_trans hBz hb9.size)
   clear hb9
   generalize hweq : wr.alloc (.cells #[.int .i64 0, .int .u32 0] 40) = x2a at hL0 hown hBz
   replace hkx0 := Lib.hid hkx0
   have hA := cells_of _ 0 [] rfl (hL0.get _ _ List.mem_cons_self)
   simp only [cellsF, and_true, Nat.zero_add, Nat.reduceAdd] at hA
   have zA := (hL0.get _ _ List.mem_cons_self).frz
   have hPt := hL0.put 0 (wr.heap.size) _ rfl [.int .i64 0, .int .u32 0] rfl
   simp only [setAll, List.set_cons_zero, List.set_cons_succ] at hPt
   have hup : Upd (wr.heap.size) x2a ((x2a.setCell ⟨wr.heap.size, 0, none⟩ (.int .i64 0)).setCell ⟨wr.heap.size, 1, none⟩ (.int .u32 0)) := ((Upd.refl (wr.heap.size) x2a).setCell 0 (.int .i64 0)).setCell 1 (.int .u32 0)
   generalize hput1 : (x2a.setCell ⟨wr.heap.size, 0, none⟩ (.int .i64 0)).setCell ⟨wr.heap.size, 1, none⟩ (.int .u32 0) = x2 at hPt hup
   replace hown := Lib.hid (own_updN hown.out hup fun z hz => Nat.ne_of_lt (hkx0.out z hz))
   replace hBz := Lib.hid (Nat.le_trans hBz.out (Nat.le_of_eq hup.size.symm))
   clear hL0 hup
   have hL0 := hPt
   clear hPt
   rcases Nat.lt_or_ge k nl with him | him
   ·have k2 : (k : Int) < (nl : Int) := by omega
    obtain ⟨ao, cc, e0, h1, h2, h3⟩ := id hv
    obtain ⟨rfl, hlen, rfl⟩ : al = ao ∧ nl = ql.length ∧ cl = cc := by simpa using e0
    obtain ⟨a, rfl, hsl⟩ := h3 (by omega)
    have hki : k < ql.length := by omega
    have e1 := (hsl.below hL0.bl).c0 k hki
    have e2 := (hsl.below hL0.bl).c1 k hki
    obtain ⟨⟨b1, b2⟩, b3, b4⟩ := hsl.rg ql[k] (List.getElem_mem hki)
    have HQ := qof_any ql[k].1 ql[k].2 b1 b2 b3 b4
    obtain ⟨q, hqq⟩ : ∃ q, q = qm ql[k] := ⟨_, rfl⟩
    rw [show qmade ql[k].1 ql[k].2.toNat = qm ql[k] from rfl, ← hqq] at HQ
    rw [← qE_in hki] at hqq
    generalize ql[k].1 = zn at *
    generalize ql[k].2 = zd at *
    replace HQ := Lib.hid HQ
    replace hqq := Lib.hid hqq
    rw [add_one] at e2
    clear hsl b1 b2 b3 b4 e0 h1 h2 h3 hlen hv
    have hA2 := cells_of _ 0 [] rfl (hL0.get _ _ List.mem_cons_self)
    simp only [cellsF, and_true, Nat.zero_add, Nat.reduceAdd] at hA2
    have zA2 := (hL0.get _ _ List.mem_cons_self).frz
    have hC := cells_of _ 0 [] rfl (hL0.get _ _ (List.mem_cons_of_mem _ (List.mem_cons_of_mem _ (List.mem_cons_of_mem _ List.mem_cons_self))))
    simp only [cellsF, and_true, Nat.zero_add, Nat.reduceAdd] at hC
    have hPt := hL0.put 0 (wr.heap.size) _ rfl [.int .i64 zn, .int .u32 zd] rfl
    simp only [setAll, List.set_cons_zero, List.set_cons_succ] at hPt
    have hup : Upd (wr.heap.size) x2 ((x2.setCell ⟨wr.heap.size, 0, none⟩ (.int .i64 zn)).setCell ⟨wr.heap.size, 1, none⟩ (.int .u32 zd)) := ((Upd.refl (wr.heap.size) x2).setCell 0 (.int .i64 zn)).setCell 1 (.int .u32 zd)
    generalize hput2 : (x2.setCell ⟨wr.heap.size, 0, none⟩ (.int .i64 zn)).setCell ⟨wr.heap.size, 1, none⟩ (.int .u32 zd) = x3 at hPt hup
    replace hown := Lib.hid (own_updN hown.out hup fun z hz => Nat.ne_of_lt (hkx0.out z hz))
    replace hBz := Lib.hid (Nat.le_trans hBz.out (Nat.le_of_eq hup.size.symm))
    clear hL0 hup
    have hL0 := hPt
    clear hPt
    go_upto_region 8 with fail
    clear hweq hput1 hput2 hA zA hA2 zA2 hC e1 e2
    refine region_tl 5 [EV (.pointer (some ⟨w.heap.size + 1 + 1, 2, none⟩)), EV v, EV (.agg #[.int .i64 zn, .int .u32 zd]), EV (.agg #[.int .u64 ((zl q.num : Nat) : Int), .string (zh q.num), .bool (zs q.num), .int .u64 ((lo (fe q) : Nat) : Int), .string (hs (fe q))]), NSl x3.heap.size [.int .u64 ((zl q.num : Nat) : Int), .string (zh q.num), .bool (zs q.num), .int .u64 ((lo (fe q) : Nat) : Int), .string (hs (fe q))]] (by kernel_rfl) (by kernel_rfl) ?_ ?_ ?_
    ·exact stays_cons (stays_eq _) (stays_cons (stays_eq _) (stays_cons (stays_eq _) (stays_cons (stays_eq _) (stays_cons (stays_nsl _ _) stays_nil))))
    ·simp only [List.take_succ_cons, List.take_zero, hopsR, and_true]
     refine ⟨?_, ?_, ?_, ?_, ?_⟩ <;> intro fv w1 hb1 hp
     all_goals (simp only [putsV, Act.put, List.setIfInBounds_toArray, List.set_cons_succ, List.set_cons_zero, Nat.zero_add, Nat.reduceAdd])
     ·refine tyAt_none rfl ?_
      simp [tyUpon, execOp, go_sem, Act.eval, Below.refl]
     ·have h0 : EV _ (fv 0) w1 := hp 0 (LC (by kernel_rfl))
      refine tyAt_none rfl ?_
      have hc := cells_of _ 0 [] rfl ((hL0.call (below_drew hb1)).get _ _ (List.mem_cons_of_mem _ List.mem_cons_self))
      simp only [cellsF, and_true, Nat.zero_add, Nat.reduceAdd] at hc
      simp [tyUpon, execOp, go_sem, Act.eval, h0, hc, Below.refl]
     ·refine tyAt_none rfl ?_
      have hc := cells_of _ 0 [] rfl ((hL0.call (below_drew hb1)).get _ _ List.mem_cons_self)
      simp only [cellsF, and_true, Nat.zero_add, Nat.reduceAdd] at hc
      simp [tyUpon, execOp, go_sem, Act.eval, hc, Below.refl]
     ·have h2 : EV _ (fv 2) w1 := hp 2 (LC (by kernel_rfl))
      refine tyAt_none rfl ?_
      refine ty_call (f := 18) (args := #[(.agg #[.int .i64 zn, .int .u32 zd])]) (by simp [execOp, go_sem, Act.eval, h2]) ?_
      exact (HQ.out w1).mono fun e w2 ⟨h1, h2⟩ => ⟨_, h1, rfl, h2⟩
     ·have h3 : EV _ (fv 3) w1 := hp 3 (LC (by kernel_rfl))
      refine tyAt_none rfl ?_
      refine ty_val8 (u := .slice (some ⟨w1.heap.size, 0, none⟩) 1 1) (w' := w1.alloc (.cells #[.int .u64 ((zl q.num : Nat) : Int), .string (zh q.num), .bool (zs q.num), .int .u64 ((lo (fe q) : Nat) : Int), .string (hs (fe q))] 36)) (by simp [execOp, go_sem, Act.eval, h3]) ((Below.refl _ _).alloc (Nat.le_refl _) _) (nsl_mk (below_drew hb1).size)
    ·intro fv u1 hb1 hv
     have e0 : fv 0 = _ := hv 0 (by omega)
     have e1 : fv 1 = _ := hv 1 (by omega)
     have e2 : fv 2 = _ := hv 2 (by omega)
     have e3 : fv 3 = _ := hv 3 (by omega)
     obtain ⟨gn, e4, n4, m4⟩ := hv 4 (by omega)
     simp only [List.take_succ_cons, List.take_zero, putsV, Act.put, List.setIfInBounds_toArray, List.set_cons_succ, List.set_cons_zero, List.drop_succ_cons, List.drop_zero, Nat.zero_add, Nat.reduceAdd, e0, e1, e2, e3, e4]
     have hbd := below_drew hb1
     replace hown := Lib.hid (own_below hown.out hbd)
     replace hL0 := (hL0.call hbd).weak (List.Sublist.cons _ (List.Sublist.refl _))
     have hBs := Lib.hid (Nat.le_trans hBz.out hbd.size)
     replace m4 := Lib.hid m4
     clear hb1 hv hbd e0 e1 e2 e3 e4 n4 HQ hBz
     go_wp2_with (at_builtin; refine wp_appendM rfl _ _ rfl B v k (qs.take k) rfl hown.out gn q rfl m4.out (by omega) hBs.out ?_)
     intro v' w5 hown5 hgrow hor
     have hL8 := gl_grown hL0 hgrow (fun z hz => ⟨Nat.le_trans (by have := hkB.out; omega) (World.ownsRow.lt hown.out z hz).1, fun p hp => by
      have h9 := (World.ownsRow.lt hown.out z hz).1
      have h7 := hkB.out
      simp only [List.mem_cons, List.not_mem_nil, or_false] at hp
      rcases hp with rfl | rfl | rfl <;> (show _ ≠ z; omega)⟩)
     have hB5 := Lib.hid (Nat.le_trans hBs.out hgrow.size)
     rw [hqq.out, ← hti.out k hin] at hown5
     clear hL0 hown hgrow hor m4 hBs
     obtain ⟨av5, cv5, rfl⟩ := own_formM hown5
     replace hown5 := Lib.hid hown5
     have hL0 := hL8
     clear hL8
     have hA := cells_of _ 0 [] rfl (hL0.get _ _ List.mem_cons_self)
     simp only [cellsF, and_true, Nat.zero_add, Nat.reduceAdd] at hA
     have zf := (hL0.get _ _ List.mem_cons_self).frz
     have hPt := hL0.putn 0 (w.heap.size + 1 + 1) _ rfl 2 [.slice av5 (k + 1) cv5] (by simp)
     simp only [setAll, setCells, List.set_cons_zero, List.set_cons_succ] at hPt
     have hup : Upd (w.heap.size + 1 + 1) w5 (w5.setCell ⟨w.heap.size + 1 + 1, 2, none⟩ (.slice av5 (k + 1) cv5)) := (Upd.refl (w.heap.size + 1 + 1) w5).setCell 2 (.slice av5 (k + 1) cv5)
     generalize hput1 : w5.setCell ⟨w.heap.size + 1 + 1, 2, none⟩ (.slice av5 (k + 1) cv5) = w6 at hPt hup
     have hown6 := Lib.hid (own_updM hown5.out hup (by have := hkB.out; omega))
     have hB6 := Lib.hid (Nat.le_trans hB5.out (Nat.le_of_eq hup.size.symm))
     clear hL0 hown5 hup
     have hL0 := hPt
     clear hPt
     go_wp2_with fail
     go_roundg (m - (k + 1))
     case measure => omega
     case rel => exact ⟨k + 1, _, _, by omega, by first | rfl | go_num, by omega, hown6.out, hB6.out, hL0⟩
   ·have k2 : ¬ (k : Int) < (nl : Int) := by omega
    have HQ := qof_any 0 0 (by decide) (by decide) (by decide) (by decide)
    obtain ⟨q, hqq⟩ : ∃ q, q = qmade 0 (0 : Int).toNat := ⟨_, rfl⟩
    rw [← hqq] at HQ
    have hz0 : qE ql k = 0 := qE_out (by have := qv_len hv; omega)
    rw [show qmade 0 (0 : Int).toNat = 0 by decide +kernel, ← hz0] at hqq
    replace HQ := Lib.hid HQ
    replace hqq := Lib.hid hqq
    clear hz0 hv
    have hC := cells_of _ 0 [] rfl (hL0.get _ _ (List.mem_cons_of_mem _ (List.mem_cons_of_mem _ (List.mem_cons_of_mem _ List.mem_cons_self))))
    simp only [cellsF, and_true, Nat.zero_add, Nat.reduceAdd] at hC
    go_upto_region 8 with fail
    clear hweq hput1 hC hA zA
    refine region_tl 5 [EV (.pointer (some ⟨w.heap.size + 1 + 1, 2, none⟩)), EV v, EV (.agg #[.int .i64 0, .int .u32 0]), EV (.agg #[.int .u64 ((zl q.num : Nat) : Int), .string (zh q.num), .bool (zs q.num), .int .u64 ((lo (fe q) : Nat) : Int), .string (hs (fe q))]), NSl x2.heap.size [.int .u64 ((zl q.num : Nat) : Int), .string (zh q.num), .bool (zs q.num), .int .u64 ((lo (fe q) : Nat) : Int), .string (hs (fe q))]] (by kernel_rfl) (by kernel_rfl) ?_ ?_ ?_
    ·exact stays_cons (stays_eq _) (stays_cons (stays_eq _) (stays_cons (stays_eq _) (stays_cons (stays_eq _) (stays_cons (stays_nsl _ _) stays_nil))))
    ·simp only [List.take_succ_cons, List.take_zero, hopsR, and_true]
     refine ⟨?_, ?_, ?_, ?_, ?_⟩ <;> intro fv w1 hb1 hp
     all_goals (simp only [putsV, Act.put, List.setIfInBounds_toArray, List.set_cons_succ, List.set_cons_zero, Nat.zero_add, Nat.reduceAdd])
     ·refine tyAt_none rfl ?_
      simp [tyUpon, execOp, go_sem, Act.eval, Below.refl]
     ·have h0 : EV _ (fv 0) w1 := hp 0 (LC (by kernel_rfl))
      refine tyAt_none rfl ?_
      have hc := cells_of _ 0 [] rfl ((hL0.call (below_drew hb1)).get _ _ (List.mem_cons_of_mem _ List.mem_cons_self))
      simp only [cellsF, and_true, Nat.zero_add, Nat.reduceAdd] at hc
      simp [tyUpon, execOp, go_sem, Act.eval, h0, hc, Below.refl]
     ·refine tyAt_none rfl ?_
      have hc := cells_of _ 0 [] rfl ((hL0.call (below_drew hb1)).get _ _ List.mem_cons_self)
      simp only [cellsF, and_true, Nat.zero_add, Nat.reduceAdd] at hc
      simp [tyUpon, execOp, go_sem, Act.eval, hc, Below.refl]
     ·have h2 : EV _ (fv 2) w1 := hp 2 (LC (by kernel_rfl))
      refine tyAt_none rfl ?_
      refine ty_call (f := 18) (args := #[(.agg #[.int .i64 0, .int .u32 0])]) (by simp [execOp, go_sem, Act.eval, h2]) ?_
      exact (HQ.out w1).mono fun e w2 ⟨h1, h2⟩ => ⟨_, h1, rfl, h2⟩
     ·have h3 : EV _ (fv 3) w1 := hp 3 (LC (by kernel_rfl))
      refine tyAt_none rfl ?_
      refine ty_val8 (u := .slice (some ⟨w1.heap.size, 0, none⟩) 1 1) (w' := w1.alloc (.cells #[.int .u64 ((zl q.num : Nat) : Int), .string (zh q.num), .bool (zs q.num), .int .u64 ((lo (fe q) : Nat) : Int), .string (hs (fe q))] 36)) (by simp [execOp, go_sem, Act.eval, h3]) ((Below.refl _ _).alloc (Nat.le_refl _) _) (nsl_mk (below_drew hb1).size)
    ·intro fv u1 hb1 hv
     have e0 : fv 0 = _ := hv 0 (by omega)
     have e1 : fv 1 = _ := hv 1 (by omega)
     have e2 : fv 2 = _ := hv 2 (by omega)
     have e3 : fv 3 = _ := hv 3 (by omega)
     obtain ⟨gn, e4, n4, m4⟩ := hv 4 (by omega)
     simp only [List.take_succ_cons, List.take_zero, putsV, Act.put, List.setIfInBounds_toArray, List.set_cons_succ, List.set_cons_zero, List.drop_succ_cons, List.drop_zero, Nat.zero_add, Nat.reduceAdd, e0, e1, e2, e3, e4]
     have hbd := below_drew hb1
     replace hown := Lib.hid (own_below hown.out hbd)
     replace hL0 := (hL0.call hbd).weak (List.Sublist.cons _ (List.Sublist.refl _))
     have hBs := Lib.hid (Nat.le_trans hBz.out hbd.size)
     replace m4 := Lib.hid m4
     clear hb1 hv hbd e0 e1 e2 e3 e4 n4 HQ hBz
     go_wp2_with (at_builtin; refine wp_appendM rfl _ _ rfl B v k (qs.take k) rfl hown.out gn q rfl m4.out (by omega) hBs.out ?_)
     intro v' w5 hown5 hgrow hor
     have hL8 := gl_grown hL0 hgrow (fun z hz => ⟨Nat.le_trans (by have := hkB.out; omega) (World.ownsRow.lt hown.out z hz).1, fun p hp => by
      have h9 := (World.ownsRow.lt hown.out z hz).1
      have h7 := hkB.out
      simp only [List.mem_cons, List.not_mem_nil, or_false] at hp
      rcases hp with rfl | rfl | rfl <;> (show _ ≠ z; omega)⟩)
     have hB5 := Lib.hid (Nat.le_trans hBs.out hgrow.size)
     rw [hqq.out, ← hti.out k hin] at hown5
     clear hL0 hown hgrow hor m4 hBs
     obtain ⟨av5, cv5, rfl⟩ := own_formM hown5
     replace hown5 := Lib.hid hown5
     have hL0 := hL8
     clear hL8
     have hA := cells_of _ 0 [] rfl (hL0.get _ _ List.mem_cons_self)
     simp only [cellsF, and_true, Nat.zero_add, Nat.reduceAdd] at hA
     have zf := (hL0.get _ _ List.mem_cons_self).frz
     have hPt := hL0.putn 0 (w.heap.size + 1 + 1) _ rfl 2 [.slice av5 (k + 1) cv5] (by simp)
     simp only [setAll, setCells, List.set_cons_zero, List.set_cons_succ] at hPt
     have hup : Upd (w.heap.size + 1 + 1) w5 (w5.setCell ⟨w.heap.size + 1 + 1, 2, none⟩ (.slice av5 (k + 1) cv5)) := (Upd.refl (w.heap.size + 1 + 1) w5).setCell 2 (.slice av5 (k + 1) cv5)
     generalize hput1 : w5.setCell ⟨w.heap.size + 1 + 1, 2, none⟩ (.slice av5 (k + 1) cv5) = w6 at hPt hup
     have hown6 := Lib.hid (own_updM hown5.out hup (by have := hkB.out; omega))
     have hB6 := Lib.hid (Nat.le_trans hB5.out (Nat.le_of_eq hup.size.symm))
     clear hL0 hown5 hup
     have hL0 := hPt
     clear hPt
     go_wp2_with fail
     go_roundg (m - (k + 1))
     case measure => omega
     case rel => exact ⟨k + 1, _, _, by omega, by first | rfl | go_num, by omega, hown6.out, hB6.out, hL0⟩
  ·obtain rfl : k = m := by omega
   subst hzi
   have k1 : ¬ (k : Int) < (k : Int) := by omega
   rw [List.take_of_length_le (Nat.le_of_eq hlq.out)] at hown
   obtain ⟨av, cv, rfl⟩ := own_formM hown.out
   have hA := cells_of _ 0 [] rfl (hL0.get _ _ List.mem_cons_self)
   simp only [cellsF, and_true, Nat.zero_add, Nat.reduceAdd] at hA
   have hC := cells_of _ 0 [] rfl (hL0.get _ _ (List.mem_cons_of_mem _ List.mem_cons_self))
   simp only [cellsF, and_true, Nat.zero_add, Nat.reduceAdd] at hC
   have zC := (hL0.get _ _ (List.mem_cons_of_mem _ List.mem_cons_self)).frz
   have hPt := hL0.put 1 (w.heap.size + 1) _ rfl [.int .i64 (r : Int), .int .i64 (c : Int), .slice av k cv] rfl
   simp only [setAll, List.set_cons_zero, List.set_cons_succ] at hPt
   have hup : Upd (w.heap.size + 1) wr ((((wr.setCell ⟨w.heap.size + 1, 0, none⟩ (.int .i64 (r : Int))).setCell ⟨w.heap.size + 1, 1, none⟩ (.int .i64 (c : Int))).setCell ⟨w.heap.size + 1, 2, none⟩ (.slice av k cv))) := (((Upd.refl (w.heap.size + 1) wr).setCell 0 (.int .i64 (r : Int))).setCell 1 (.int .i64 (c : Int))).setCell 2 (.slice av k cv)
   generalize hput1 : (((wr.setCell ⟨w.heap.size + 1, 0, none⟩ (.int .i64 (r : Int))).setCell ⟨w.heap.size + 1, 1, none⟩ (.int .i64 (c : Int))).setCell ⟨w.heap.size + 1, 2, none⟩ (.slice av k cv)) = y9 at hPt hup
   have hB1 := cells_of _ 0 [] rfl (hPt.get _ _ (List.mem_cons_of_mem _ List.mem_cons_self))
   simp only [cellsF, and_true, Nat.zero_add, Nat.reduceAdd] at hB1
   have hcq := Lib.hid (own_cq (own_updM hown.out hup (by have := hkB.out; omega)) hlq.out.symm)
   clear hL0 hown hup
   go_wp2_with fail
   exact bodyPost_ret (v := .agg #[.int .i64 (r : Int), .int .i64 (c : Int), .slice av k cv]) (by simp [results, Tryz.results58, go_sem, hB1]) rfl ⟨_, rfl, ⟨_, rfl, hcq.out⟩, hPt.bl⟩
end Go.Proofs.YtjdjhlmcbffocaaGreatDoor
namespace Go.Proofs.YtjdjhlmcbffocaaGreatDoor
open Go.RowKit
attribute [local irreducible] lo hs sm s64 c64 d64 b64 mh ml pd pc qd qc val hiB str cmpI srD lz nb zl zh zs fe rowV tabV gv bsV turM mulM sumM oneM appV formM tabM dotL sumL mulL
set_option maxHeartbeats 16000000 in
set_option maxRecDepth 100000 in
theorem mworks_w (ma mt mp mn mq : Mx) (v1 v2 v3 va : List Rat) (c2 c10 : Rat) (HO1 : ∀ (p2 : Value) (w : World), ILs w p2 ([1, 2, 3, 4]) → Calls Tryz.prog 102 #[.int .i64 2, .int .i64 2, p2] w fun e w' => ∃ pv, e = .returned (.tuple #[pv, .int .i64 0]) ∧ MT w' pv ma ∧ Below w.heap.size w w') (HT1 : ∀ (p0 : Value) (w : World), MT w p0 ma → Calls Tryz.prog 63 #[p0] w fun e w' => ∃ pv, e = .returned (.tuple #[pv, .int .i64 0]) ∧ MT w' pv mt ∧ Below w.heap.size w w') (HM1 : ∀ (p0 p1 : Value) (w : World), MT w p0 ma → MT w p1 ma → Calls Tryz.prog 64 #[p0, p1] w fun e w' => ∃ pv, e = .returned (.tuple #[pv, .int .i64 0]) ∧ MT w' pv mp ∧ Below w.heap.size w w') (HV1 : ∀ (p0 : Value) (w : World), ILs w p0 ([1, (-1)]) → Calls Tryz.prog 79 #[p0] w fun e w' => ∃ pv, e = .returned pv ∧ PT w' pv v1 ∧ Below w.heap.size w w') (HV2 : ∀ (p0 : Value) (w : World), ILs w p0 ([1, 0]) → Calls Tryz.prog 79 #[p0] w fun e w' => ∃ pv, e = .returned pv ∧ PT w' pv v2 ∧ Below w.heap.size w w') (HV3 : ∀ (p0 : Value) (w : World), ILs w p0 ([0, 1]) → Calls Tryz.prog 79 #[p0] w fun e w' => ∃ pv, e = .returned pv ∧ PT w' pv v3 ∧ Below w.heap.size w w') (HA1 : ∀ (p0 p1 : Value) (w : World), MT w p0 ma → PT w p1 v1 → Calls Tryz.prog 30 #[p0, p1] w fun e w' => ∃ pv, e = .returned (.tuple #[pv, .int .i64 0]) ∧ PT w' pv va ∧ Below w.heap.size w w') (HF1 : ∀ (p0 p1 p2 : Value) (w : World), MT w p0 ma → PT w p1 v2 → PT w p2 v3 → Calls Tryz.prog 31 #[p0, p1, p2] w fun e w' => e = .returned (.tuple #[fracV c2, .int .i64 0]) ∧ Below w.heap.size w w') (HI2 : ∀ w, Calls Tryz.prog 17 #[.int .i64 2] w fun xe w' => xe = .returned (fracV c2) ∧ Below w.heap.size w w') (HI10 : ∀ w, Calls Tryz.prog 17 #[.int .i64 10] w fun xe w' => xe = .returned (fracV c10) ∧ Below w.heap.size w w') (HO2 : ∀ (p2 : Value) (w : World), ILs w p2 ([1]) → Calls Tryz.prog 102 #[.int .i64 2, .int .i64 2, p2] w fun e w' => e = .returned (.tuple #[.agg #[.int .i64 0, .int .i64 0, .slice none 0 0], .int .i64 1]) ∧ Below w.heap.size w w') (HO3 : ∀ w, Calls Tryz.prog 102 #[.int .i64 (-1), .int .i64 2049, .slice none 0 0] w fun xe w' => xe = .returned (.tuple #[.agg #[.int .i64 0, .int .i64 0, .slice none 0 0], .int .i64 1]) ∧ Below w.heap.size w w') (HO4 : ∀ w, Calls Tryz.prog 102 #[.int .i64 2049, .int .i64 0, .slice none 0 0] w fun xe w' => xe = .returned (.tuple #[.agg #[.int .i64 0, .int .i64 0, .slice none 0 0], .int .i64 3]) ∧ Below w.heap.size w w') (HO5 : ∀ (w : World), Calls Tryz.prog 102 #[.int .i64 0, .int .i64 3, .slice none 0 0] w fun e w' => ∃ pv, e = .returned (.tuple #[pv, .int .i64 0]) ∧ MT w' pv mn ∧ Below w.heap.size w w') (HP1 : ∀ (p0 p1 p2 : Value) (w : World), MT w p0 ma → ILs w p1 ([1, 0]) → ILs w p2 ([1]) → Calls Tryz.prog 42 #[p0, p1, p2] w fun e w' => ∃ pv, e = .returned (.tuple #[pv, .int .i64 0]) ∧ MT w' pv mq ∧ Below w.heap.size w w') (HS1 : ∀ (p0 : Value) (w : World), MT w p0 ma → Calls Tryz.prog 36 #[p0] w fun e w' => e = .returned (fracV c10) ∧ Below w.heap.size w w') (HY1 : ∀ (p0 : Value) (w : World), MT w p0 ma → Calls Tryz.prog 103 #[p0] w fun e w' => e = .returned (.bool false) ∧ Below w.heap.size w w') (HY2 : ∀ (p0 : Value) (w : World), MT w p0 mn → Calls Tryz.prog 103 #[p0] w fun e w' => e = .returned (.bool false) ∧ Below w.heap.size w w') (KT : World → Prop) (hKT : Keeps KT) (HXma : ∀ (p0 : Value) (w : World), KT w → MT w p0 ma → Calls Tryz.prog 54 #[p0] w fun e w' => e = .returned (.string (ByteArray.mk #[91, 49, 32, 50, 93, 32, 91, 51, 32, 52, 93])) ∧ Below w.heap.size w w') (HXmt : ∀ (p0 : Value) (w : World), KT w → MT w p0 mt → Calls Tryz.prog 54 #[p0] w fun e w' => e = .returned (.string (ByteArray.mk #[91, 49, 32, 51, 93, 32, 91, 50, 32, 52, 93])) ∧ Below w.heap.size w w') (HXmp : ∀ (p0 : Value) (w : World), KT w → MT w p0 mp → Calls Tryz.prog 54 #[p0] w fun e w' => e = .returned (.string (ByteArray.mk #[91, 55, 32, 49, 48, 93, 32, 91, 49, 53, 32, 50, 50, 93])) ∧ Below w.heap.size w w') (HXmq : ∀ (p0 : Value) (w : World), KT w → MT w p0 mq → Calls Tryz.prog 54 #[p0] w fun e w' => e = .returned (.string (ByteArray.mk #[91, 52, 93, 32, 91, 50, 93])) ∧ Below w.heap.size w w') (HXv : ∀ (p0 : Value) (w : World), KT w → PT w p0 va → Calls Tryz.prog 81 #[p0] w fun e w' => e = .returned (.string (ByteArray.mk #[91, 45, 49, 32, 45, 49, 93])) ∧ Below w.heap.size w w') (hma1 : (ma.r : Int) = 2) (hmt1 : (mt.r : Int) = 2) (hmp1 : (mp.r : Int) = 2) (hmn1 : (mn.r : Int) = 0) (hmq1 : (mq.r : Int) = 2) (hma2 : (ma.c : Int) = 2) (hmt2 : (mt.c : Int) = 2) (hmp2 : (mp.c : Int) = 2) (hmn2 : (mn.c : Int) = 3) (hmq2 : (mq.c : Int) = 1) (w : World) (kKT : KT w) :
  Calls Tryz.prog 26 #[] w fun e w' => e = .returned (.bool true) ∧ Below w.heap.size w w' := by
 replace HO1 := Lib.hid HO1
 replace HT1 := Lib.hid HT1
 replace HM1 := Lib.hid HM1
 replace HV1 := Lib.hid HV1
 replace HV2 := Lib.hid HV2
 replace HV3 := Lib.hid HV3
 replace HA1 := Lib.hid HA1
 replace HF1 := Lib.hid HF1
 replace HI2 := Lib.hid HI2
 replace HI10 := Lib.hid HI10
 replace HO2 := Lib.hid HO2
 replace HO3 := Lib.hid HO3
 replace HO4 := Lib.hid HO4
 replace HO5 := Lib.hid HO5
 replace HP1 := Lib.hid HP1
 replace HS1 := Lib.hid HS1
 replace HY1 := Lib.hid HY1
 replace HY2 := Lib.hid HY2
 replace hKT := Lib.hid hKT
 replace HXma := Lib.hid HXma
 replace HXmt := Lib.hid HXmt
 replace HXmp := Lib.hid HXmp
 replace HXmq := Lib.hid HXmq
 replace HXv := Lib.hid HXv
 have hL0 : GL w w [] := GL.start w
 have hT : PTs w [] := PTs.nil w
 replace hma1 := Lib.hid hma1
 replace hma2 := Lib.hid hma2
 replace hmt1 := Lib.hid hmt1
 replace hmt2 := Lib.hid hmt2
 replace hmp1 := Lib.hid hmp1
 replace hmp2 := Lib.hid hmp2
 replace hmn1 := Lib.hid hmn1
 replace hmn2 := Lib.hid hmn2
 replace hmq1 := Lib.hid hmq1
 replace hmq2 := Lib.hid hmq2
 replace hT := (hT.new (.cells #[.int .i64 1, .int .i64 2, .int .i64 3, .int .i64 4] 2))
 replace hL0 := (hL0.new rfl [.int .i64 1, .int .i64 2, .int .i64 3, .int .i64 4] 2)
 generalize hweq : (w.alloc (.cells #[.int .i64 1, .int .i64 2, .int .i64 3, .int .i64 4] 2)) = x1 at hL0 hT
 go_enter Tryz.func26, Tryz.ntmps26
 have hbv1 : ILs x1 (.slice (some ⟨w.heap.size, 0, none⟩) 4 4) [1, 2, 3, 4] := ils_at (hL0.get _ _ List.mem_cons_self) rfl rfl
 replace hbv1 := Lib.hid hbv1
 go_wp2_with fail
 with_reducible refine Calls.mono (HO1.out (.slice (some ⟨w.heap.size, 0, none⟩) 4 4) _ hbv1.out) ?_
 rintro e x2 ⟨v0, rfl, q0, hb⟩
 replace hL0 := hL0.call hb
 replace hT := hT.call hb
 clear hb hweq
 obtain ⟨g1, d1, g1c, rfl, hm1, hcp1⟩ := mt_form q0 hma1.out hma2.out
 replace hcp1 := Lib.hid hcp1
 replace hT := hT.cons hm1
 clear hm1
 clear q0
 replace hT := (hT.new (.cells #[.int .i64 2, .int .i64 2, .slice g1 d1 g1c] 56))
 replace hL0 := (hL0.new rfl [.int .i64 2, .int .i64 2, .slice g1 d1 g1c] 56)
 generalize hweq : (x2.alloc (.cells #[.int .i64 2, .int .i64 2, .slice g1 d1 g1c] 56)) = x3 at hL0 hT
 go_upto_region 2 with fail
 have hN0 := cells_of _ 0 [] rfl (hL0.get _ _ List.mem_cons_self)
 simp only [cellsF, and_true, Nat.zero_add, Nat.reduceAdd] at hN0
 go_wp2_with fail
 clear hN0
 with_reducible refine Calls.mono (HT1.out (.agg #[.int .i64 2, .int .i64 2, .slice g1 d1 g1c]) _ (mt_of (hT.get List.mem_cons_self) hcp1.out hma1.out hma2.out)) ?_
 rintro e x4 ⟨v0, rfl, q0, hb⟩
 replace hL0 := hL0.call hb
 replace hT := hT.call hb
 clear hb hweq
 obtain ⟨g2, d2, g2c, rfl, hm2, hcp2⟩ := mt_form q0 hmt1.out hmt2.out
 replace hcp2 := Lib.hid hcp2
 replace hT := hT.cons hm2
 clear hm2
 clear q0
 replace hT := (hT.new (.cells #[.int .i64 2, .int .i64 2, .slice g2 d2 g2c] 56))
 replace hL0 := (hL0.new rfl [.int .i64 2, .int .i64 2, .slice g2 d2 g2c] 56)
 generalize hweq : (x4.alloc (.cells #[.int .i64 2, .int .i64 2, .slice g2 d2 g2c] 56)) = x5 at hL0 hT
 go_upto_region 3 with fail
 have hN0 := cells_of _ 0 [] rfl (hL0.get _ _ (List.mem_cons_of_mem _ List.mem_cons_self))
 simp only [cellsF, and_true, Nat.zero_add, Nat.reduceAdd] at hN0
 go_wp2_with fail
 clear hN0
 with_reducible refine Calls.mono (HM1.out (.agg #[.int .i64 2, .int .i64 2, .slice g1 d1 g1c]) (.agg #[.int .i64 2, .int .i64 2, .slice g1 d1 g1c]) _ (mt_of (hT.get (List.mem_cons_of_mem _ List.mem_cons_self)) hcp1.out hma1.out hma2.out) (mt_of (hT.get (List.mem_cons_of_mem _ List.mem_cons_self)) hcp1.out hma1.out hma2.out)) ?_
 rintro e x6 ⟨v0, rfl, q0, hb⟩
 replace hL0 := hL0.call hb
 replace hT := hT.call hb
 clear hb hweq
 obtain ⟨g3, d3, g3c, rfl, hm3, hcp3⟩ := mt_form q0 hmp1.out hmp2.out
 replace hcp3 := Lib.hid hcp3
 replace hT := hT.cons hm3
 clear hm3
 clear q0
 replace hT := (hT.new (.cells #[.int .i64 2, .int .i64 2, .slice g3 d3 g3c] 56))
 replace hL0 := (hL0.new rfl [.int .i64 2, .int .i64 2, .slice g3 d3 g3c] 56)
 generalize hweq : (x6.alloc (.cells #[.int .i64 2, .int .i64 2, .slice g3 d3 g3c] 56)) = x7 at hL0 hT
 go_upto_region 4 with fail
 clear hweq
 refine region_tl 9 [EV (.agg #[.int .i64 2, .int .i64 2, .slice g1 d1 g1c]), PI [1, (-1)], PP v1, PE va 0, PE va 0, PP va, EV (.int .i64 0), PP va, EV (.int .i64 0)] (by kernel_rfl) (by kernel_rfl) ?_ ?_ ?_
 ·exact stays_cons (stays_eq _) (stays_cons (stays_pi _) (stays_cons (stays_pt _) (stays_cons (stays_pe _ _) (stays_cons (stays_pe _ _) (stays_cons (stays_pt _) (stays_cons (stays_eq _) (stays_cons (stays_pt _) (stays_cons (stays_eq _) (stays_nil)))))))))
 ·simp only [List.take_succ_cons, List.take_zero, hopsR, and_true]
  refine ⟨?_, ?_, ?_, ?_, ?_, ?_, ?_, ?_, ?_⟩ <;> intro fv w1 hb1 hp
  all_goals (simp only [putsV, Act.put, List.setIfInBounds_toArray, List.set_cons_succ, List.set_cons_zero, Nat.zero_add, Nat.reduceAdd])
  ·refine tyAt_none rfl ?_
   have hc := (hL0.call (below_drew hb1)).fc
   simp only [fcG, cellsF, neK, and_true, ne_eq, Nat.zero_add, Nat.reduceAdd] at hc
   simp [tyUpon, execOp, go_sem, Act.eval, hc, Below.refl]
  ·refine tyAt_none rfl ?_
   refine ty_val8 (u := .slice (some ⟨w1.heap.size, 0, none⟩) 2 2) (w' := w1.alloc (.cells #[.int .i64 1, .int .i64 (-1)] 2)) (by simp [execOp, go_sem, Act.eval]) ((Below.refl _ _).alloc (Nat.le_refl _) _) (ils_at (hd_new w1 [.int .i64 1, .int .i64 (-1)] _) rfl rfl)
  ·have h1 : (PI [1, (-1)]) (fv 1) w1 := hp 1 (LC (by kernel_rfl))
   refine tyAt_none rfl ?_
   refine ty_call (f := 79) (args := #[fv 1]) (by simp [execOp, go_sem, Act.eval]) ?_
   exact (HV1.out (fv 1) w1 h1).mono fun e w2 ⟨pv, h1, h2, h3⟩ => ⟨pv, h1, h2, h3⟩
  ·have h0 : EV _ (fv 0) w1 := hp 0 (LC (by kernel_rfl))
   have h2 : (PP v1) (fv 2) w1 := hp 2 (LC (by kernel_rfl))
   refine tyAt_none rfl ?_
   refine ty_call (f := 30) (args := #[.agg #[.int .i64 2, .int .i64 2, .slice g1 d1 g1c], fv 2]) (by simp [execOp, go_sem, Act.eval, h0]) ?_
   exact (HA1.out (.agg #[.int .i64 2, .int .i64 2, .slice g1 d1 g1c]) (fv 2) w1 (mt_of (PT.below (hT.get (List.mem_cons_of_mem _ (List.mem_cons_of_mem _ List.mem_cons_self))) (below_drew hb1)) hcp1.out hma1.out hma2.out) h2).mono fun e w2 ⟨pv, h1, h2, h3⟩ => ⟨_, h1, ⟨pv, rfl, h2⟩, h3⟩
  ·have h3 : (PE va 0) (fv 3) w1 := hp 3 (LC (by kernel_rfl))
   refine tyAt_none rfl ?_
   simp [tyUpon, execOp, go_sem, Act.eval, Below.refl]
   exact h3
  ·have h4 : (PE va 0) (fv 4) w1 := hp 4 (LC (by kernel_rfl))
   refine tyAt_none rfl ?_
   obtain ⟨pa, pe, pz⟩ := h4
   simp [tyUpon, execOp, go_sem, Act.eval, pe, Below.refl]
   exact pz
  ·have h4 : (PE va 0) (fv 4) w1 := hp 4 (LC (by kernel_rfl))
   refine tyAt_none rfl ?_
   obtain ⟨pa, pe, pz⟩ := h4
   simp [tyUpon, execOp, go_sem, Act.eval, pe, Below.refl]
  ·have h5 : (PP va) (fv 5) w1 := hp 5 (LC (by kernel_rfl))
   refine tyAt_none rfl ?_
   simp [tyUpon, execOp, go_sem, Act.eval, Below.refl]
   exact h5
  ·have h6 : EV _ (fv 6) w1 := hp 6 (LC (by kernel_rfl))
   refine tyAt_none rfl ?_
   simp [tyUpon, execOp, go_sem, Act.eval, h6, Below.refl]
 ·intro fv x8 hb1 hv
  have e0 : fv 0 = _ := hv 0 (by omega)
  have q1 : ILs x8 (fv 1) ([1, (-1)]) := hv 1 (by omega)
  obtain ⟨g4, d4, g4c, e1⟩ := ils_form q1
  rw [e1] at q1
  have q2 : PT x8 (fv 2) v1 := hv 2 (by omega)
  obtain ⟨g5, d5, g5c, e2, -⟩ := pt_form q2
  rw [e2] at q2
  obtain ⟨pa3, e3, q3⟩ := hv 3 (by omega)
  obtain ⟨pa4, e4, q4⟩ := hv 4 (by omega)
  have q5 : PT x8 (fv 5) va := hv 5 (by omega)
  obtain ⟨g6, d6, g6c, e5, -⟩ := pt_form q5
  rw [e5] at q5
  have e6 : fv 6 = _ := hv 6 (by omega)
  have q7 : PT x8 (fv 7) va := hv 7 (by omega)
  obtain ⟨g7, d7, g7c, e7, -⟩ := pt_form q7
  rw [e7] at q7
  have e8 : fv 8 = _ := hv 8 (by omega)
  simp only [List.take_succ_cons, List.take_zero, putsV, Act.put, List.setIfInBounds_toArray, List.set_cons_succ, List.set_cons_zero, List.drop_succ_cons, List.drop_zero, Nat.zero_add, Nat.reduceAdd, e0, e1, e2, e3, e4, e5, e6, e7, e8]
  replace hL0 := hL0.call (below_drew hb1)
  replace hT := hT.call (below_drew hb1)
  replace hT := hT.cons q2
  replace hT := hT.cons q5
  replace hT := hT.cons q7
  clear e0 e1 e2 e3 e4 e5 e6 e7 e8 hb1 hv q1 q2 q3 q4 q5 q7 fv
  go_upto_region 5 with fail
  have hSo := Lib.hid hT
  refine region_tbl 10 8 [EV (.agg #[.int .i64 2, .int .i64 2, .slice g1 d1 g1c]), PI [1, 0], PP v2, PI [0, 1], PP v3, EV (.tuple #[.agg #[.int .u64 ((zl c2.num : Nat) : Int), .string (zh c2.num), .bool (zs c2.num), .int .u64 ((lo (fe c2) : Nat) : Int), .string (hs (fe c2))], .int .i64 0]), EV (.tuple #[.agg #[.int .u64 ((zl c2.num : Nat) : Int), .string (zh c2.num), .bool (zs c2.num), .int .u64 ((lo (fe c2) : Nat) : Int), .string (hs (fe c2))], .int .i64 0]), EV (.agg #[.int .u64 ((zl c2.num : Nat) : Int), .string (zh c2.num), .bool (zs c2.num), .int .u64 ((lo (fe c2) : Nat) : Int), .string (hs (fe c2))]), EV (.int .i64 0), NewB x8.heap.size [.int .u64 0, .string ⟨#[]⟩, .bool false, .int .u64 0, .string ⟨#[]⟩]] [9] (by kernel_rfl) (by kernel_rfl) ?_ ?_ ?_ ?_ ?_ (by rfl) ?_
  ·exact stays_cons (stays_eq _) (stays_cons (stays_pi _) (stays_cons (stays_pt _) (stays_cons (stays_pi _) (stays_cons (stays_pt _) (stays_cons (stays_eq _) (stays_cons (stays_eq _) (stays_cons (stays_eq _) (stays_cons (stays_eq _) (stays_cons (stays_new _ _) (stays_nil))))))))))
  ·simp only [List.take_succ_cons, List.take_zero, hopsR, and_true]
   refine ⟨?_, ?_, ?_, ?_, ?_, ?_, ?_, ?_, ?_, ?_⟩ <;> intro fv w1 hb1 hp
   all_goals (simp only [putsV, Act.put, List.setIfInBounds_toArray, List.set_cons_succ, List.set_cons_zero, Nat.zero_add, Nat.reduceAdd])
   ·refine tyAt_none rfl ?_
    have hc := (hL0.call (below_drew hb1)).fc
    simp only [fcG, cellsF, neK, and_true, ne_eq, Nat.zero_add, Nat.reduceAdd] at hc
    simp [tyUpon, execOp, go_sem, Act.eval, hc, Below.refl]
   ·refine tyAt_none rfl ?_
    refine ty_val8 (u := .slice (some ⟨w1.heap.size, 0, none⟩) 2 2) (w' := w1.alloc (.cells #[.int .i64 1, .int .i64 0] 2)) (by simp [execOp, go_sem, Act.eval]) ((Below.refl _ _).alloc (Nat.le_refl _) _) (ils_at (hd_new w1 [.int .i64 1, .int .i64 0] _) rfl rfl)
   ·have h1 : (PI [1, 0]) (fv 1) w1 := hp 1 (LC (by kernel_rfl))
    refine tyAt_none rfl ?_
    refine ty_call (f := 79) (args := #[fv 1]) (by simp [execOp, go_sem, Act.eval]) ?_
    exact (HV2.out (fv 1) w1 h1).mono fun e w2 ⟨pv, h1, h2, h3⟩ => ⟨pv, h1, h2, h3⟩
   ·refine tyAt_none rfl ?_
    refine ty_val8 (u := .slice (some ⟨w1.heap.size, 0, none⟩) 2 2) (w' := w1.alloc (.cells #[.int .i64 0, .int .i64 1] 2)) (by simp [execOp, go_sem, Act.eval]) ((Below.refl _ _).alloc (Nat.le_refl _) _) (ils_at (hd_new w1 [.int .i64 0, .int .i64 1] _) rfl rfl)
   ·have h3 : (PI [0, 1]) (fv 3) w1 := hp 3 (LC (by kernel_rfl))
    refine tyAt_none rfl ?_
    refine ty_call (f := 79) (args := #[fv 3]) (by simp [execOp, go_sem, Act.eval]) ?_
    exact (HV3.out (fv 3) w1 h3).mono fun e w2 ⟨pv, h1, h2, h3⟩ => ⟨pv, h1, h2, h3⟩
   ·have h0 : EV _ (fv 0) w1 := hp 0 (LC (by kernel_rfl))
    have h2 : (PP v2) (fv 2) w1 := hp 2 (LC (by kernel_rfl))
    have h4 : (PP v3) (fv 4) w1 := hp 4 (LC (by kernel_rfl))
    refine tyAt_none rfl ?_
    refine ty_call (f := 31) (args := #[.agg #[.int .i64 2, .int .i64 2, .slice g1 d1 g1c], fv 2, fv 4]) (by simp [execOp, go_sem, Act.eval, h0]) ?_
    exact (HF1.out (.agg #[.int .i64 2, .int .i64 2, .slice g1 d1 g1c]) (fv 2) (fv 4) w1 (mt_of (PT.below (hT.get (List.mem_cons_of_mem _ (List.mem_cons_of_mem _ (List.mem_cons_of_mem _ (List.mem_cons_of_mem _ (List.mem_cons_of_mem _ List.mem_cons_self)))))) (below_drew hb1)) hcp1.out hma1.out hma2.out) h2 h4).mono fun e w2 ⟨h1, h2⟩ => ⟨_, h1, rfl, h2⟩
   ·have h5 : EV _ (fv 5) w1 := hp 5 (LC (by kernel_rfl))
    refine tyAt_none rfl ?_
    simp [tyUpon, execOp, go_sem, Act.eval, h5, Below.refl]
   ·have h6 : EV _ (fv 6) w1 := hp 6 (LC (by kernel_rfl))
    refine tyAt_none rfl ?_
    simp [tyUpon, execOp, go_sem, Act.eval, h6, Below.refl]
   ·have h6 : EV _ (fv 6) w1 := hp 6 (LC (by kernel_rfl))
    refine tyAt_none rfl ?_
    simp [tyUpon, execOp, go_sem, Act.eval, h6, Below.refl]
   ·exact tyAt_new rfl rfl new_frac (below_drew hb1).size
  ·intro j hj u w2 hT
   simp only [List.contains_iff_mem, List.mem_cons, List.not_mem_nil, or_false] at hj
   rcases hj with rfl <;> exact NewB.ptr hT
  ·exact ⟨⟨_, _, _, _, rfl, rfl, rfl, new_frac⟩, trivial⟩
  ·intro fv wl hb1 hv
   have e0 : fv 0 = .agg #[.int .i64 2, .int .i64 2, .slice g1 d1 g1c] := hv 0 (by omega) (by omega)
   have e5 : fv 5 = .tuple #[.agg #[.int .u64 ((zl c2.num : Nat) : Int), .string (zh c2.num), .bool (zs c2.num), .int .u64 ((lo (fe c2) : Nat) : Int), .string (hs (fe c2))], .int .i64 0] := hv 5 (by omega) (by omega)
   have e6 : fv 6 = .tuple #[.agg #[.int .u64 ((zl c2.num : Nat) : Int), .string (zh c2.num), .bool (zs c2.num), .int .u64 ((lo (fe c2) : Nat) : Int), .string (hs (fe c2))], .int .i64 0] := hv 6 (by omega) (by omega)
   have e7 : fv 7 = .agg #[.int .u64 ((zl c2.num : Nat) : Int), .string (zh c2.num), .bool (zs c2.num), .int .u64 ((lo (fe c2) : Nat) : Int), .string (hs (fe c2))] := hv 7 (by omega) (by omega)
   obtain ⟨kb9, e9, n9, m9⟩ : NewB x8.heap.size [.int .u64 0, .string ⟨#[]⟩, .bool false, .int .u64 0, .string ⟨#[]⟩] (fv 9) wl := hv 9 (by omega) (by omega)
   have hx0 := hL0
   replace hL0 := hL0.call (below_drew hb1)
   replace hL0 := GL.tnew (M := []) hL0 hx0 n9 m9 (fun p hp => by cases hp)
   simp only [List.cons_append, List.nil_append] at hL0
   have hA := hL0.fc
   simp only [fcG, cellsF, neK, and_true, ne_eq, Nat.zero_add, Nat.reduceAdd] at hA
   have hP := hL0.put 0 (kb9) _ rfl [.int .u64 ((zl c2.num : Nat) : Int), .string (zh c2.num), .bool (zs c2.num), .int .u64 ((lo (fe c2) : Nat) : Int), .string (hs (fe c2))] rfl
   simp only [setAll, List.set_cons_zero, List.set_cons_succ] at hP
   have hB1 := hP.fc
   simp only [fcG, cellsF, neK, and_true, ne_eq, Nat.zero_add, Nat.reduceAdd] at hB1
   refine ⟨(((((wl.setCell ⟨kb9, 0, none⟩ (.int .u64 ((zl c2.num : Nat) : Int))).setCell ⟨kb9, 1, none⟩ (.string (zh c2.num))).setCell ⟨kb9, 2, none⟩ (.bool (zs c2.num))).setCell ⟨kb9, 3, none⟩ (.int .u64 ((lo (fe c2) : Nat) : Int))).setCell ⟨kb9, 4, none⟩ (.string (hs (fe c2)))), .int .i64 0, fun o ho => ?_, fun o ho => ?_, ?_⟩
   ·obtain rfl := Option.some.inj ho
    simp [execOp, go_sem, Act.eval, putsV, Act.put, List.take_succ_cons, List.take_zero, List.setIfInBounds_toArray, List.set_cons_succ, List.set_cons_zero, Nat.zero_add, Nat.reduceAdd, hA, e0, e5, e6, e7, e9]
   ·obtain rfl := Option.some.inj ho
    simp [execOp, go_sem, Act.eval, putsV, Act.put, List.take_succ_cons, List.take_zero, List.setIfInBounds_toArray, List.set_cons_succ, List.set_cons_zero, Nat.zero_add, Nat.reduceAdd, hB1, e0, e5, e6, e7, e9]
   ·rfl
  ·intro fv x9 hb1 hv hne
   have e0 : fv 0 = _ := hv 0 (by omega)
   have q1 : ILs x9 (fv 1) ([1, 0]) := hv 1 (by omega)
   obtain ⟨g8, d8, g8c, e1⟩ := ils_form q1
   rw [e1] at q1
   have q2 : PT x9 (fv 2) v2 := hv 2 (by omega)
   obtain ⟨g9, d9, g9c, e2, -⟩ := pt_form q2
   rw [e2] at q2
   have q3 : ILs x9 (fv 3) ([0, 1]) := hv 3 (by omega)
   obtain ⟨g10, d10, g10c, e3⟩ := ils_form q3
   rw [e3] at q3
   have q4 : PT x9 (fv 4) v3 := hv 4 (by omega)
   obtain ⟨g11, d11, g11c, e4, -⟩ := pt_form q4
   rw [e4] at q4
   have e5 : fv 5 = _ := hv 5 (by omega)
   have e6 : fv 6 = _ := hv 6 (by omega)
   have e7 : fv 7 = _ := hv 7 (by omega)
   have e8 : fv 8 = _ := hv 8 (by omega)
   obtain ⟨kb9, e9, n9, m9⟩ : NewB x8.heap.size [.int .u64 0, .string ⟨#[]⟩, .bool false, .int .u64 0, .string ⟨#[]⟩] (fv 9) x9 := hv 9 (by omega)
   simp only [List.take_succ_cons, List.take_zero, putsV, Act.put, List.setIfInBounds_toArray, List.set_cons_succ, List.set_cons_zero, List.drop_succ_cons, List.drop_zero, Nat.zero_add, Nat.reduceAdd, e0, e1, e2, e3, e4, e5, e6, e7, e8, e9]
   have hx0 := hL0
   replace hL0 := hL0.call (below_drew hb1)
   replace hT := hT.call (below_drew hb1)
   replace hL0 := GL.tnew (M := []) hL0 hx0 n9 m9 (fun p hp => by cases hp)
   simp only [List.cons_append, List.nil_append] at hL0
   have hkb := Lib.hid m9
   clear e0 e1 e2 e3 e4 e5 e6 e7 e8 e9 hb1 hv hne hx0 n9 m9 q1 q2 q3 q4 fv
   have hT1 := hT.putN hSo.out hkb.out ((((((Upd.refl kb9 x9).setCell 0 (.int .u64 ((zl c2.num : Nat) : Int))).setCell 1 (.string (zh c2.num))).setCell 2 (.bool (zs c2.num))).setCell 3 (.int .u64 ((lo (fe c2) : Nat) : Int))).setCell 4 (.string (hs (fe c2))))
   have hA := hL0.fc
   simp only [fcG, cellsF, neK, and_true, ne_eq, Nat.zero_add, Nat.reduceAdd] at hA
   have hP := hL0.put 0 (kb9) _ rfl [.int .u64 ((zl c2.num : Nat) : Int), .string (zh c2.num), .bool (zs c2.num), .int .u64 ((lo (fe c2) : Nat) : Int), .string (hs (fe c2))] rfl
   simp only [setAll, List.set_cons_zero, List.set_cons_succ] at hP
   generalize hput1 : (((((x9.setCell ⟨kb9, 0, none⟩ (.int .u64 ((zl c2.num : Nat) : Int))).setCell ⟨kb9, 1, none⟩ (.string (zh c2.num))).setCell ⟨kb9, 2, none⟩ (.bool (zs c2.num))).setCell ⟨kb9, 3, none⟩ (.int .u64 ((lo (fe c2) : Nat) : Int))).setCell ⟨kb9, 4, none⟩ (.string (hs (fe c2)))) = x10 at hP hT1
   have hB1 := hP.fc
   simp only [fcG, cellsF, neK, and_true, ne_eq, Nat.zero_add, Nat.reduceAdd] at hB1
   replace hL0 := hP
   replace hT := hT1
   clear hT1 hSo hkb
   go_upto_region 6 with fail
   clear hput1 hB1
   clear hA
   refine region_tl 43 [EV (.int .i64 0), EV (.bool false), EV (.bool false), EV (.int .i64 0), EV (.bool false), EV (.bool false), EV (.bool false), EV (.int .i64 0), EV (.bool false), EV (.bool false), EV (.bool false), EV (.int .i64 0), EV (.bool false), EV (.bool false), EV (.bool false), EV (.int .i64 0), EV (.bool false), EV (.bool false), EV (.bool false), EV (.agg #[.int .i64 2, .int .i64 2, .slice g1 d1 g1c]), EV (.string (ByteArray.mk #[91, 49, 32, 50, 93, 32, 91, 51, 32, 52, 93])), EV (.bool false), EV (.bool false), EV (.bool false), EV (.agg #[.int .i64 2, .int .i64 2, .slice g2 d2 g2c]), EV (.string (ByteArray.mk #[91, 49, 32, 51, 93, 32, 91, 50, 32, 52, 93])), EV (.bool false), EV (.bool false), EV (.bool false), EV (.agg #[.int .i64 2, .int .i64 2, .slice g3 d3 g3c]), EV (.string (ByteArray.mk #[91, 55, 32, 49, 48, 93, 32, 91, 49, 53, 32, 50, 50, 93])), EV (.bool false), EV (.bool false), EV (.bool false), EV (.slice g7 d7 g7c), EV (.string (ByteArray.mk #[91, 45, 49, 32, 45, 49, 93])), EV (.bool false), EV (.bool false), EV (.bool false), EV (.agg #[.int .u64 ((zl c2.num : Nat) : Int), .string (zh c2.num), .bool (zs c2.num), .int .u64 ((lo (fe c2) : Nat) : Int), .string (hs (fe c2))]), EV (.agg #[.int .u64 ((zl c2.num : Nat) : Int), .string (zh c2.num), .bool (zs c2.num), .int .u64 ((lo (fe c2) : Nat) : Int), .string (hs (fe c2))]), EV (.bool false), EV (.bool false)] (by kernel_rfl) (by kernel_rfl) ?_ ?_ ?_
   ·exact stays_cons (stays_eq _) (stays_cons (stays_eq _) (stays_cons (stays_eq _) (stays_cons (stays_eq _) (stays_cons (stays_eq _) (stays_cons (stays_eq _) (stays_cons (stays_eq _) (stays_cons (stays_eq _) (stays_cons (stays_eq _) (stays_cons (stays_eq _) (stays_cons (stays_eq _) (stays_cons (stays_eq _) (stays_cons (stays_eq _) (stays_cons (stays_eq _) (stays_cons (stays_eq _) (stays_cons (stays_eq _) (stays_cons (stays_eq _) (stays_cons (stays_eq _) (stays_cons (stays_eq _) (stays_cons (stays_eq _) (stays_cons (stays_eq _) (stays_cons (stays_eq _) (stays_cons (stays_eq _) (stays_cons (stays_eq _) (stays_cons (stays_eq _) (stays_cons (stays_eq _) (stays_cons (stays_eq _) (stays_cons (stays_eq _) (stays_cons (stays_eq _) (stays_cons (stays_eq _) (stays_cons (stays_eq _) (stays_cons (stays_eq _) (stays_cons (stays_eq _) (stays_cons (stays_eq _) (stays_cons (stays_eq _) (stays_cons (stays_eq _) (stays_cons (stays_eq _) (stays_cons (stays_eq _) (stays_cons (stays_eq _) (stays_cons (stays_eq _) (stays_cons (stays_eq _) (stays_cons (stays_eq _) (stays_cons (stays_eq _) (stays_nil)))))))))))))))))))))))))))))))))))))))))))
   ·simp only [List.take_succ_cons, List.take_zero, hopsR, and_true]
    refine ⟨?_, ?_, ?_, ?_, ?_, ?_, ?_, ?_, ?_, ?_, ?_, ?_, ?_, ?_, ?_, ?_, ?_, ?_, ?_, ?_, ?_, ?_, ?_, ?_, ?_, ?_, ?_, ?_, ?_, ?_, ?_, ?_, ?_, ?_, ?_, ?_, ?_, ?_, ?_, ?_, ?_, ?_, ?_⟩ <;> intro fv w1 hb1 hp
    all_goals (simp only [putsV, Act.put, List.setIfInBounds_toArray, List.set_cons_succ, List.set_cons_zero, Nat.zero_add, Nat.reduceAdd])
    ·refine tyAt_none rfl ?_
     simp [tyUpon, execOp, go_sem, Act.eval, Below.refl]
    ·have h0 : EV _ (fv 0) w1 := hp 0 (LC (by kernel_rfl))
     refine tyAt_none rfl ?_
     simp [tyUpon, execOp, go_sem, Act.eval, h0, Below.refl]
    ·have h1 : EV _ (fv 1) w1 := hp 1 (LC (by kernel_rfl))
     refine tyAt_none rfl ?_
     simp [tyUpon, execOp, go_sem, Act.eval, h1, Below.refl]
    ·have h2 : EV _ (fv 2) w1 := hp 2 (LC (by kernel_rfl))
     refine tyAt_yes (by simp [Region.wanted, yielded, h2]) ?_
     simp [tyUpon, execOp, go_sem, Act.eval, h2, Below.refl]
    ·have h3 : EV _ (fv 3) w1 := hp 3 (LC (by kernel_rfl))
     have h2 : EV _ (fv 2) w1 := hp 2 (LC (by kernel_rfl))
     refine tyAt_yes (by simp [Region.wanted, yielded, h3, h2]) ?_
     simp [tyUpon, execOp, go_sem, Act.eval, h3, h2, Below.refl]
    ·have h2 : EV _ (fv 2) w1 := hp 2 (LC (by kernel_rfl))
     have h4 : EV _ (fv 4) w1 := hp 4 (LC (by kernel_rfl))
     refine tyAt_none rfl ?_
     simp [tyUpon, execOp, go_sem, Act.eval, h2, h4, Below.refl]
    ·have h5 : EV _ (fv 5) w1 := hp 5 (LC (by kernel_rfl))
     refine tyAt_none rfl ?_
     simp [tyUpon, execOp, go_sem, Act.eval, h5, Below.refl]
    ·have h6 : EV _ (fv 6) w1 := hp 6 (LC (by kernel_rfl))
     refine tyAt_yes (by simp [Region.wanted, yielded, h6]) ?_
     simp [tyUpon, execOp, go_sem, Act.eval, h6, Below.refl]
    ·have h7 : EV _ (fv 7) w1 := hp 7 (LC (by kernel_rfl))
     have h6 : EV _ (fv 6) w1 := hp 6 (LC (by kernel_rfl))
     refine tyAt_yes (by simp [Region.wanted, yielded, h7, h6]) ?_
     simp [tyUpon, execOp, go_sem, Act.eval, h7, h6, Below.refl]
    ·have h6 : EV _ (fv 6) w1 := hp 6 (LC (by kernel_rfl))
     have h8 : EV _ (fv 8) w1 := hp 8 (LC (by kernel_rfl))
     refine tyAt_none rfl ?_
     simp [tyUpon, execOp, go_sem, Act.eval, h6, h8, Below.refl]
    ·have h9 : EV _ (fv 9) w1 := hp 9 (LC (by kernel_rfl))
     refine tyAt_none rfl ?_
     simp [tyUpon, execOp, go_sem, Act.eval, h9, Below.refl]
    ·have h10 : EV _ (fv 10) w1 := hp 10 (LC (by kernel_rfl))
     refine tyAt_yes (by simp [Region.wanted, yielded, h10]) ?_
     simp [tyUpon, execOp, go_sem, Act.eval, h10, Below.refl]
    ·have h11 : EV _ (fv 11) w1 := hp 11 (LC (by kernel_rfl))
     have h10 : EV _ (fv 10) w1 := hp 10 (LC (by kernel_rfl))
     refine tyAt_yes (by simp [Region.wanted, yielded, h11, h10]) ?_
     simp [tyUpon, execOp, go_sem, Act.eval, h11, h10, Below.refl]
    ·have h10 : EV _ (fv 10) w1 := hp 10 (LC (by kernel_rfl))
     have h12 : EV _ (fv 12) w1 := hp 12 (LC (by kernel_rfl))
     refine tyAt_none rfl ?_
     simp [tyUpon, execOp, go_sem, Act.eval, h10, h12, Below.refl]
    ·have h13 : EV _ (fv 13) w1 := hp 13 (LC (by kernel_rfl))
     refine tyAt_none rfl ?_
     simp [tyUpon, execOp, go_sem, Act.eval, h13, Below.refl]
    ·have h14 : EV _ (fv 14) w1 := hp 14 (LC (by kernel_rfl))
     refine tyAt_yes (by simp [Region.wanted, yielded, h14]) ?_
     simp [tyUpon, execOp, go_sem, Act.eval, h14, Below.refl]
    ·have h15 : EV _ (fv 15) w1 := hp 15 (LC (by kernel_rfl))
     have h14 : EV _ (fv 14) w1 := hp 14 (LC (by kernel_rfl))
     refine tyAt_yes (by simp [Region.wanted, yielded, h15, h14]) ?_
     simp [tyUpon, execOp, go_sem, Act.eval, h15, h14, Below.refl]
    ·have h14 : EV _ (fv 14) w1 := hp 14 (LC (by kernel_rfl))
     have h16 : EV _ (fv 16) w1 := hp 16 (LC (by kernel_rfl))
     refine tyAt_none rfl ?_
     simp [tyUpon, execOp, go_sem, Act.eval, h14, h16, Below.refl]
    ·have h17 : EV _ (fv 17) w1 := hp 17 (LC (by kernel_rfl))
     refine tyAt_none rfl ?_
     simp [tyUpon, execOp, go_sem, Act.eval, h17, Below.refl]
    ·have h18 : EV _ (fv 18) w1 := hp 18 (LC (by kernel_rfl))
     refine tyAt_yes (by simp [Region.wanted, yielded, h18]) ?_
     have hc := (hL0.call (below_drew hb1)).fc
     simp only [fcG, cellsF, neK, and_true, ne_eq, Nat.zero_add, Nat.reduceAdd] at hc
     simp [tyUpon, execOp, go_sem, Act.eval, hc, h18, Below.refl]
    ·have h19 : EV _ (fv 19) w1 := hp 19 (LC (by kernel_rfl))
     have h18 : EV _ (fv 18) w1 := hp 18 (LC (by kernel_rfl))
     refine tyAt_yes (by simp [Region.wanted, yielded, h19, h18]) ?_
     refine ty_call (f := 54) (args := #[.agg #[.int .i64 2, .int .i64 2, .slice g1 d1 g1c]]) (by simp [execOp, go_sem, Act.eval, h19, h18]) ?_
     exact (HXma.out (.agg #[.int .i64 2, .int .i64 2, .slice g1 d1 g1c]) w1 (hKT.out.at ((hL0.call (below_drew hb1)).bl) kKT) (mt_of (PT.below (hT.get (List.mem_cons_of_mem _ (List.mem_cons_of_mem _ (List.mem_cons_of_mem _ (List.mem_cons_of_mem _ (List.mem_cons_of_mem _ List.mem_cons_self)))))) (below_drew hb1)) hcp1.out hma1.out hma2.out)).mono fun e w2 ⟨h1, h2⟩ => ⟨_, h1, rfl, h2⟩
    ·have h20 : EV _ (fv 20) w1 := hp 20 (LC (by kernel_rfl))
     have h18 : EV _ (fv 18) w1 := hp 18 (LC (by kernel_rfl))
     refine tyAt_yes (by simp [Region.wanted, yielded, h20, h18]) ?_
     simp [tyUpon, execOp, go_sem, Act.eval, h20, h18, Below.refl]
    ·have h18 : EV _ (fv 18) w1 := hp 18 (LC (by kernel_rfl))
     have h21 : EV _ (fv 21) w1 := hp 21 (LC (by kernel_rfl))
     refine tyAt_none rfl ?_
     simp [tyUpon, execOp, go_sem, Act.eval, h18, h21, Below.refl]
    ·have h22 : EV _ (fv 22) w1 := hp 22 (LC (by kernel_rfl))
     refine tyAt_none rfl ?_
     simp [tyUpon, execOp, go_sem, Act.eval, h22, Below.refl]
    ·have h23 : EV _ (fv 23) w1 := hp 23 (LC (by kernel_rfl))
     refine tyAt_yes (by simp [Region.wanted, yielded, h23]) ?_
     have hc := (hL0.call (below_drew hb1)).fc
     simp only [fcG, cellsF, neK, and_true, ne_eq, Nat.zero_add, Nat.reduceAdd] at hc
     simp [tyUpon, execOp, go_sem, Act.eval, hc, h23, Below.refl]
    ·have h24 : EV _ (fv 24) w1 := hp 24 (LC (by kernel_rfl))
     have h23 : EV _ (fv 23) w1 := hp 23 (LC (by kernel_rfl))
     refine tyAt_yes (by simp [Region.wanted, yielded, h24, h23]) ?_
     refine ty_call (f := 54) (args := #[.agg #[.int .i64 2, .int .i64 2, .slice g2 d2 g2c]]) (by simp [execOp, go_sem, Act.eval, h24, h23]) ?_
     exact (HXmt.out (.agg #[.int .i64 2, .int .i64 2, .slice g2 d2 g2c]) w1 (hKT.out.at ((hL0.call (below_drew hb1)).bl) kKT) (mt_of (PT.below (hT.get (List.mem_cons_of_mem _ (List.mem_cons_of_mem _ (List.mem_cons_of_mem _ (List.mem_cons_of_mem _ List.mem_cons_self))))) (below_drew hb1)) hcp2.out hmt1.out hmt2.out)).mono fun e w2 ⟨h1, h2⟩ => ⟨_, h1, rfl, h2⟩
    ·have h25 : EV _ (fv 25) w1 := hp 25 (LC (by kernel_rfl))
     have h23 : EV _ (fv 23) w1 := hp 23 (LC (by kernel_rfl))
     refine tyAt_yes (by simp [Region.wanted, yielded, h25, h23]) ?_
     simp [tyUpon, execOp, go_sem, Act.eval, h25, h23, Below.refl]
    ·have h23 : EV _ (fv 23) w1 := hp 23 (LC (by kernel_rfl))
     have h26 : EV _ (fv 26) w1 := hp 26 (LC (by kernel_rfl))
     refine tyAt_none rfl ?_
     simp [tyUpon, execOp, go_sem, Act.eval, h23, h26, Below.refl]
    ·have h27 : EV _ (fv 27) w1 := hp 27 (LC (by kernel_rfl))
     refine tyAt_none rfl ?_
     simp [tyUpon, execOp, go_sem, Act.eval, h27, Below.refl]
    ·have h28 : EV _ (fv 28) w1 := hp 28 (LC (by kernel_rfl))
     refine tyAt_yes (by simp [Region.wanted, yielded, h28]) ?_
     have hc := (hL0.call (below_drew hb1)).fc
     simp only [fcG, cellsF, neK, and_true, ne_eq, Nat.zero_add, Nat.reduceAdd] at hc
     simp [tyUpon, execOp, go_sem, Act.eval, hc, h28, Below.refl]
    ·have h29 : EV _ (fv 29) w1 := hp 29 (LC (by kernel_rfl))
     have h28 : EV _ (fv 28) w1 := hp 28 (LC (by kernel_rfl))
     refine tyAt_yes (by simp [Region.wanted, yielded, h29, h28]) ?_
     refine ty_call (f := 54) (args := #[.agg #[.int .i64 2, .int .i64 2, .slice g3 d3 g3c]]) (by simp [execOp, go_sem, Act.eval, h29, h28]) ?_
     exact (HXmp.out (.agg #[.int .i64 2, .int .i64 2, .slice g3 d3 g3c]) w1 (hKT.out.at ((hL0.call (below_drew hb1)).bl) kKT) (mt_of (PT.below (hT.get (List.mem_cons_of_mem _ (List.mem_cons_of_mem _ (List.mem_cons_of_mem _ List.mem_cons_self)))) (below_drew hb1)) hcp3.out hmp1.out hmp2.out)).mono fun e w2 ⟨h1, h2⟩ => ⟨_, h1, rfl, h2⟩
    ·have h30 : EV _ (fv 30) w1 := hp 30 (LC (by kernel_rfl))
     have h28 : EV _ (fv 28) w1 := hp 28 (LC (by kernel_rfl))
     refine tyAt_yes (by simp [Region.wanted, yielded, h30, h28]) ?_
     simp [tyUpon, execOp, go_sem, Act.eval, h30, h28, Below.refl]
    ·have h28 : EV _ (fv 28) w1 := hp 28 (LC (by kernel_rfl))
     have h31 : EV _ (fv 31) w1 := hp 31 (LC (by kernel_rfl))
     refine tyAt_none rfl ?_
     simp [tyUpon, execOp, go_sem, Act.eval, h28, h31, Below.refl]
    ·have h32 : EV _ (fv 32) w1 := hp 32 (LC (by kernel_rfl))
     refine tyAt_none rfl ?_
     simp [tyUpon, execOp, go_sem, Act.eval, h32, Below.refl]
    ·have h33 : EV _ (fv 33) w1 := hp 33 (LC (by kernel_rfl))
     refine tyAt_yes (by simp [Region.wanted, yielded, h33]) ?_
     simp [tyUpon, execOp, go_sem, Act.eval, h33, Below.refl]
    ·have h34 : EV _ (fv 34) w1 := hp 34 (LC (by kernel_rfl))
     have h33 : EV _ (fv 33) w1 := hp 33 (LC (by kernel_rfl))
     refine tyAt_yes (by simp [Region.wanted, yielded, h34, h33]) ?_
     refine ty_call (f := 81) (args := #[.slice g7 d7 g7c]) (by simp [execOp, go_sem, Act.eval, h34, h33]) ?_
     exact (HXv.out (.slice g7 d7 g7c) w1 (hKT.out.at ((hL0.call (below_drew hb1)).bl) kKT) (PT.below (hT.get List.mem_cons_self) (below_drew hb1))).mono fun e w2 ⟨h1, h2⟩ => ⟨_, h1, rfl, h2⟩
    ·have h35 : EV _ (fv 35) w1 := hp 35 (LC (by kernel_rfl))
     have h33 : EV _ (fv 33) w1 := hp 33 (LC (by kernel_rfl))
     refine tyAt_yes (by simp [Region.wanted, yielded, h35, h33]) ?_
     simp [tyUpon, execOp, go_sem, Act.eval, h35, h33, Below.refl]
    ·have h33 : EV _ (fv 33) w1 := hp 33 (LC (by kernel_rfl))
     have h36 : EV _ (fv 36) w1 := hp 36 (LC (by kernel_rfl))
     refine tyAt_none rfl ?_
     simp [tyUpon, execOp, go_sem, Act.eval, h33, h36, Below.refl]
    ·have h37 : EV _ (fv 37) w1 := hp 37 (LC (by kernel_rfl))
     refine tyAt_none rfl ?_
     simp [tyUpon, execOp, go_sem, Act.eval, h37, Below.refl]
    ·have h38 : EV _ (fv 38) w1 := hp 38 (LC (by kernel_rfl))
     refine tyAt_yes (by simp [Region.wanted, yielded, h38]) ?_
     have hc := (hL0.call (below_drew hb1)).fc
     simp only [fcG, cellsF, neK, and_true, ne_eq, Nat.zero_add, Nat.reduceAdd] at hc
     simp [tyUpon, execOp, go_sem, Act.eval, hc, h38, Below.refl]
    ·have h38 : EV _ (fv 38) w1 := hp 38 (LC (by kernel_rfl))
     refine tyAt_yes (by simp [Region.wanted, yielded, h38]) ?_
     refine ty_call (f := 17) (args := #[.int .i64 2]) (by simp [execOp, go_sem, Act.eval, h38]) ?_
     exact (HI2.out w1).mono fun e w2 ⟨h1, h2⟩ => ⟨_, h1, rfl, h2⟩
    ·have h39 : EV _ (fv 39) w1 := hp 39 (LC (by kernel_rfl))
     have h40 : EV _ (fv 40) w1 := hp 40 (LC (by kernel_rfl))
     have h38 : EV _ (fv 38) w1 := hp 38 (LC (by kernel_rfl))
     refine tyAt_yes (by simp [Region.wanted, yielded, h39, h40, h38]) ?_
     simp [tyUpon, execOp, go_sem, Act.eval, h39, h40, h38, Below.refl]
    ·have h38 : EV _ (fv 38) w1 := hp 38 (LC (by kernel_rfl))
     have h41 : EV _ (fv 41) w1 := hp 41 (LC (by kernel_rfl))
     refine tyAt_none rfl ?_
     simp [tyUpon, execOp, go_sem, Act.eval, h38, h41, Below.refl]
   ·intro fv x11 hb1 hv
    have e0 : fv 0 = _ := hv 0 (by omega)
    have e1 : fv 1 = _ := hv 1 (by omega)
    have e2 : fv 2 = _ := hv 2 (by omega)
    have e3 : fv 3 = _ := hv 3 (by omega)
    have e4 : fv 4 = _ := hv 4 (by omega)
    have e5 : fv 5 = _ := hv 5 (by omega)
    have e6 : fv 6 = _ := hv 6 (by omega)
    have e7 : fv 7 = _ := hv 7 (by omega)
    have e8 : fv 8 = _ := hv 8 (by omega)
    have e9 : fv 9 = _ := hv 9 (by omega)
    have e10 : fv 10 = _ := hv 10 (by omega)
    have e11 : fv 11 = _ := hv 11 (by omega)
    have e12 : fv 12 = _ := hv 12 (by omega)
    have e13 : fv 13 = _ := hv 13 (by omega)
    have e14 : fv 14 = _ := hv 14 (by omega)
    have e15 : fv 15 = _ := hv 15 (by omega)
    have e16 : fv 16 = _ := hv 16 (by omega)
    have e17 : fv 17 = _ := hv 17 (by omega)
    have e18 : fv 18 = _ := hv 18 (by omega)
    have e19 : fv 19 = _ := hv 19 (by omega)
    have e20 : fv 20 = _ := hv 20 (by omega)
    have e21 : fv 21 = _ := hv 21 (by omega)
    have e22 : fv 22 = _ := hv 22 (by omega)
    have e23 : fv 23 = _ := hv 23 (by omega)
    have e24 : fv 24 = _ := hv 24 (by omega)
    have e25 : fv 25 = _ := hv 25 (by omega)
    have e26 : fv 26 = _ := hv 26 (by omega)
    have e27 : fv 27 = _ := hv 27 (by omega)
    have e28 : fv 28 = _ := hv 28 (by omega)
    have e29 : fv 29 = _ := hv 29 (by omega)
    have e30 : fv 30 = _ := hv 30 (by omega)
    have e31 : fv 31 = _ := hv 31 (by omega)
    have e32 : fv 32 = _ := hv 32 (by omega)
    have e33 : fv 33 = _ := hv 33 (by omega)
    have e34 : fv 34 = _ := hv 34 (by omega)
    have e35 : fv 35 = _ := hv 35 (by omega)
    have e36 : fv 36 = _ := hv 36 (by omega)
    have e37 : fv 37 = _ := hv 37 (by omega)
    have e38 : fv 38 = _ := hv 38 (by omega)
    have e39 : fv 39 = _ := hv 39 (by omega)
    have e40 : fv 40 = _ := hv 40 (by omega)
    have e41 : fv 41 = _ := hv 41 (by omega)
    have e42 : fv 42 = _ := hv 42 (by omega)
    simp only [List.take_succ_cons, List.take_zero, putsV, Act.put, List.setIfInBounds_toArray, List.set_cons_succ, List.set_cons_zero, List.drop_succ_cons, List.drop_zero, Nat.zero_add, Nat.reduceAdd, e0, e1, e2, e3, e4, e5, e6, e7, e8, e9, e10, e11, e12, e13, e14, e15, e16, e17, e18, e19, e20, e21, e22, e23, e24, e25, e26, e27, e28, e29, e30, e31, e32, e33, e34, e35, e36, e37, e38, e39, e40, e41, e42]
    replace hL0 := hL0.call (below_drew hb1)
    replace hT := hT.call (below_drew hb1)
    clear e0 e1 e2 e3 e4 e5 e6 e7 e8 e9 e10 e11 e12 e13 e14 e15 e16 e17 e18 e19 e20 e21 e22 e23 e24 e25 e26 e27 e28 e29 e30 e31 e32 e33 e34 e35 e36 e37 e38 e39 e40 e41 e42 hb1 hv fv
    replace hT := (hT.new (.cells #[.int .i64 1] 2))
    replace hL0 := (hL0.new rfl [.int .i64 1] 2)
    generalize hweq : (x11.alloc (.cells #[.int .i64 1] 2)) = x12 at hL0 hT
    have hbv2 : ILs x12 (.slice (some ⟨x11.heap.size, 0, none⟩) 1 1) [1] := ils_at (hL0.get _ _ List.mem_cons_self) rfl rfl
    replace hbv2 := Lib.hid hbv2
    go_wp2_with fail
    with_reducible refine Calls.mono (HO2.out (.slice (some ⟨x11.heap.size, 0, none⟩) 1 1) _ hbv2.out) ?_
    rintro e x13 ⟨rfl, hb⟩
    replace hL0 := hL0.call hb
    replace hT := hT.call hb
    clear hb hweq
    replace hT := (hT.new (.cells #[.int .i64 0, .int .i64 0, .slice none 0 0] 56))
    replace hL0 := (hL0.new rfl [.int .i64 0, .int .i64 0, .slice none 0 0] 56)
    generalize hweq : (x13.alloc (.cells #[.int .i64 0, .int .i64 0, .slice none 0 0] 56)) = x14 at hL0 hT
    have hT1 := hT.putM ((((Upd.refl x13.heap.size x14).setCell 0 (.int .i64 0)).setCell 1 (.int .i64 0)).setCell 2 (.slice none 0 0)) (hL0.get _ _ List.mem_cons_self) (by intro n; simp)
    have hA := hL0.fc
    simp only [fcG, cellsF, neK, and_true, ne_eq, Nat.zero_add, Nat.reduceAdd] at hA
    have hP := hL0.put 0 (x13.heap.size) _ rfl [.int .i64 0, .int .i64 0, .slice none 0 0] rfl
    simp only [setAll, List.set_cons_zero, List.set_cons_succ] at hP
    generalize hput2 : (((x14.setCell ⟨x13.heap.size, 0, none⟩ (.int .i64 0)).setCell ⟨x13.heap.size, 1, none⟩ (.int .i64 0)).setCell ⟨x13.heap.size, 2, none⟩ (.slice none 0 0)) = x15 at hP hT1
    have hB2 := hP.fc
    simp only [fcG, cellsF, neK, and_true, ne_eq, Nat.zero_add, Nat.reduceAdd] at hB2
    replace hL0 := hP
    replace hT := hT1
    clear hT1
    go_wp2_with fail
    clear hA
    with_reducible refine Calls.mono (HO3.out _) ?_
    rintro e x16 ⟨rfl, hb⟩
    replace hL0 := hL0.call hb
    replace hT := hT.call hb
    clear hb hweq hput2 hB2
    replace hT := (hT.new (.cells #[.int .i64 0, .int .i64 0, .slice none 0 0] 56))
    replace hL0 := (hL0.new rfl [.int .i64 0, .int .i64 0, .slice none 0 0] 56)
    generalize hweq : (x16.alloc (.cells #[.int .i64 0, .int .i64 0, .slice none 0 0] 56)) = x17 at hL0 hT
    have hT1 := hT.putM ((((Upd.refl x16.heap.size x17).setCell 0 (.int .i64 0)).setCell 1 (.int .i64 0)).setCell 2 (.slice none 0 0)) (hL0.get _ _ List.mem_cons_self) (by intro n; simp)
    have hA := hL0.fc
    simp only [fcG, cellsF, neK, and_true, ne_eq, Nat.zero_add, Nat.reduceAdd] at hA
    have hP := hL0.put 0 (x16.heap.size) _ rfl [.int .i64 0, .int .i64 0, .slice none 0 0] rfl
    simp only [setAll, List.set_cons_zero, List.set_cons_succ] at hP
    generalize hput3 : (((x17.setCell ⟨x16.heap.size, 0, none⟩ (.int .i64 0)).setCell ⟨x16.heap.size, 1, none⟩ (.int .i64 0)).setCell ⟨x16.heap.size, 2, none⟩ (.slice none 0 0)) = x18 at hP hT1
    have hB3 := hP.fc
    simp only [fcG, cellsF, neK, and_true, ne_eq, Nat.zero_add, Nat.reduceAdd] at hB3
    replace hL0 := hP
    replace hT := hT1
    clear hT1
    go_wp2_with fail
    clear hA
    with_reducible refine Calls.mono (HO4.out _) ?_
    rintro e x19 ⟨rfl, hb⟩
    replace hL0 := hL0.call hb
    replace hT := hT.call hb
    clear hb hweq hput3 hB3
    replace hT := (hT.new (.cells #[.int .i64 0, .int .i64 0, .slice none 0 0] 56))
    replace hL0 := (hL0.new rfl [.int .i64 0, .int .i64 0, .slice none 0 0] 56)
    generalize hweq : (x19.alloc (.cells #[.int .i64 0, .int .i64 0, .slice none 0 0] 56)) = x20 at hL0 hT
    have hT1 := hT.putM ((((Upd.refl x19.heap.size x20).setCell 0 (.int .i64 0)).setCell 1 (.int .i64 0)).setCell 2 (.slice none 0 0)) (hL0.get _ _ List.mem_cons_self) (by intro n; simp)
    have hA := hL0.fc
    simp only [fcG, cellsF, neK, and_true, ne_eq, Nat.zero_add, Nat.reduceAdd] at hA
    have hP := hL0.put 0 (x19.heap.size) _ rfl [.int .i64 0, .int .i64 0, .slice none 0 0] rfl
    simp only [setAll, List.set_cons_zero, List.set_cons_succ] at hP
    generalize hput4 : (((x20.setCell ⟨x19.heap.size, 0, none⟩ (.int .i64 0)).setCell ⟨x19.heap.size, 1, none⟩ (.int .i64 0)).setCell ⟨x19.heap.size, 2, none⟩ (.slice none 0 0)) = x21 at hP hT1
    have hB4 := hP.fc
    simp only [fcG, cellsF, neK, and_true, ne_eq, Nat.zero_add, Nat.reduceAdd] at hB4
    replace hL0 := hP
    replace hT := hT1
    clear hT1
    go_wp2_with fail
    clear hA
    with_reducible refine Calls.mono (HO5.out _) ?_
    rintro e x22 ⟨v0, rfl, q0, hb⟩
    replace hL0 := hL0.call hb
    replace hT := hT.call hb
    clear hb hweq hput4 hB4
    obtain ⟨g12, d12, g12c, rfl, hm4, hcp4⟩ := mt_form q0 hmn1.out hmn2.out
    replace hcp4 := Lib.hid hcp4
    replace hT := hT.cons hm4
    clear hm4
    clear q0
    replace hT := (hT.new (.cells #[.int .i64 0, .int .i64 3, .slice g12 d12 g12c] 56))
    replace hL0 := (hL0.new rfl [.int .i64 0, .int .i64 3, .slice g12 d12 g12c] 56)
    generalize hweq : (x22.alloc (.cells #[.int .i64 0, .int .i64 3, .slice g12 d12 g12c] 56)) = x23 at hL0 hT
    go_upto_region 12 with fail
    have hZ0 := cells_of _ 0 [] rfl (hL0.get _ _ (List.mem_cons_of_mem _ (List.mem_cons_of_mem _ (List.mem_cons_of_mem _ (List.mem_cons_of_mem _ (List.mem_cons_of_mem _ (List.mem_cons_of_mem _ (List.mem_cons_of_mem _ (List.mem_cons_of_mem _ List.mem_cons_self)))))))))
    simp only [cellsF, and_true, Nat.zero_add, Nat.reduceAdd] at hZ0
    replace hT := ((hT.new (.cells #[.int .i64 1, .int .i64 0] 3)).new (.cells #[.int .i64 1] 3))
    clear hweq
    replace hL0 := ((hL0.new rfl [.int .i64 1, .int .i64 0] 3).new (K := x23.heap.size + 1) (szA _ _) [.int .i64 1] 3)
    generalize hweq : ((x23.alloc (.cells #[.int .i64 1, .int .i64 0] 3)).alloc (.cells #[.int .i64 1] 3)) = x24 at hL0 hT
    have hN0 := cells_of _ 0 [] rfl (hL0.get _ _ (List.mem_cons_of_mem _ (List.mem_cons_of_mem _ (List.mem_cons_of_mem _ (List.mem_cons_of_mem _ (List.mem_cons_of_mem _ (List.mem_cons_of_mem _ (List.mem_cons_of_mem _ (List.mem_cons_of_mem _ (List.mem_cons_of_mem _ (List.mem_cons_of_mem _ List.mem_cons_self)))))))))))
    simp only [cellsF, and_true, Nat.zero_add, Nat.reduceAdd] at hN0
    have hbv3 : ILs x24 (.slice (some ⟨x23.heap.size, 0, none⟩) 2 2) [1, 0] := ils_at (hL0.get _ _ (List.mem_cons_of_mem _ List.mem_cons_self)) rfl rfl
    replace hbv3 := Lib.hid hbv3
    have hbv4 : ILs x24 (.slice (some ⟨x23.heap.size + 1, 0, none⟩) 1 1) [1] := ils_at (hL0.get _ _ List.mem_cons_self) rfl rfl
    replace hbv4 := Lib.hid hbv4
    go_wp2_with fail
    clear hN0
    with_reducible refine Calls.mono (HP1.out (.agg #[.int .i64 2, .int .i64 2, .slice g1 d1 g1c]) (.slice (some ⟨x23.heap.size, 0, none⟩) 2 2) (.slice (some ⟨x23.heap.size + 1, 0, none⟩) 1 1) _ (mt_of (hT.get (List.mem_cons_of_mem _ (List.mem_cons_of_mem _ (List.mem_cons_of_mem _ (List.mem_cons_of_mem _ (List.mem_cons_of_mem _ (List.mem_cons_of_mem _ List.mem_cons_self))))))) hcp1.out hma1.out hma2.out) hbv3.out hbv4.out) ?_
    rintro e x25 ⟨v0, rfl, q0, hb⟩
    replace hL0 := hL0.call hb
    replace hT := hT.call hb
    clear hb hweq
    clear hZ0
    obtain ⟨g13, d13, g13c, rfl, hm5, hcp5⟩ := mt_form q0 hmq1.out hmq2.out
    replace hcp5 := Lib.hid hcp5
    replace hT := hT.cons hm5
    clear hm5
    clear q0
    have hZ0 := cells_of _ 0 [] rfl (hL0.get _ _ (List.mem_cons_of_mem _ (List.mem_cons_of_mem _ List.mem_cons_self)))
    simp only [cellsF, and_true, Nat.zero_add, Nat.reduceAdd] at hZ0
    replace hT := (hT.new (.cells #[.int .i64 2, .int .i64 1, .slice g13 d13 g13c] 56))
    replace hL0 := (hL0.new rfl [.int .i64 2, .int .i64 1, .slice g13 d13 g13c] 56)
    generalize hweq : (x25.alloc (.cells #[.int .i64 2, .int .i64 1, .slice g13 d13 g13c] 56)) = x26 at hL0 hT
    have hN0 := cells_of _ 0 [] rfl (hL0.get _ _ List.mem_cons_self)
    simp only [cellsF, and_true, Nat.zero_add, Nat.reduceAdd] at hN0
    have hN1 := cells_of _ 0 [] rfl (hL0.get _ _ (List.mem_cons_of_mem _ (List.mem_cons_of_mem _ (List.mem_cons_of_mem _ List.mem_cons_self))))
    simp only [cellsF, and_true, Nat.zero_add, Nat.reduceAdd] at hN1
    go_wp2_with fail
    clear hN0 hN1
    with_reducible refine Calls.mono (HXmq.out (.agg #[.int .i64 2, .int .i64 1, .slice g13 d13 g13c]) _ (hKT.out.at (hL0.bl) kKT) (mt_of (hT.get List.mem_cons_self) hcp5.out hmq1.out hmq2.out)) ?_
    rintro e x27 ⟨rfl, hb⟩
    replace hL0 := hL0.call hb
    replace hT := hT.call hb
    clear hb hweq
    clear hZ0
    have hN0 := cells_of _ 0 [] rfl (hL0.get _ _ (List.mem_cons_of_mem _ (List.mem_cons_of_mem _ (List.mem_cons_of_mem _ (List.mem_cons_of_mem _ (List.mem_cons_of_mem _ (List.mem_cons_of_mem _ (List.mem_cons_of_mem _ (List.mem_cons_of_mem _ (List.mem_cons_of_mem _ (List.mem_cons_of_mem _ (List.mem_cons_of_mem _ List.mem_cons_self))))))))))))
    simp only [cellsF, and_true, Nat.zero_add, Nat.reduceAdd] at hN0
    go_wp2_with fail
    clear hN0
    with_reducible refine Calls.mono (HS1.out (.agg #[.int .i64 2, .int .i64 2, .slice g1 d1 g1c]) _ (mt_of (hT.get (List.mem_cons_of_mem _ (List.mem_cons_of_mem _ (List.mem_cons_of_mem _ (List.mem_cons_of_mem _ (List.mem_cons_of_mem _ (List.mem_cons_of_mem _ (List.mem_cons_of_mem _ List.mem_cons_self)))))))) hcp1.out hma1.out hma2.out)) ?_
    rintro e x28 ⟨rfl, hb⟩
    replace hL0 := hL0.call hb
    replace hT := hT.call hb
    clear hb
    go_wp2_with fail
    with_reducible refine Calls.mono (HI10.out _) ?_
    rintro e x29 ⟨rfl, hb⟩
    replace hL0 := hL0.call hb
    replace hT := hT.call hb
    clear hb
    have hN0 := cells_of _ 0 [] rfl (hL0.get _ _ (List.mem_cons_of_mem _ (List.mem_cons_of_mem _ (List.mem_cons_of_mem _ (List.mem_cons_of_mem _ (List.mem_cons_of_mem _ (List.mem_cons_of_mem _ (List.mem_cons_of_mem _ (List.mem_cons_of_mem _ (List.mem_cons_of_mem _ (List.mem_cons_of_mem _ (List.mem_cons_of_mem _ List.mem_cons_self))))))))))))
    simp only [cellsF, and_true, Nat.zero_add, Nat.reduceAdd] at hN0
    go_wp2_with fail
    clear hN0
    with_reducible refine Calls.mono (HY1.out (.agg #[.int .i64 2, .int .i64 2, .slice g1 d1 g1c]) _ (mt_of (hT.get (List.mem_cons_of_mem _ (List.mem_cons_of_mem _ (List.mem_cons_of_mem _ (List.mem_cons_of_mem _ (List.mem_cons_of_mem _ (List.mem_cons_of_mem _ (List.mem_cons_of_mem _ List.mem_cons_self)))))))) hcp1.out hma1.out hma2.out)) ?_
    rintro e x30 ⟨rfl, hb⟩
    replace hL0 := hL0.call hb
    replace hT := hT.call hb
    clear hb
    have hN0 := cells_of _ 0 [] rfl (hL0.get _ _ (List.mem_cons_of_mem _ (List.mem_cons_of_mem _ (List.mem_cons_of_mem _ List.mem_cons_self))))
    simp only [cellsF, and_true, Nat.zero_add, Nat.reduceAdd] at hN0
    go_wp2_with fail
    clear hN0
    with_reducible refine Calls.mono (HY2.out (.agg #[.int .i64 0, .int .i64 3, .slice g12 d12 g12c]) _ (mt_of (hT.get (List.mem_cons_of_mem _ List.mem_cons_self)) hcp4.out hmn1.out hmn2.out)) ?_
    rintro e x31 ⟨rfl, hb⟩
    replace hL0 := hL0.call hb
    replace hT := hT.call hb
    clear hb
    go_wp2_with fail
    exact bodyPost_ret (v := .bool true) (by simp [results, Tryz.results26, go_sem]) rfl ⟨rfl, hL0.bl⟩
end Go.Proofs.YtjdjhlmcbffocaaGreatDoor
namespace Go.Proofs.YtjdjhlmcbffocaaGreatDoor
open Go.RowKit
attribute [local irreducible] lo hs sm s64 c64 d64 b64 mh ml pd pc qd qc val hiB str cmpI srD lz nb zl zh zs fe
def mW (r c : Nat) (zs : List Int) : Mx := ⟨r, c, oW zs⟩
def maW : Mx := mW 2 2 [1, 2, 3, 4]
def mtW : Mx := turM 2 2 maW
def mpW : Mx := mulM 2 2 2 maW maW
def mnW : Mx := mW 0 3 []
def mqW : Mx := tabM 2 1 fun i j => ent maW ([1, 0].getD i 0) ([1].getD j 0)
/-- The text of a row, without brackets. -/
def jrow (l : List Rat) : List UInt8 := Lib.join ((l.map qtxt).map (·.data.toList)) [32]
def srow (x : Mx) (i : Nat) : ByteArray := ⟨([91] ++ jrow (rowL x i) ++ [93]).toArray⟩
def jmat (x : Mx) (n : Nat) : List UInt8 := Lib.join (((List.range n).map (srow x)).map (·.data.toList)) [32]
theorem gmW {x : Mx} {n k : Nat} (hr : x.r = n) (hc : x.c = k) (hl : x.l.length = n * k) (hs : x.l.all (fun q => decide (q.num.natAbs < 18446744073709551616 ∧ q.den < 18446744073709551616)) = true) : GM x n k 1 := ⟨hr, hc, hl, szl hs⟩
theorem mtext_at (x : Mx) (n k : Nat) (t : ByteArray) (hx : GM x n k 1) (hn : n ≤ 12) (hk : k ≤ 12) (hl : (List.range n).all (fun i => decide ((jrow (rowL x i)).length ≤ 100)) = true) (hJ : (⟨(jmat x n).toArray⟩ : ByteArray) = t) (hl2 : (jmat x n).length ≤ 1000000) (u : Value) (w : World) (hT : Tab w) (hu : MT w u x) :
  Calls Tryz.prog 54 #[u] w fun e w' => e = .returned (.string t) ∧ Below w.heap.size w w' := by
 rw [← hJ]
 have ox := hx.ok (by omega) (by omega)
 have hs := hx.sz
 have hlen := hx.len
 obtain ⟨rfl, rfl, -, -⟩ := hx
 obtain ⟨u1, rfl, hu⟩ := hu
 refine mTextV x (srow x) (jmat x x.r) ox (fun i hi v w ht hv => ?_) rfl hl2 u1 w hT hu
 have h9 := of_decide_eq_true (List.all_eq_true.1 hl i (List.mem_range.2 hi))
 exact rtextV (rowL x i) x.c 1 (jrow (rowL x i)) (row_len x i) (by omega) (by omega) (fun q hq => by
  obtain ⟨k, hk, rfl⟩ := tab_mem hq
  exact hs _ (gv_mem (by rw [hlen]; exact ix_lt hi hk))) rfl (by omega) v w ht hv
theorem ils_nil (w : World) : ILs w (.slice none 0 0) [] := ⟨none, 0, 0, rfl, fun h => absurd h (Nat.lt_irrefl _), fun i h => absurd h (Nat.not_lt_zero _)⟩
theorem mof_at (r c : Nat) (zs : List Int) (hm : zs.length ≤ 100000) (hz : ∀ z ∈ zs, -9223372036854775808 ≤ z ∧ z < 9223372036854775808) (hr : r ≤ 2048) (hc : c ≤ 2048) (hl : zs.length = r * c) (s : Value) (w : World) (hs : ILs w s zs) :
  Calls Tryz.prog 102 #[.int .i64 (r : Int), .int .i64 (c : Int), s] w fun e w' => ∃ pv, e = .returned (.tuple #[pv, .int .i64 0]) ∧ MT w' pv (mW r c zs) ∧ Below w.heap.size w w' := by
 refine (mOf_ok r c zs hm hz hr hc hl s w hs).mono ?_
 rintro e w' ⟨t, rfl, h1, hb⟩
 exact ⟨_, rfl, ⟨t, rfl, h1.cq⟩, hb⟩
theorem gma : GM maW 2 2 1 := gmW rfl rfl rfl (by kernel_rfl)
theorem gmt : GM mtW 2 2 1 := gmW rfl rfl rfl (by kernel_rfl)
theorem gmp : GM mpW 2 2 1 := gmW rfl rfl rfl (by kernel_rfl)
theorem gmn : GM mnW 0 3 1 := gmW rfl rfl rfl (by kernel_rfl)
theorem gmq : GM mqW 2 1 1 := gmW rfl rfl rfl (by kernel_rfl)
theorem gvW (zs : List Int) (n : Nat) (h : zs.length = n) (hs : (oW zs).all (fun q => decide (q.num.natAbs < 18446744073709551616 ∧ q.den < 18446744073709551616)) = true) : GV (oW zs) n 1 := ⟨by unfold oW; rw [tabV_len, h], szl hs⟩
set_option maxRecDepth 10000 in
theorem mworks_any (w : World) (ht : Tab w) : Calls Tryz.prog 26 #[] w fun xe w' => xe = .returned (.bool true) ∧ Below w.heap.size w w' := by
 have g1 := gvW [1, -1] 2 rfl (by kernel_rfl)
 have g2 := gvW [1, 0] 2 rfl (by kernel_rfl)
 have g3 := gvW [0, 1] 2 rfl (by kernel_rfl)
 have e2 : formM 2 2 maW (oW [1, 0]) (oW [0, 1]) = (((2 : Int)) : Rat) := by decide +kernel
 have e10 : qsum maW.l = (((10 : Int)) : Rat) := by decide +kernel
 have sva : ∀ q ∈ appV 2 2 maW (oW [1, -1]), Sz q 1 := szl (by kernel_rfl)
 refine mworks_w maW mtW mpW mnW mqW (oW [1, -1]) (oW [1, 0]) (oW [0, 1]) (appV 2 2 maW (oW [1, -1])) (((2 : Int)) : Rat) (((10 : Int)) : Rat)
  (fun p w h => mof_at 2 2 [1, 2, 3, 4] (by decide) (by decide) (by decide) (by decide) rfl p w h)
  (fun p w h => MTurnG gma (by decide) (by decide) p w h)
  (fun p q w h g => MulG gma gma (by decide) (by decide) (by decide) (by decide) (by decide) p q w h g)
  (fun p w h => of_at _ (by decide) (by decide) p w h) (fun p w h => of_at _ (by decide) (by decide) p w h) (fun p w h => of_at _ (by decide) (by decide) p w h)
  (fun p q w h g => MApplyG gma g1 (by decide) (by decide) (by decide) (by decide) p q w h g)
  (fun p q s w h g f => by have := MFormG (N := 10) gma g2 g3 (by decide) (by decide) (by decide) (by decide) (by decide) (by decide) p q s w h g f; rwa [e2] at this)
  (fun w => intF 2 (by decide) (by decide) w) (fun w => intF 10 (by decide) (by decide) w)
  (fun p w h => mOf_err 2 2 1 [1] (by decide) (by decide) (by decide) (fun d ao w => mcheck_len 2 2 1 d 4 ao (by decide) (by decide) rfl (by decide) w) p w h)
  (fun w => mOf_err (-1) 2049 1 [] (by decide) (by decide) (by decide) (fun d ao w => mcheck_err (-1) 2049 1 0 d ao (by decide) (fun w => msize_neg1 (-1) 2049 (by decide) w) w) _ w (ils_nil w))
  (fun w => mOf_err 2049 0 3 [] (by decide) (by decide) (by decide) (fun d ao w => mcheck_err 2049 0 3 0 d ao (by decide) (fun w => msize_big1 2049 0 (by decide) (by decide) (by decide) w) w) _ w (ils_nil w))
  (fun w => mof_at 0 3 [] (by decide) (by decide) (by decide) (by decide) rfl _ w (ils_nil w))
  (fun p q s w h g f => by
   obtain ⟨u1, rfl, hu⟩ := h
   refine (mPartV maW [1, 0] [1] (gma.ok (by decide) (by decide)) (by decide) (by decide) (by decide) (by decide) u1 q s w hu g f).mono ?_
   rintro e w' ⟨t, rfl, h1, hb⟩
   exact ⟨_, rfl, ⟨t, rfl, h1.cq⟩, hb⟩)
  (fun p w h => by
   obtain ⟨u1, rfl, hu⟩ := h
   have := mSumV maW 1 (gma.ok (by decide) (by decide)) (by decide) (by decide) (by decide) gma.sz u1 w hu
   rwa [e10] at this)
  (fun p w h => MSymG gma (by decide) false ⟨(fun h => by cases h), fun h => by have := h 0 1 (by decide) (by decide); revert this; decide +kernel⟩ p w h)
  (fun p w h => MSymN gmn (by decide) (by decide) (by decide) p w h)
  Tab Keeps.tab
  (fun p w hT h => mtext_at maW 2 2 _ gma (by decide) (by decide) (by kernel_rfl) (by kernel_rfl) (by decide +kernel) p w hT h)
  (fun p w hT h => mtext_at mtW 2 2 _ gmt (by decide) (by decide) (by kernel_rfl) (by kernel_rfl) (by decide +kernel) p w hT h)
  (fun p w hT h => mtext_at mpW 2 2 _ gmp (by decide) (by decide) (by kernel_rfl) (by kernel_rfl) (by decide +kernel) p w hT h)
  (fun p w hT h => mtext_at mqW 2 1 _ gmq (by decide) (by decide) (by kernel_rfl) (by kernel_rfl) (by decide +kernel) p w hT h)
  (fun p w hT h => text_at (appV 2 2 maW (oW [1, -1])) (jrow (appV 2 2 maW (oW [1, -1]))) _ (by decide +kernel) sva rfl (by decide +kernel) (by kernel_rfl) p w hT h)
  (by rfl) (by rfl) (by rfl) (by rfl) (by rfl) (by rfl) (by rfl) (by rfl) (by rfl) (by rfl) w ht
end Go.Proofs.YtjdjhlmcbffocaaGreatDoor
namespace Go.Proofs.YtjdjhlmcbffocaaGreatDoor
open Go.RowKit
attribute [local irreducible] lo hs sm s64 c64 d64 b64 mh ml pd pc qd qc val hiB str cmpI srD lz nb zl zh zs fe qmade
section
variable {x y r : Mx} {n k p K M N : Nat}
theorem few_any (ls : List Nat) (b : Bool) (hb : b = true ↔ ∀ l ∈ ls, l ≤ 40) (hm : ls.length ≤ 10) (v : Value) (w : World) (hv : FWs w v ls) : Calls Tryz.prog 25 #[v] w fun e w' => e = .returned (.bool b) ∧ Below w.heap.size w w' := by
 obtain ⟨ao, c, g, rfl, h1, h2⟩ := hv
 refine mfew_w ls.length c g ao (fun i => ls.getD i 0) (by omega) w h1 (fun i hi => ?_) b (hb.trans ⟨fun h i hi => ?_, fun h l hl => ?_⟩)
 ·obtain ⟨a, d, h3⟩ := h2 i hi
  exact ⟨a, d, by rw [h3, List.getD_eq_getElem?_getD, List.getElem?_eq_getElem hi]; rfl⟩
 ·show ls.getD i 0 ≤ 40
  rw [List.getD_eq_getElem?_getD, List.getElem?_eq_getElem hi]
  exact h _ (List.getElem_mem hi)
 ·obtain ⟨i, hi, rfl⟩ := List.getElem_of_mem hl
  have := h i hi
  rwa [List.getD_eq_getElem?_getD, List.getElem?_eq_getElem hi] at this
end
theorem t5 {z : Int} (h : 0 ≤ z) : ∃ d : Nat, Int.tmod z 5 = (d : Int) ∧ d ≤ 4 := by
 rw [Int.tmod_eq_emod_of_nonneg h]
 exact ⟨(z % 5).toNat, by omega, by omega⟩
end Go.Proofs.YtjdjhlmcbffocaaGreatDoor
namespace Go.Proofs.YtjdjhlmcbffocaaGreatDoor
open Go.ChangeShapes Go.WideShapes Go.ChangeAt Go.RowKit
theorem own : ownKnob Tryz.prog.godebug = none := by kernel_rfl
theorem cells24 : Tryz.prog.cellsOf 30 = 1 := by kernel_rfl
/-- The variables that every row of this layer lists. -/
def laidAll : List (String × DataW Unit) := [("math/bits.deBruijn32tab", Rows.laid_math_bits_deBruijn32tab), ("math/bits.deBruijn64tab", Rows.laid_math_bits_deBruijn64tab), ("internal/strconv.uint64pow10", Rows.laid_internal_strconv_uint64pow10)]
theorem gPow : Tryz.prog.globalNamed "internal/strconv.uint64pow10" = some 3 := by kernel_rfl
theorem gPowType : (Tryz.prog.globals[3]?).map (·.type) = some 307 := by kernel_rfl
theorem cells20 : Tryz.prog.cellsOf 307 = 20 := by kernel_rfl
theorem tab_of {W : World} (h : laidMetH Tryz.prog laidAll W) : Tab W := by
 have h1 := laidMetH.filter (fun x => x.1 == "internal/strconv.uint64pow10") h
 have e : laidAll.filter (fun x => x.1 == "internal/strconv.uint64pow10") = [("internal/strconv.uint64pow10", Rows.laid_internal_strconv_uint64pow10)] := by kernel_rfl
 rw [e, MakeChecks.laidMetH_plain _ _ _ (by kernel_rfl)] at h1
 exact Lib.tabIs_of_head (rest := []) gPow gPowType Tryz.underlying307 Tryz.underlying30 cells24 cells20 (show laidMet Tryz.prog (("internal/strconv.uint64pow10", Lib.tabData .u64 Lib.pow10Tab) :: []) W from h1)
end Go.Proofs.YtjdjhlmcbffocaaGreatDoor
namespace Go.Proofs.YtjdjhlmcbffocaaGreatDoor
open Go.ChangeShapes Go.WideShapes Go.ChangeAt Go.RowKit Go.Joins
set_option maxRecDepth 100000 in
theorem cellsQ : Tryz.prog.cellsOf 40 = 2 := by kernel_rfl
theorem cellsI : Tryz.prog.cellsOf 2 = 1 := by kernel_rfl
theorem cellsU : Tryz.prog.cellsOf 38 = 1 := by kernel_rfl
end Go.Proofs.YtjdjhlmcbffocaaGreatDoor
namespace Go.Proofs.YtjdjhlmcbffocaaGreatDoor
open Go.ChangeShapes Go.WideShapes Go.ChangeAt Go.RowKit Go.Joins
section
variable {H : Type} {enc : TypeId × Value → H} {P : Program} {w : World} {base : Nat} {spare : Nat → Bool} {held : Bool}
end
theorem addaddV (a : Addr) (i j : Nat) : (a.add i).add j = a.add (i + j) := by
 unfold Addr.add
 by_cases h : i = 0
 ·subst h; simp
 ·by_cases h2 : j = 0
  ·subst h2; simp [h]
  ·simp [h, h2, Nat.add_assoc]
set_option maxRecDepth 100000 in
theorem qv_of {H : Type} {enc : TypeId × Value → H} {W : World} {base : Nat} {v : Value} {d : DataW H} {p : List MemPlace} (hv : Value.okWide Tryz.prog W .any base 22 v)
  (h : DataW.Trod enc Tryz.prog W 0 (fun _ => true) true 22 v d p) : ∃ a n c l, v = .slice a n c ∧ QV W (.slice a n c) l := by
 obtain ⟨a0, len, cap, rfl⟩ := okWide_slice Tryz.underlying22 hv
 obtain ⟨fuel, hf⟩ := h
 rcases Go.Deep.open_slice_pairs Tryz.underlying22 Tryz.underlying40 cellsQ rfl rfl cellsI cellsU hf with ⟨hcs, hx⟩ | ⟨a, len', cap', m, n, V0, V1, D0, D1, P0, P1, hcs, _, hl, _, hm, hx, hcell⟩
 ·simp [Value.cells] at hcs
  obtain ⟨rfl, rfl, rfl⟩ := hcs
  exact ⟨none, 0, 0, [], rfl, none, 0, rfl, Nat.le_refl _, fun _ => rfl, fun h => absurd h (Nat.lt_irrefl _)⟩
 ·simp [Value.cells] at hcs
  obtain ⟨rfl, rfl, rfl⟩ := hcs
  simp only [if_true] at hm
  by_cases h0 : len = 0
  ·subst h0
   exact ⟨some a, 0, cap, [], rfl, some a, cap, rfl, Nat.zero_le _, (fun h => by cases h), fun h => absurd h (Nat.lt_irrefl _)⟩
  have each : ∀ i, i < len → ∃ z : Int × Int, W.cell? (a.add (i * 2)) = some (.int .i64 z.1) ∧ W.cell? ((a.add (i * 2)).add 1) = some (.int .u32 z.2) ∧ (-9223372036854775808 ≤ z.1 ∧ z.1 < 9223372036854775808) ∧ 0 ≤ z.2 ∧ z.2 < 4294967296 := by
   intro i hi
   obtain ⟨e0, e1, g0, g1⟩ := hcell i (by omega)
   obtain ⟨x, y0, -, f0⟩ := DataW.trod_int Tryz.underlying2 g0
   obtain ⟨y, y1, -, f1⟩ := DataW.trod_int Tryz.underlying38 g1
   simp only [List.cons.injEq, and_true] at y0 y1
   rw [y0] at e0
   rw [y1] at e1
   have b0 := bounds_i64 f0
   have b1 := bounds_u32 f1
   exact ⟨(x, y), e0, by rw [addaddV]; exact e1, by omega, by omega⟩
  obtain ⟨q, hq⟩ := Go.Deep.choose_lt each
  refine ⟨some a, len, cap, (List.range len).map q, rfl, some a, cap, by simp, by simpa using hl, (fun h => by cases h), fun _ => ⟨a, rfl, fun i hi => ?_, fun i hi => ?_, fun z hz => ?_, ?_⟩⟩
  ·have hi' : i < len := by simpa using hi
   have := (hq i hi').1
   simpa using this
  ·have hi' : i < len := by simpa using hi
   have := (hq i hi').2.1
   simpa using this
  ·obtain ⟨i, hi, rfl⟩ := List.mem_map.1 hz
   exact (hq i (List.mem_range.1 hi)).2.2
  ·have e := (hq 0 (by omega)).1
   have := World.block_lt_of_cell? W _ e
   rw [add_blk] at this
   exact this
end Go.Proofs.YtjdjhlmcbffocaaGreatDoor
namespace Go.Proofs.YtjdjhlmcbffocaaGreatDoor
open Go.ChangeShapes Go.WideShapes Go.ChangeAt Go.RowKit Go.Joins
section
variable {H : Type} {enc : TypeId × Value → H} {P : Program} {w : World} {base : Nat} {spare : Nat → Bool} {held : Bool}
end
set_option maxRecDepth 100000 in
theorem qv_of_trod {H : Type} {enc : TypeId × Value → H} {W : World} {fuel : Nat} {v : Value} {y : DataW H × List MemPlace}
  (hf : DataW.trod enc Tryz.prog W 0 (fun _ => true) true fuel 22 [v] = some y) : ∃ a n c l, v = .slice a n c ∧ QV W (.slice a n c) l := by
 obtain ⟨d, p⟩ := y
 rcases Go.Deep.open_slice_pairs Tryz.underlying22 Tryz.underlying40 cellsQ rfl rfl cellsI cellsU hf with ⟨hcs, hx⟩ | ⟨a, len, cap, m, n, V0, V1, D0, D1, P0, P1, hcs, _, hl, _, hm, hx, hcell⟩
 ·simp only [List.cons.injEq, and_true] at hcs
  subst hcs
  exact ⟨none, 0, 0, [], rfl, none, 0, rfl, Nat.le_refl _, fun _ => rfl, fun h => absurd h (Nat.lt_irrefl _)⟩
 ·simp only [List.cons.injEq, and_true] at hcs
  subst hcs
  simp only [if_true] at hm
  by_cases h0 : len = 0
  ·subst h0
   exact ⟨some a, 0, cap, [], rfl, some a, cap, rfl, Nat.zero_le _, (fun h => by cases h), fun h => absurd h (Nat.lt_irrefl _)⟩
  have each : ∀ i, i < len → ∃ z : Int × Int, W.cell? (a.add (i * 2)) = some (.int .i64 z.1) ∧ W.cell? ((a.add (i * 2)).add 1) = some (.int .u32 z.2) ∧ (-9223372036854775808 ≤ z.1 ∧ z.1 < 9223372036854775808) ∧ 0 ≤ z.2 ∧ z.2 < 4294967296 := by
   intro i hi
   obtain ⟨e0, e1, g0, g1⟩ := hcell i (by omega)
   obtain ⟨x, y0, -, f0⟩ := DataW.trod_int Tryz.underlying2 g0
   obtain ⟨y, y1, -, f1⟩ := DataW.trod_int Tryz.underlying38 g1
   simp only [List.cons.injEq, and_true] at y0 y1
   rw [y0] at e0
   rw [y1] at e1
   have b0 := bounds_i64 f0
   have b1 := bounds_u32 f1
   exact ⟨(x, y), e0, by rw [addaddV]; exact e1, by omega, by omega⟩
  obtain ⟨q, hq⟩ := Go.Deep.choose_lt each
  refine ⟨some a, len, cap, (List.range len).map q, rfl, some a, cap, by simp, by simpa using hl, (fun h => by cases h), fun _ => ⟨a, rfl, fun i hi => ?_, fun i hi => ?_, fun z hz => ?_, ?_⟩⟩
  ·have hi' : i < len := by simpa using hi
   have := (hq i hi').1
   simpa using this
  ·have hi' : i < len := by simpa using hi
   have := (hq i hi').2.1
   simpa using this
  ·obtain ⟨i, hi, rfl⟩ := List.mem_map.1 hz
   exact (hq i (List.mem_range.1 hi)).2.2
  ·have e := (hq 0 (by omega)).1
   have := World.block_lt_of_cell? W _ e
   rw [add_blk] at this
   exact this
theorem cellsM : Tryz.prog.cellsOf 51 = 3 := by kernel_rfl
set_option maxRecDepth 100000 in
theorem m_of {H : Type} {enc : TypeId × Value → H} {W : World} {base : Nat} {v : Value} {d : DataW H} {p : List MemPlace} (hv : Value.okWide Tryz.prog W .any base 51 v)
  (h : DataW.Trod enc Tryz.prog W 0 (fun _ => true) true 51 v d p) : ∃ (x y : Int) (a : Option Addr) (n c : Nat) (l : List (Int × Int)), v = .agg #[.int .u8 x, .int .u8 y, .slice a n c] ∧ (0 ≤ x ∧ x < 256) ∧ (0 ≤ y ∧ y < 256) ∧ QV W (.slice a n c) l := by
 obtain ⟨v0, v1, v2, y0, y1, y2, m, rfl, rfl, rfl, h0, h1, h2⟩ := open_agg3 Tryz.underlying51 (by kernel_rfl) cellsM hv h
 obtain ⟨x, e0, -, f0⟩ := DataW.trod_int Tryz.underlying5 h0
 obtain ⟨y, e1, -, f1⟩ := DataW.trod_int Tryz.underlying5 h1
 simp only [List.cons.injEq, and_true] at e0 e1
 subst e0 e1
 obtain ⟨a, n, c, l, rfl, hq⟩ := qv_of_trod h2
 have b0 := bounds_u8 f0
 have b1 := bounds_u8 f1
 exact ⟨x, y, a, n, c, l, rfl, by omega, by omega, hq⟩
end Go.Proofs.YtjdjhlmcbffocaaGreatDoor
