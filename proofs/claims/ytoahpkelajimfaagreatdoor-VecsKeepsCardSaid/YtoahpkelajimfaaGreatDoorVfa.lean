/-
  The law answers true at every input, and leaves its arguments as they were: a part of the proof. CONDITIONS: the package-level tables start as the program's text lays them (the card ties them).
-/
import Derived.Test.YtoahpkelajimfaaGreatDoorZad
import Derived.Test.YtoahpkelajimfaaGreatDoorRows
import Derived.Test.YtoahpkelajimfaaGreatDoorTie
import Derived.Test.YtoahpkelajimfaaGreatDoorCards
set_option linter.unusedVariables false
set_option linter.unusedSimpArgs false
namespace Go.Proofs
open Go.Shelf
def Tryz.lays169_ren : Go.Shelf.Ren := ⟨fun | 169 => 117 | n => n, fun | 70 => 139 | 9 => 9 | 0 => 0 | 72 => 142 | 37 => 140 | 127 => 184 | 3 => 3 | 5 => 5 | n => n, fun | n => n⟩
theorem Tryz.lays169 : Go.Proofs.Lays.n169 Tryz.prog Tryz.lays169_ren := {
 mixed := by kernel_rfl
 f169 := Tryz.func117.trans (congrArg some (by kernel_rfl))
 t0 := Tryz.underlying0
 a0 := Tryz.isAgg0
 z0 := Tryz.sizeOf0
 v0 := Tryz.zeroValue0
 t3 := Tryz.underlying3
 a3 := Tryz.isAgg3
 z3 := Tryz.sizeOf3
 v3 := Tryz.zeroValue3
 t9 := Tryz.underlying9
 a9 := Tryz.isAgg9
 z9 := Tryz.sizeOf9
 v9 := Tryz.zeroValue9
 t37 := Tryz.underlying140
 a37 := Tryz.isAgg140
 z37 := Tryz.sizeOf140
 v37 := Tryz.zeroValue140
 t70 := Tryz.underlying139
 a70 := Tryz.isAgg139
 z70 := Tryz.sizeOf139
 v70 := Tryz.zeroValue139
 t72 := Tryz.underlying142
 a72 := Tryz.isAgg142
 z72 := Tryz.sizeOf142
 v72 := Tryz.zeroValue142
 t127 := Tryz.underlying184
 a127 := Tryz.isAgg184
 z127 := Tryz.sizeOf184
 v127 := Tryz.zeroValue184 }
theorem Tryz.Builder_Extra_169 : Builder.Extra Tryz.prog Tryz.lays169_ren := {
 sizeBuilder := by kernel_rfl
 liesBuilder := by kernel_rfl
 t5 := Tryz.underlying5
 a5 := Tryz.isAgg5
 z5 := Tryz.sizeOf5
 v5 := Tryz.zeroValue5
 infoByte := by kernel_rfl
 cellsByte := by kernel_rfl
 sizeByte := by kernel_rfl
 neB5 := by decide }
def Tryz.lays156_ren : Go.Shelf.Ren := ⟨fun | 156 => 101 | 165 => 140 | 166 => 115 | 169 => 117 | 240 => 151 | 241 => 166 | 276 => 173 | 277 => 184 | n => n, fun | 31 => 127 | 9 => 9 | 3 => 3 | 4 => 4 | 0 => 0 | 20 => 20 | 72 => 142 | 76 => 145 | 70 => 139 | 37 => 140 | 75 => 144 | 127 => 184 | 164 => 204 | 5 => 5 | 80 => 148 | n => n, fun | n => n⟩
theorem Tryz.lays156 : Go.Proofs.Lays.n156 Tryz.prog Tryz.lays156_ren := {
 mixed := by kernel_rfl
 f156 := Tryz.func101.trans (congrArg some (by kernel_rfl))
 f165 := Tryz.func140.trans (congrArg some (by kernel_rfl))
 f166 := Tryz.func115.trans (congrArg some (by kernel_rfl))
 f169 := Tryz.func117.trans (congrArg some (by kernel_rfl))
 f240 := Tryz.func151.trans (congrArg some (by kernel_rfl))
 f241 := Tryz.func166.trans (congrArg some (by kernel_rfl))
 f276 := Tryz.func173.trans (congrArg some (by kernel_rfl))
 f277 := Tryz.func184.trans (congrArg some (by kernel_rfl))
 t0 := Tryz.underlying0
 a0 := Tryz.isAgg0
 z0 := Tryz.sizeOf0
 v0 := Tryz.zeroValue0
 t3 := Tryz.underlying3
 a3 := Tryz.isAgg3
 z3 := Tryz.sizeOf3
 v3 := Tryz.zeroValue3
 t4 := Tryz.underlying4
 a4 := Tryz.isAgg4
 z4 := Tryz.sizeOf4
 v4 := Tryz.zeroValue4
 t9 := Tryz.underlying9
 a9 := Tryz.isAgg9
 z9 := Tryz.sizeOf9
 v9 := Tryz.zeroValue9
 t20 := Tryz.underlying20
 a20 := Tryz.isAgg20
 z20 := Tryz.sizeOf20
 v20 := Tryz.zeroValue20
 t31 := Tryz.underlying127
 a31 := Tryz.isAgg127
 z31 := Tryz.sizeOf127
 v31 := Tryz.zeroValue127
 t37 := Tryz.underlying140
 a37 := Tryz.isAgg140
 z37 := Tryz.sizeOf140
 v37 := Tryz.zeroValue140
 t70 := Tryz.underlying139
 a70 := Tryz.isAgg139
 z70 := Tryz.sizeOf139
 v70 := Tryz.zeroValue139
 t72 := Tryz.underlying142
 a72 := Tryz.isAgg142
 z72 := Tryz.sizeOf142
 v72 := Tryz.zeroValue142
 t75 := Tryz.underlying144
 a75 := Tryz.isAgg144
 z75 := Tryz.sizeOf144
 v75 := Tryz.zeroValue144
 t76 := Tryz.underlying145
 a76 := Tryz.isAgg145
 z76 := Tryz.sizeOf145
 v76 := Tryz.zeroValue145
 t127 := Tryz.underlying184
 a127 := Tryz.isAgg184
 z127 := Tryz.sizeOf184
 v127 := Tryz.zeroValue184
 t164 := Tryz.underlying204
 a164 := Tryz.isAgg204
 z164 := Tryz.sizeOf204
 v164 := Tryz.zeroValue204 }
theorem Tryz.Builder_Extra_156 : Builder.Extra Tryz.prog Tryz.lays156_ren := {
 sizeBuilder := by kernel_rfl
 liesBuilder := by kernel_rfl
 t5 := Tryz.underlying5
 a5 := Tryz.isAgg5
 z5 := Tryz.sizeOf5
 v5 := Tryz.zeroValue5
 infoByte := by kernel_rfl
 cellsByte := by kernel_rfl
 sizeByte := by kernel_rfl
 neB5 := by decide }
open Go.RowKit in
/-- No element: the empty string; the world is as it was. (Whatever the slice's address and capacity: a nil slice too.) (LAID: no walk: one application.) -/
theorem Tryz.strings_Join_none (a : Option Addr) (c : Nat) (sep : ByteArray) (w : World) :
  Calls Tryz.prog 101 #[.slice a 0 c, .string sep] w fun e w' => e = .returned (.string ⟨#[]⟩) ∧ w' = w := Any.strings_Join_none Tryz.lays156 Tryz.Builder_Extra_156 a c sep w
open Go.RowKit in
/-- strings.Join: "Join concatenates the elements of its first argument to create a single string. The separator string sep is placed between elements in the resulting string.": HOWEVER MANY ELEMENTS. Below the heap's end the world is as it was. (LAID: no walk: one application.) -/
theorem Tryz.strings_Join (bk o c : Nat) (xs : List ByteArray) (sep : ByteArray) (w : World) (hcells : ∀ (j : Nat) x, xs[j]? = some x → w.cell? ⟨bk, o + j, none⟩ = some (.string x)) (hbk : bk < w.heap.size) (hN : xs.length ≤ 140737488355328) (hcap : xs.length ≤ c) (hlen : (Lib.join (xs.map (·.data.toList)) sep.data.toList).length ≤ 140737488355328) :
  Calls Tryz.prog 101 #[.slice (some ⟨bk, o, none⟩) xs.length c, .string sep] w fun e w' => e = .returned (.string ⟨(Lib.join (xs.map (·.data.toList)) sep.data.toList).toArray⟩) ∧ Below w.heap.size w w' := Any.strings_Join Tryz.lays156 Tryz.Builder_Extra_156 bk o c xs sep w hcells hbk hN hcap hlen
open Go.RowKit in
/-- (*strings.Builder).String: "String returns the accumulated string.": WHATEVER THE BUILDER HOLDS; THE FORM '_k': OVER 'Lib.IsBuilderF' (a builder that 'String()' may have read), AND WITH THE FRAME THAT REACHES ABOVE THE BUILDER: 'Lib.OthersKept': every block that is not b and is no row of uint8's stands as it stood: the iterator of a range among them. (LAID: no walk: one application.) -/
theorem Tryz.Builder_String_any_k (B b : Nat) (l : List UInt8) (w : World) (h : Lib.IsBuilderF 142 5 B b (Lib.byteCells l) w) (hBw : B ≤ w.heap.size) :
  Calls Tryz.prog 117 #[.pointer (some ⟨b, 0, none⟩)] w fun e w' => e = .returned (.string ⟨l.toArray⟩) ∧ (Lib.IsBuilderF 142 5 B b (Lib.byteCells l) w' ∧ Below B w w' ∧ Lib.OthersKept 5 (some b) w w') := Any.Builder_String_any_k Tryz.lays169 Tryz.Builder_Extra_169 B b l w h hBw
def Tryz.lays283_ren : Go.Shelf.Ren := ⟨fun | 283 => 168 | n => n, fun | 3 => 3 | 9 => 9 | 4 => 4 | n => n, fun | n => n⟩
theorem Tryz.lays283 : Go.Proofs.Lays.n283 Tryz.prog Tryz.lays283_ren := {
 mixed := by kernel_rfl
 f283 := Tryz.func168.trans (congrArg some (by kernel_rfl))
 t3 := Tryz.underlying3
 a3 := Tryz.isAgg3
 z3 := Tryz.sizeOf3
 v3 := Tryz.zeroValue3
 t4 := Tryz.underlying4
 a4 := Tryz.isAgg4
 z4 := Tryz.sizeOf4
 v4 := Tryz.zeroValue4
 t9 := Tryz.underlying9
 a9 := Tryz.isAgg9
 z9 := Tryz.sizeOf9
 v9 := Tryz.zeroValue9 }
open Go.Lib in
/-- internal/strconv.small: "small returns the string for an i with 0 <= i < nSmalls.": i's decimal numeral. The world is as it was. (LAID: no walk: one application.) -/
theorem Tryz.internal_strconv_small (i : Nat) (h : i < 100) (w : World) :
  Calls Tryz.prog 168 #[.int .i64 i] w fun e w' => e = .returned (.string ⟨(Lib.decDigits i).toArray⟩) ∧ w' = w := Any.internal_strconv_small Tryz.lays283 i h w
def Tryz.laysM284_ren : Go.Shelf.Ren := ⟨fun | 284 => 169 | 129 => 186 | 317 => 185 | 318 => 187 | n => n, fun | 53 => 32 | 3 => 3 | 212 => 220 | 0 => 0 | 4 => 4 | 46 => 179 | 5 => 5 | 9 => 9 | n => n, fun | 17 => 2 | n => n⟩
theorem Tryz.laysM284 : Go.Proofs.LaysM.n284 Tryz.prog Tryz.laysM284_ren := {
 mixed := by kernel_rfl
 f129 := Tryz.func186.trans (congrArg some (by kernel_rfl))
 f284 := Tryz.func169.trans (congrArg some (by kernel_rfl))
 f317 := Tryz.func185.trans (congrArg some (by kernel_rfl))
 f318 := Tryz.func187.trans (congrArg some (by kernel_rfl))
 t0 := Tryz.underlying0
 a0 := Tryz.isAgg0
 z0 := Tryz.sizeOf0
 v0 := Tryz.zeroValue0
 t3 := Tryz.underlying3
 a3 := Tryz.isAgg3
 z3 := Tryz.sizeOf3
 v3 := Tryz.zeroValue3
 t4 := Tryz.underlying4
 a4 := Tryz.isAgg4
 z4 := Tryz.sizeOf4
 v4 := Tryz.zeroValue4
 t5 := Tryz.underlying5
 a5 := Tryz.isAgg5
 z5 := Tryz.sizeOf5
 v5 := Tryz.zeroValue5
 t9 := Tryz.underlying9
 a9 := Tryz.isAgg9
 z9 := Tryz.sizeOf9
 v9 := Tryz.zeroValue9
 t46 := Tryz.underlying179
 a46 := Tryz.isAgg179
 z46 := Tryz.sizeOf179
 v46 := Tryz.zeroValue179
 t53 := Tryz.underlying32
 a53 := Tryz.isAgg32
 z53 := Tryz.sizeOf32
 v53 := Tryz.zeroValue32
 t212 := Tryz.underlying220
 a212 := Tryz.isAgg220
 z212 := Tryz.sizeOf220
 v212 := Tryz.zeroValue220
 g17 := by kernel_rfl
 i0 := by kernel_rfl
 i3 := by kernel_rfl
 i4 := by kernel_rfl
 i5 := by kernel_rfl
 i9 := by kernel_rfl
 i46 := by kernel_rfl
 i53 := by kernel_rfl
 i212 := by kernel_rfl
 m17 := by kernel_rfl }
open Go.Lib in
/-- internal/strconv.numDigits, at a d that is not 0: THE NUMBER OF d's DECIMAL DIGITS. The world is as it was. (LAID: no walk: one application.) -/
theorem Tryz.internal_strconv_numDigits (u : Nat) (h1 : 1 ≤ u) (h2 : u < 18446744073709551616) (w : World) (htab : Lib.TabIs Tryz.prog w "internal/strconv.uint64pow10" .u64 Lib.pow10Tab) :
  Calls Tryz.prog 169 #[.int .u64 u] w fun e w' => e = .returned (.int .i64 (Lib.nDigits u)) ∧ w' = w := Any.internal_strconv_numDigits Tryz.laysM284 u h1 h2 w htab
def Tryz.lays285_ren : Go.Shelf.Ren := ⟨fun | 285 => 170 | n => n, fun | 37 => 140 | 53 => 32 | 3 => 3 | 4 => 4 | 51 => 22 | 9 => 9 | 5 => 5 | 0 => 0 | n => n, fun | n => n⟩
theorem Tryz.lays285 : Go.Proofs.Lays.n285 Tryz.prog Tryz.lays285_ren := {
 mixed := by kernel_rfl
 f285 := Tryz.func170.trans (congrArg some (by kernel_rfl))
 t0 := Tryz.underlying0
 a0 := Tryz.isAgg0
 z0 := Tryz.sizeOf0
 v0 := Tryz.zeroValue0
 t3 := Tryz.underlying3
 a3 := Tryz.isAgg3
 z3 := Tryz.sizeOf3
 v3 := Tryz.zeroValue3
 t4 := Tryz.underlying4
 a4 := Tryz.isAgg4
 z4 := Tryz.sizeOf4
 v4 := Tryz.zeroValue4
 t5 := Tryz.underlying5
 a5 := Tryz.isAgg5
 z5 := Tryz.sizeOf5
 v5 := Tryz.zeroValue5
 t9 := Tryz.underlying9
 a9 := Tryz.isAgg9
 z9 := Tryz.sizeOf9
 v9 := Tryz.zeroValue9
 t37 := Tryz.underlying140
 a37 := Tryz.isAgg140
 z37 := Tryz.sizeOf140
 v37 := Tryz.zeroValue140
 t51 := Tryz.underlying22
 a51 := Tryz.isAgg22
 z51 := Tryz.sizeOf22
 v51 := Tryz.zeroValue22
 t53 := Tryz.underlying32
 a53 := Tryz.isAgg32
 z53 := Tryz.sizeOf32
 v53 := Tryz.zeroValue32 }
open Go.RowKit Go.Sort Go.Lib in
/-- internal/strconv.formatBase10: "formatBase10 formats the decimal representation of u into a. The caller is responsible for ensuring that a is big enough to hold u. If a is too big, leading zeros will be filled in as needed.": THE ROW HOLDS u's DIGITS ('FmtInv .. 0 ..': every place t holds 'dg u (len - 1 - t)'); all else is as it was but for the count of draws. (LAID: no walk: one application.) -/
theorem Tryz.internal_strconv_formatBase10 (blk off cap : Nat) (u : Nat) (d : Array UInt8) (w : World) (hH : Holds (fun (b : UInt8) => Value.int .u8 (b.toNat : Int)) w blk off d) (hu : u < 10 ^ d.size) (hu64 : u < 18446744073709551616) (hsz : d.size < 4611686018427387904) :
  Calls Tryz.prog 170 #[.slice (some ⟨blk, off, none⟩) d.size cap, .int .u64 u] w fun e w' =>
   e = .returned (.tuple #[]) ∧ ∃ (n v' : Nat) (dk : Array UInt8), w' = (putRow (fun (b : UInt8) => Value.int .u8 (b.toNat : Int)) w blk off dk).drewN n ∧ FmtInv d.size u 0 v' dk := Any.internal_strconv_formatBase10 Tryz.lays285 blk off cap u d w hH hu hu64 hsz
def Tryz.lays99_ren : Go.Shelf.Ren := ⟨fun | 99 => 153 | 206 => 175 | n => n, fun | 9 => 9 | 4 => 4 | 3 => 3 | n => n, fun | n => n⟩
theorem Tryz.lays99 : Go.Proofs.Lays.n99 Tryz.prog Tryz.lays99_ren := {
 mixed := by kernel_rfl
 f99 := Tryz.func153.trans (congrArg some (by kernel_rfl))
 f206 := Tryz.func175.trans (congrArg some (by kernel_rfl))
 t3 := Tryz.underlying3
 a3 := Tryz.isAgg3
 z3 := Tryz.sizeOf3
 v3 := Tryz.zeroValue3
 t4 := Tryz.underlying4
 a4 := Tryz.isAgg4
 z4 := Tryz.sizeOf4
 v4 := Tryz.zeroValue4
 t9 := Tryz.underlying9
 a9 := Tryz.isAgg9
 z9 := Tryz.sizeOf9
 v9 := Tryz.zeroValue9 }
open Go.RowKit Go.Lib in
/-- strings.HasPrefix: "HasPrefix reports whether the string s begins with prefix.": IT RETURNS 'Lib.hasPrefix s prefix'; the world is as it was. (LAID: no walk: one application.) -/
theorem Tryz.strings_HasPrefix (s p : ByteArray) (w : World) :
  Calls Tryz.prog 153 #[.string s, .string p] w fun e w' => e = .returned (.bool (Lib.hasPrefix s.data.toList p.data.toList)) ∧ w' = w := Any.strings_HasPrefix Tryz.lays99 s p w
def Tryz.lays212_ren : Go.Shelf.Ren := ⟨fun | 212 => 152 | 263 => 174 | 264 => 133 | n => n, fun | 46 => 179 | 51 => 22 | 146 => 206 | 53 => 32 | 148 => 161 | n => n, fun | n => n⟩
theorem Tryz.lays212 : Go.Proofs.Lays.n212 Tryz.prog Tryz.lays212_ren := {
 mixed := by kernel_rfl
 f212 := Tryz.func152.trans (congrArg some (by kernel_rfl))
 f263 := Tryz.func174.trans (congrArg some (by kernel_rfl))
 f264 := Tryz.func133.trans (congrArg some (by kernel_rfl))
 t46 := Tryz.underlying179
 a46 := Tryz.isAgg179
 z46 := Tryz.sizeOf179
 v46 := Tryz.zeroValue179
 t51 := Tryz.underlying22
 a51 := Tryz.isAgg22
 z51 := Tryz.sizeOf22
 v51 := Tryz.zeroValue22
 t53 := Tryz.underlying32
 a53 := Tryz.isAgg32
 z53 := Tryz.sizeOf32
 v53 := Tryz.zeroValue32
 t146 := Tryz.underlying206
 a146 := Tryz.isAgg206
 z146 := Tryz.sizeOf206
 v146 := Tryz.zeroValue206
 t148 := Tryz.underlying161
 a148 := Tryz.isAgg161
 z148 := Tryz.sizeOf161
 v148 := Tryz.zeroValue161 }
open Go.RowKit Go.Lib in
/-- math/bits.Mul: "Mul returns the full-width product of x and y": on a machine of 64 bits: Mul64's. (LAID: no walk: one application.) -/
theorem Tryz.bits_Mul (x y : Nat) (hx : x < 18446744073709551616) (hy : y < 18446744073709551616) (w : World) :
  Calls Tryz.prog 152 #[.int .u64 x, .int .u64 y] w fun e w' => e = .returned (.tuple #[.int .u64 ((x * y / 18446744073709551616 : Nat) : Int), .int .u64 ((x * y % 18446744073709551616 : Nat) : Int)]) ∧ w' = w := Any.bits_Mul Tryz.lays212 x y hx hy w
end Go.Proofs
namespace Go.Proofs.YtoahpkelajimfaaGreatDoor
open Go.Lib (decDigits nDigits)
theorem dec_small {u : Nat} (h : u < 10) : decDigits u = [dch u] := by rw [decDigits, dif_pos h]; rfl
theorem pad_zero : ∀ k, pad k 0 = List.replicate k 48
 | 0 => rfl
 | k + 1 => by
  rw [pad, show 0 / 10 = 0 from rfl, pad_zero k]
  show List.replicate k 48 ++ [48] = _
  rw [← List.replicate_succ']
theorem pad_eq : ∀ (k r : Nat), 0 < k → r < 10 ^ k → pad k r = List.replicate (k - (decDigits r).length) 48 ++ decDigits r ∧ (decDigits r).length ≤ k
 | k + 1, r, _, hr => by
  rcases Nat.lt_or_ge r 10 with h | h
  ·rw [pad, show r / 10 = 0 by omega, show r % 10 = r by omega, pad_zero, dec_small h]
   exact ⟨rfl, by show 1 ≤ k + 1; omega⟩
  ·have hk : 0 < k := by
    rcases Nat.eq_zero_or_pos k with rfl | h'
    ·rw [Nat.pow_succ, Nat.pow_zero] at hr; omega
    ·exact h'
   rw [Nat.pow_succ] at hr
   obtain ⟨h1, h2⟩ := pad_eq k (r / 10) hk (by omega)
   rw [pad, h1, dec_big (by omega : ¬ r < 10), List.length_append, List.append_assoc]
   refine ⟨?_, by show _ + 1 ≤ k + 1; omega⟩
   congr 2
   show _ = k + 1 - (_ + 1)
   omega
theorem dec_length_pos (n : Nat) : 0 < (decDigits n).length := by
 rcases Nat.lt_or_ge n 10 with h | h
 ·rw [dec_small h]; exact Nat.one_pos
 ·rw [dec_big (by omega), List.length_append]; exact Nat.lt_of_lt_of_le Nat.one_pos (Nat.le_add_left 1 _)
theorem dec_length_lt {n k : Nat} (hk : 0 < k) : (decDigits n).length ≤ k ↔ n < 10 ^ k := by
 induction k generalizing n with
 | zero => omega
 | succ k ih =>
  rcases Nat.lt_or_ge n 10 with h | h
  ·rw [dec_small h]
   have : 10 ≤ 10 ^ (k + 1) := by rw [Nat.pow_succ]; have := Nat.one_le_pow k 10 (by omega); omega
   exact ⟨fun _ => by omega, fun _ => by show 1 ≤ k + 1; omega⟩
  ·rw [dec_big (by omega), List.length_append, Nat.pow_succ]
   rcases Nat.eq_zero_or_pos k with rfl | h'
   ·have := dec_length_pos (n / 10)
    rw [Nat.pow_zero]
    constructor
    ·intro h1
     have h2 : (decDigits (n / 10)).length + 1 ≤ 0 + 1 := h1
     omega
    ·intro h1; omega
   ·have := ih (n := n / 10) h'
    constructor
    ·intro h1
     have h2 : (decDigits (n / 10)).length + 1 ≤ k + 1 := h1
     have := this.1 (by omega)
     omega
    ·intro h1
     have := this.2 (by omega)
     show _ + 1 ≤ k + 1
     omega
theorem CB_pow : CB = 10 ^ 19 := by unfold CB; rfl
theorem CB_pos : 0 < CB := by unfold CB; omega
theorem CB_gt : 1 < CB := by unfold CB; omega
theorem chunk_split (a k : Nat) : a / CB ^ k = a / CB ^ (k + 1) * CB + a / CB ^ k % CB := by
 rw [Nat.pow_succ, ← Nat.div_div_eq_div_mul]
 have := Nat.div_add_mod (a / CB ^ k) CB
 rw [Nat.mul_comm] at this
 exact this.symm
/-- One chunk more of the decimal form. -/
theorem chunk_dec (a k : Nat) (h : 0 < a / CB ^ (k + 1)) :
  decDigits (a / CB ^ k) = decDigits (a / CB ^ (k + 1)) ++ (List.replicate (19 - (decDigits (a / CB ^ k % CB)).length) 48 ++ decDigits (a / CB ^ k % CB))
   ∧ (decDigits (a / CB ^ k % CB)).length ≤ 19 := by
 have h1 : a / CB ^ k % CB < 10 ^ 19 := by rw [← CB_pow]; exact Nat.mod_lt _ CB_pos
 obtain ⟨h2, h3⟩ := pad_eq 19 (a / CB ^ k % CB) (by omega) h1
 refine ⟨?_, h3⟩
 rw [← h2, ← dec_mul_add 19 _ _ h h1, ← CB_pow, ← chunk_split]
/-- The first number of chunks that leaves nothing. -/
theorem chunk_top (a : Nat) (h : 0 < a) : ∃ k, 0 < a / CB ^ k ∧ a / CB ^ (k + 1) = 0 := by
 have h0 : ∃ n, a / CB ^ n = 0 := ⟨a, Nat.div_eq_of_lt (Nat.lt_pow_self CB_gt)⟩
 have key : ∀ n, a / CB ^ n = 0 → ∃ k, 0 < a / CB ^ k ∧ a / CB ^ (k + 1) = 0 := by
  intro n
  induction n with
  | zero => intro hn; rw [Nat.pow_zero, Nat.div_one] at hn; omega
  | succ n ih =>
   intro hn
   rcases Nat.eq_zero_or_pos (a / CB ^ n) with h1 | h1
   ·exact ih h1
   ·exact ⟨n, h1, hn⟩
 obtain ⟨n, hn⟩ := h0
 exact key n hn
end Go.Proofs.YtoahpkelajimfaaGreatDoor
namespace Go.Proofs.YtoahpkelajimfaaGreatDoor
open Go.RowKit
theorem hp_no (s : ByteArray) (h : Lib.hasPrefix s.data.toList [48] = false) (w : World) :
  Calls Tryz.prog 153 #[.string s, .string ⟨#[48]⟩] w fun e w' => e = .returned (.bool false) ∧ w' = w := by
 refine (Tryz.strings_HasPrefix s ⟨#[48]⟩ w).mono ?_
 rintro e w' ⟨rfl, rfl⟩
 exact ⟨by rw [show Lib.hasPrefix s.data.toList (⟨#[48]⟩ : ByteArray).data.toList = false from h], rfl⟩
theorem hp_yes (s : ByteArray) (h : Lib.hasPrefix s.data.toList [48] = true) (w : World) :
  Calls Tryz.prog 153 #[.string s, .string ⟨#[48]⟩] w fun e w' => e = .returned (.bool true) ∧ w' = w := by
 refine (Tryz.strings_HasPrefix s ⟨#[48]⟩ w).mono ?_
 rintro e w' ⟨rfl, rfl⟩
 exact ⟨by rw [show Lib.hasPrefix s.data.toList (⟨#[48]⟩ : ByteArray).data.toList = true from h], rfl⟩
theorem rep_extract_fin : ∀ k : Fin 65, (⟨(List.replicate 64 (48 : UInt8)).toArray⟩ : ByteArray).extract 0 k.val = ⟨(List.replicate k.val (48 : UInt8)).toArray⟩ := by decide +kernel
theorem rep_extract (s : ByteArray) (hs : s.data.toList = List.replicate 64 48) (k : Nat) (h : k ≤ 64) : s.extract 0 k = ⟨(List.replicate k (48 : UInt8)).toArray⟩ := by
 have e : s = ⟨(List.replicate 64 (48 : UInt8)).toArray⟩ := by
  cases s with
  | mk d => rw [show d = d.toList.toArray by simp, hs]
 rw [e]
 exact rep_extract_fin ⟨k, by omega⟩
set_option maxHeartbeats 2000000 in
set_option maxRecDepth 100000 in
theorem rep0_many (k : Nat) (h2 : 2 ≤ k) (h : k ≤ 64) (w : World) :
  Calls Tryz.prog 116 #[.string ⟨#[48]⟩, .int .i64 (k : Int)] w fun e w' => e = .returned (.string ⟨(List.replicate k (48 : UInt8)).toArray⟩) ∧ Below w.heap.size w w' := by
 have h0 : (k : Int) ≠ 0 := by omega
 have h1 : (k : Int) ≠ 1 := by omega
 have h3 : decide ((k : Int) < 0) = false := decide_eq_false (by omega)
 have h4 : decide ((k : Int) ≤ 64) = true := decide_eq_true (by omega)
 have hw : IntKind.u64.wrap (k : Int) = (k : Int) := by rw [IntKind.wrap_u64]; omega
 have hM := Lib.hid (fun w => Tryz.bits_Mul 1 k (by omega) (by omega) w)
 rw [Nat.one_mul, Nat.div_eq_of_lt (by omega), Nat.mod_eq_of_lt (by omega)] at hM
 go_enter Tryz.func116, Tryz.ntmps116
 go_wp2_with fail
 refine (hM.out _).mono ?_
 rintro e w1 ⟨rfl, rfl⟩
 clear hM
 have h5 : decide ((k : Int) ≤ 128) = true := decide_eq_true (by omega)
 go_wp2_with fail
 refine (hp_no _ (by decide +kernel) _).mono ?_
 rintro e w2 ⟨rfl, rfl⟩
 go_wp2_with fail
 refine (hp_no _ (by decide +kernel) _).mono ?_
 rintro e w3 ⟨rfl, rfl⟩
 go_wp2_with fail
 refine (hp_yes _ (by decide +kernel) _).mono ?_
 rintro e w4 ⟨rfl, rfl⟩
 go_wp2_with fail
 exact bodyPost_ret (v := .string ⟨(List.replicate k (48 : UInt8)).toArray⟩) (by simp [-List.toArray_replicate, results, Tryz.results116, go_sem]; exact rep_extract _ (by decide +kernel) k h) rfl ⟨rfl, Below.refl _ _⟩
set_option maxRecDepth 100000 in
theorem rep0_any (k : Nat) (h : k ≤ 64) (w : World) :
  Calls Tryz.prog 116 #[.string ⟨#[48]⟩, .int .i64 (k : Int)] w fun e w' => e = .returned (.string ⟨(List.replicate k (48 : UInt8)).toArray⟩) ∧ Below w.heap.size w w' := by
 rcases Nat.lt_or_ge k 2 with h2 | h2
 ·have h3 : k = 0 ∨ k = 1 := by omega
  rcases h3 with rfl | rfl
  ·go_enter Tryz.func116, Tryz.ntmps116
   go_wp2_with fail
   exact bodyPost_ret (v := .string ⟨#[]⟩) (by simp [results, Tryz.results116, go_sem]) rfl ⟨rfl, Below.refl _ _⟩
  ·go_enter Tryz.func116, Tryz.ntmps116
   go_wp2_with fail
   exact bodyPost_ret (v := .string ⟨#[48]⟩) (by simp [results, Tryz.results116, go_sem]) rfl ⟨rfl, Below.refl _ _⟩
 ·exact rep0_many k h2 h w
theorem holds0 (w : World) (T : TypeId) (nd : Nat) (hs : nd ≤ 24) : Sort.Holds (fun (b : UInt8) => Value.int .u8 (b.toNat : Int)) (w.alloc (.cells Lib.zeros24 T)) w.heap.size 0 (Array.replicate nd (0 : UInt8)) := fun j hj => by
 have hj' : j < nd := by simpa using hj
 refine ⟨?_, World.frozen?_alloc_new _ _ _ _⟩
 rw [World.cell?_alloc_new, Lib.zeros24_at _ (by omega), getElem!_pos _ j hj]
 simp
theorem fin0 (w : World) (o : Obj) (dk : Array UInt8) (k : Nat) : Below w.heap.size w ((Sort.putRow (fun (b : UInt8) => Value.int .u8 (b.toNat : Int)) (w.alloc o) w.heap.size 0 dk).drewN k) := by
 rw [Sort.alloc_eq_grow]
 obtain ⟨os', _, e⟩ := Sort.putRow_grow_new (fun (b : UInt8) => Value.int .u8 (b.toNat : Int)) w #[o] w.heap.size 0 dk (Nat.le_refl _)
 rw [e]
 refine ⟨rfl, rfl, rfl, ?_, ?_⟩
 ·show _ ≤ (w.heap ++ os').size
  rw [Array.size_append]; omega
 ·intro k hk
  show (w.heap ++ os')[k]? = _
  rw [Array.getElem?_append_left hk]
set_option maxHeartbeats 2000000 in
set_option maxRecDepth 100000 in
theorem fmtInner (u : Nat) (hu : u < Bs) (w : World) (htab : Tab w) :
  Calls Tryz.prog 148 #[.int .u64 (u : Int), .int .i64 10] w fun e w' => e = .returned (.string ⟨(Lib.decDigits u).toArray⟩) ∧ Below w.heap.size w w' := by
 have hu64 : u < 18446744073709551616 := hu
 rcases Nat.lt_or_ge u 100 with hs | hs
 ·go_enter Tryz.func148, Tryz.ntmps148
  go_wp2_with (go_at_call 168; refine (Tryz.internal_strconv_small u hs _).mono ?_; rintro e w' ⟨rfl, rfl⟩)
  exact bodyPost_ret (v := .string ⟨(Lib.decDigits u).toArray⟩) (by simp [results, Tryz.results148, go_sem]) rfl ⟨rfl, Below.refl _ _⟩
 ·have hu1 : 1 ≤ u := by omega
  have hnd20 : Lib.nDigits u ≤ 20 := by have := Lib.numDigits_eq u hu1 hu64; split at this <;> omega
  have hb3 : Lib.nDigits u ≤ 24 := by omega
  have hal : Tryz.prog.arrayLen 199 = 24 := by simp [Program.arrayLen, Tryz.underlying199]
  have hsl1 : ∀ W, (Instr.sliceAt 199 (.pointer (some ⟨w.heap.size, 0, none⟩)) none (some (.int .i64 (Lib.nDigits u : Int))) none).run Tryz.prog W = .ok (.slice (some ⟨w.heap.size, 0, none⟩) (Lib.nDigits u) 24) W := fun W => by
   rw [run_sliceAt_array_h W 199 ⟨w.heap.size, 0, none⟩ (by simp [Program.arrayLen, Program.elem, Tryz.underlying199]) .i64 (Lib.nDigits u : Int) (by omega) (by rw [hal]; omega)]
   go_simp
  have hH0 := holds0 w 199 (Lib.nDigits u) (by omega)
  have hfmt := Tryz.internal_strconv_formatBase10 w.heap.size 0 24 u (Array.replicate (Lib.nDigits u) 0) (w.alloc (.cells Lib.zeros24 199)) hH0 (by rw [Array.size_replicate]; exact Lib.lt_pow_nDigits u) hu64 (by rw [Array.size_replicate]; omega)
  rw [Array.size_replicate] at hfmt
  have HH0 := Lib.hid hH0
  clear hH0 hal
  have h100 : decide ((u : Int) < 100) = false := decide_eq_false (by omega)
  go_enter Tryz.func148, Tryz.ntmps148
  go_wp2_with (first
   | (go_at_call 169; refine (Tryz.internal_strconv_numDigits u hu1 hu64 _ (Lib.tabIs_alloc htab _)).mono ?_; rintro e w' ⟨rfl, rfl⟩))
  go_at_call 170
  refine hfmt.mono ?_
  rintro e w' ⟨rfl, k, v', dk, rfl, hF⟩
  have hcv : (convert 140 9 (.slice (some ⟨w.heap.size, 0, none⟩) (Lib.nDigits u) 24)).run Tryz.prog ((Sort.putRow (fun (b : UInt8) => Value.int .u8 (b.toNat : Int)) (w.alloc (.cells Lib.zeros24 199)) w.heap.size 0 dk).drewN k) = .ok (.string ⟨(Lib.decDigits u).toArray⟩) ((Sort.putRow (fun (b : UInt8) => Value.int .u8 (b.toNat : Int)) (w.alloc (.cells Lib.zeros24 199)) w.heap.size 0 dk).drewN k) := by
   have h := run_convert_bytes_back (P := Tryz.prog) ((Sort.putRow (fun (b : UInt8) => Value.int .u8 (b.toNat : Int)) (w.alloc (.cells Lib.zeros24 199)) w.heap.size 0 dk).drewN k) 140 9 5 ⟨w.heap.size, 0, none⟩ 24 (Lib.decDigits u) Tryz.underlying140 Tryz.underlying5 Tryz.underlying9 (fun j hj => by
    rw [Lib.row_is_numeral hF j hj, Lib.add_plain, World.cell?_drewN]
    exact Sort.cell?_putRow (fun (b : UInt8) => Value.int .u8 (b.toNat : Int)) _ w.heap.size 0 _ dk HH0.out (by rw [hF.size, Array.size_replicate]) j (by rw [hF.size]; rw [Lib.decDigits_length] at hj; exact hj))
   rw [Lib.decDigits_length] at h
   exact h
  have hb0 := fin0 w (.cells Lib.zeros24 199) dk k
  go_wp2
  exact bodyPost_ret (v := .string ⟨(Lib.decDigits u).toArray⟩) (by simp [results, Tryz.results148, go_sem]) rfl ⟨rfl, hb0⟩
set_option maxRecDepth 100000 in
theorem fmt_any (u : Nat) (hu : u < Bs) (w : World) (htab : Tab w) :
  Calls Tryz.prog 111 #[.int .u64 (u : Int), .int .i64 10] w fun e w' => e = .returned (.string ⟨(Lib.decDigits u).toArray⟩) ∧ Below w.heap.size w w' := by
 have H := Lib.hid (fmtInner u hu w htab)
 go_enter Tryz.func111, Tryz.ntmps111
 go_wp2_with fail
 refine H.out.mono ?_
 rintro e w1 ⟨rfl, hb⟩
 go_wp2_with fail
 exact bodyPost_ret (v := .string ⟨(Lib.decDigits u).toArray⟩) (by simp [results, Tryz.results111, go_sem]) rfl ⟨rfl, hb⟩
end Go.Proofs.YtoahpkelajimfaaGreatDoor
namespace Go.Proofs.YtoahpkelajimfaaGreatDoor
open Go.RowKit
theorem sizeB : (Tryz.prog.info? 142).map (fun i => i.size) = some 2 := by kernel_rfl
theorem liesB : liesAt Tryz.prog Tryz.prog.depth 142 (2 / Tryz.prog.cellsOf 142) 0 142 1 = true := by kernel_rfl
theorem infoU8 : (Tryz.prog.info? 5).map (fun i => (i.zero, i.size, i.bytes)) = some (some (.int .u8 0), 1, 1) := by kernel_rfl
set_option maxHeartbeats 1000000 in
set_option maxRecDepth 100000 in
theorem check_used (b : Nat) (w : World) (h0 : w.cell? ⟨b, 0, none⟩ = some (.pointer (some ⟨b, 0, none⟩))) :
  Calls Tryz.prog 151 #[.pointer (some ⟨b, 0, none⟩)] w fun e w' => e = .returned (.tuple #[]) ∧ w' = w := by
 obtain ⟨j, hj, _⟩ := Option.map_eq_some_iff.1 sizeB
 go_enter Tryz.func151, Tryz.ntmps151
 go_wp2
 rw [Lib.run_neq_ptr_same w _ Tryz.underlying139 hj]
 go_wp2
 go_end0
 exact ⟨rfl, rfl⟩
set_option maxHeartbeats 1000000 in
set_option maxRecDepth 100000 in
theorem check_fresh (b : Nat) (w : World) (h0 : w.cell? ⟨b, 0, none⟩ = some (.pointer none)) (hsh : w.shape? b = some (142, 2)) (hfz : w.frozen? ⟨b, 0, none⟩ = false) :
  Calls Tryz.prog 151 #[.pointer (some ⟨b, 0, none⟩)] w fun e w' => e = .returned (.tuple #[]) ∧ w' = w.setCell ⟨b, 0, none⟩ (.pointer (some ⟨b, 0, none⟩)) := by
 obtain ⟨j, hj, hjs⟩ := Option.map_eq_some_iff.1 sizeB
 go_enter Tryz.func151, Tryz.ntmps151
 go_wp2
 rw [Lib.run_to_unsafe w ⟨b, 0, none⟩ Tryz.underlying139 Tryz.underlying204 hj (by rw [hjs]; decide) hsh (Nat.zero_lt_succ 1)]
 simp only [Result.andThen]
 rw [Oper.upon_value]
 go_wp2
 rw [run_callFunc_extern Tryz.func173 (by kernel_rfl) (by kernel_rfl) (by kernel_rfl) (e := Extern.AbiNoEscape.same) (by kernel_rfl)]
 rw [Lib.run_noEscape]
 simp only [Result.andThen]
 rw [Oper.upon_value]
 go_wp2
 rw [Lib.run_from_unsafe w ⟨b, 0, none⟩ Tryz.underlying204 Tryz.underlying139 hj hsh liesB]
 simp only [Result.andThen]
 rw [Oper.upon_value]
 go_wp2
 go_end0
 exact ⟨rfl, rfl⟩
theorem check_any (B b : Nat) (bs : List Value) (w : World) (h : Lib.IsBuilderF 142 5 B b bs w) :
  Calls Tryz.prog 151 #[.pointer (some ⟨b, 0, none⟩)] w fun e w' => e = .returned (.tuple #[]) ∧ (Lib.BuilderAtF 142 5 B b (.pointer (some ⟨b, 0, none⟩)) bs w' ∧ Below B w w' ∧ Lib.OthersKept 5 (some b) w w') := by
 rcases h with h | h
 ·refine (check_fresh b w h.cell0 h.shape h.frozen0).mono ?_
  rintro e w' ⟨rfl, rfl⟩
  exact ⟨rfl, h.used _, (Below.refl B w).setCell (p := ⟨b, 0, none⟩) h.1 _, (Lib.OthersKept.refl _ _ w).setCell ⟨b, 0, none⟩ rfl _⟩
 ·refine (check_used b w h.cell0).mono ?_
  rintro e w' ⟨rfl, rfl⟩
  exact ⟨rfl, h, Below.refl B _, Lib.OthersKept.refl _ _ _⟩
set_option maxHeartbeats 2000000 in
set_option maxRecDepth 100000 in
theorem write_any (B b : Nat) (bs : List Value) (s : ByteArray) (w : World) (h : Lib.IsBuilderF 142 5 B b bs w) (hlen : bs.length + s.size ≤ 140737488355328) (hBw : B ≤ w.heap.size) :
  Calls Tryz.prog 115 #[.pointer (some ⟨b, 0, none⟩), .string s] w fun e w' => e = .returned (.tuple #[.int .i64 s.size, .nilIface]) ∧ (Lib.IsBuilderF 142 5 B b (bs ++ Lib.strCells s) w' ∧ Below B w w' ∧ Lib.OthersKept 5 (some b) w w') := by
 obtain ⟨i0, hi, hz0, hz1, hz2⟩ := info_parts infoU8
 go_enter Tryz.func115, Tryz.ntmps115
 go_wp2_with (go_at_call 151; refine (check_any B b bs _ h).mono ?_)
 rintro e w1 ⟨rfl, h1, hb1, hk1⟩
 obtain ⟨hB, v, hbk, hown, hne⟩ := h1
 have c0 : w1.cell? ⟨b, 0, none⟩ = some (.pointer (some ⟨b, 0, none⟩)) := by rw [Lib.cell_of_heap hbk]; rfl
 have c1 : w1.cell? ⟨b, 1, none⟩ = some v := by rw [Lib.cell_of_heap hbk]; rfl
 go_wp2_with (at_builtin; refine Lib.wpList_append_own_stringF _ rfl _ _ 140 9 rfl B 5 i0 Tryz.underlying140 Tryz.underlying9 hi hz0 hz1 hz2 _ _ _ rfl hown s rfl ?c3 ?c4 ?c5 ?_)
 case c3 => unfold maxLen; omega
 case c4 => omega
 case c5 => have := hb1.size; omega
 intro v' w2 hown' hgrow _
 have hlt : b < w1.heap.size := by
  rcases Nat.lt_or_ge b w1.heap.size with h' | h'
  ·exact h'
  ·simp [Array.getElem?_eq_none h'] at hbk
 have hb2 : w2.heap[b]? = some (.cells #[.pointer (some ⟨b, 0, none⟩), v] 142 (0, 0)) := by
  rw [hgrow.block b hlt (fun e => hne e.symm)]
  exact hbk
 have d0 : w2.cell? ⟨b, 0, none⟩ = some (.pointer (some ⟨b, 0, none⟩)) := by rw [Lib.cell_of_heap hb2]; rfl
 have d1 : w2.cell? ⟨b, 1, none⟩ = some v := by rw [Lib.cell_of_heap hb2]; rfl
 have f1 : w2.frozen? ⟨b, 1, none⟩ = false := Lib.frozen_of_heap hb2 1
 obtain ⟨ao, n', cap, rfl⟩ : ∃ ao n' cap, v' = .slice ao n' cap := by
  rcases hown'.2 with ⟨hv, _⟩ | ⟨g, cap, cur, fz, hv, _⟩
  ·exact ⟨_, _, _, hv⟩
  ·exact ⟨_, _, _, hv⟩
 go_wp2
 go_ret2
 refine ⟨rfl, ?_, ?_, (hk1.grown hgrow (Lib.ownsRowF_kind hown)).setCell ⟨b, 1, none⟩ rfl _⟩
 ·exact .inr (Lib.BuilderAtF.put (T := 142) (e := 5) hB hb2 (bs' := bs ++ Lib.strCells s) (by simpa [Lib.strCells_length] using hown') (by decide))
 ·exact (hb1.grown hgrow (by have := hb1.size; omega) (fun k hk => (hown.lt k hk).1)).setCell (p := ⟨b, 1, none⟩) hB _
end Go.Proofs.YtoahpkelajimfaaGreatDoor
namespace Go.Proofs.YtoahpkelajimfaaGreatDoor
open Go.RowKit
attribute [local irreducible] lo hs sm s64 c64 d64 b64 mh ml pd pc qd qc val hiB str cmpI srD lz nb
/-- The text of a number, as a value. -/
def txt (n : Nat) : ByteArray := ⟨(Lib.decDigits n).toArray⟩
set_option maxHeartbeats 2000000 in
set_option maxRecDepth 100000 in
theorem text_small (n : Nat) (h : n < Bs) (w : World) (htab : Tab w) :
  Calls Tryz.prog 67 #[natV n] w fun e w' => e = .returned (.string (txt n)) ∧ Below w.heap.size w w' := by
 obtain ⟨w0, hw0, hA, hb0, hsz0⟩ := boxes1 w (.int .u64 ((lo n : Nat) : Int)) (.string (hs n)) 34
 obtain ⟨a0, a1, af⟩ := id hA
 have HS := Lib.hid (fun w => small_any n w)
 have HF := Lib.hid (fun w ht => fmt_any (lo n) (lo_lt n) w ht)
 have hsm : sm n = true := sm_true.2 h
 rw [hsm] at HS
 have HL := Lib.hid (lo_small h)
 have ht0 : Tab w0 := htab.below hb0
 go_enter Tryz.func67, Tryz.ntmps67
 go_wp2_with fail
 refine (HS.out _).mono ?_
 rintro e w1 ⟨rfl, hb1⟩
 obtain ⟨c0, c1, cf⟩ := hA.below hb1 hsz0
 have ht1 := Lib.hid (ht0.below hb1)
 clear a0 a1 af hA ht0
 go_wp2_with fail
 refine (HF.out _ ht1.out).mono ?_
 rintro e w2 ⟨rfl, hb2⟩
 go_wp2_with fail
 have e : txt n = ⟨(Lib.decDigits (lo n)).toArray⟩ := by unfold txt; rw [HL.out]
 have s0 := hb0.size
 have s1 := hb1.size
 exact bodyPost_ret (v := .string (txt n)) (by simp [results, Tryz.results67, go_sem, e]) rfl ⟨rfl, (hb0.trans (hb1.mono s0)).trans (hb2.mono (by omega))⟩
/-- The length of a slice, out of its value. -/
def sLen : Value → Nat
 | .slice _ n _ => n
 | _ => 0
theorem chunksV_succ (a k : Nat) : chunksV a (k + 1) = chunksV a k ++ [chunkV a k] := by simp [chunksV, List.range_succ]
theorem infoU64 : (Tryz.prog.info? 32).map (fun i => (i.zero, i.size, i.bytes)) = some (some (.int .u64 0), 1, 8) := by kernel_rfl
theorem chunk_bound {a top L : Nat} (hl : (digs a).length ≤ L) (h : 0 < a / CB ^ top) : top ≤ 2 * L := by
 have h1 : CB ^ top ≤ a := by
  rcases Nat.lt_or_ge a (CB ^ top) with h' | h'
  ·rw [Nat.div_eq_of_lt h'] at h; omega
  ·exact h'
 have h2 := digs_length_iff.1 hl
 have h3 : Bs ^ L ≤ CB ^ (2 * L) := by
  rw [Nat.pow_mul]
  exact Nat.pow_le_pow_left (by unfold Bs CB; decide) L
 have h4 : CB ^ top < CB ^ (2 * L) := Nat.lt_of_le_of_lt h1 (Nat.lt_of_lt_of_le h2 h3)
 exact Nat.le_of_lt ((Nat.pow_lt_pow_iff_right CB_gt).1 h4)
theorem divC (g c q : Nat) (Z : List Nat) (hq : (digs q).length ≤ 1000000) (w : World) (hdb : DB w g (digs q ++ Z)) :
  Calls Tryz.prog 114 #[.slice (some ⟨g, 0, none⟩) (digs q).length c, .int .u64 10000000000000000000] w fun e w' =>
   e = .returned (.int .u64 ((q % CB : Nat) : Int)) ∧ ∃ (Z' : List Nat) (Q : List Nat), Q.length = (digs q).length ∧ Dig Q ∧ val Q = q / CB ∧ DB w' g (Q ++ Z) ∧ DB w' g (digs (q / CB) ++ Z') ∧ w.grownBy w' (some g) := by
 refine (divD g c q CB Z CB_pos (by unfold CB Bs; omega) (by omega) w hdb).mono ?_
 rintro e w' ⟨rfl, Q, h1, h2, h3, h4, h5⟩
 obtain ⟨z, hz⟩ := norm Q h2
 refine ⟨rfl, List.replicate z 0 ++ Z, Q, h1, h2, h3, h4, ?_, h5⟩
 rw [← List.append_assoc, ← h3, ← hz]; exact h4
theorem trimQ (g c n q : Nat) (Q Z : List Nat) (hl : Q.length = n) (hd : Dig Q) (hv : val Q = q) (hn : n ≤ 1000000) (hc : n ≤ c) (w : World) (hdb : DB w g (Q ++ Z)) :
  Calls Tryz.prog 113 #[.slice (some ⟨g, 0, none⟩) n c] w fun e w' => e = .returned (.slice (some ⟨g, 0, none⟩) (digs q).length c) ∧ w = w' := by
 subst hl; subst hv
 exact trim_any g 0 c Q hd (by unfold maxLen; omega) hc w hdb.rdl
theorem chunk_zero {a k K : Nat} (hK : 0 < a / CB ^ (K - 1)) (hk : k < K) : 0 < a / CB ^ k :=
 Nat.lt_of_lt_of_le hK (Nat.div_le_div_left (Nat.pow_le_pow_right CB_pos (by omega)) (Nat.pow_pos CB_pos))
theorem bf_below {B b : Nat} {bs : List Value} {w w' : World} (h : Lib.IsBuilderF 142 5 B b bs w) (hb : Below w.heap.size w w') : Lib.IsBuilderF 142 5 B b bs w' := by
 have key : ∀ p, Lib.BuilderAtF 142 5 B b p bs w → Lib.BuilderAtF 142 5 B b p bs w' := by
  intro p h
  have hlt := h.lt
  obtain ⟨hB, v, hbk, hown, hne⟩ := h
  refine ⟨hB, v, (hb.block b hlt).trans hbk, hown.kept (row := none) (below_none hb) ?_, hne⟩
  cases v.ownBlock with
  | none => exact .inl rfl
  | some x => exact .inr (by simp)
 rcases h with h | h
 ·exact .inl (key _ h)
 ·exact .inr (key _ h)
theorem write_l (B b : Nat) (l m : List UInt8) (w : World) (h : Lib.IsBuilderF 142 5 B b (Lib.byteCells l) w) (hlen : l.length + m.length ≤ 140737488355328) (hBw : B ≤ w.heap.size) :
  Calls Tryz.prog 115 #[.pointer (some ⟨b, 0, none⟩), .string ⟨m.toArray⟩] w fun e w' => e = .returned (.tuple #[.int .i64 m.length, .nilIface]) ∧ Lib.IsBuilderF 142 5 B b (Lib.byteCells (l ++ m)) w' ∧ Below B w w' := by
 refine (write_any B b (Lib.byteCells l) ⟨m.toArray⟩ w h (by rw [Lib.byteCells_length]; exact hlen) hBw).mono ?_
 rintro e w' ⟨rfl, h1, h2, -⟩
 refine ⟨rfl, ?_, h2⟩
 rw [Lib.byteCells_append]; exact h1
theorem dec_len_bound {n L : Nat} (hl : (digs n).length ≤ L) (hL : 0 < L) : (Lib.decDigits n).length ≤ 20 * L := by
 refine (dec_length_lt (by omega)).2 ?_
 refine Nat.lt_of_lt_of_le (digs_length_iff.1 hl) ?_
 rw [Nat.pow_mul]
 exact Nat.pow_le_pow_left (by unfold Bs; decide) L
theorem chunk_last {a top : Nat} (hend : a / CB ^ (top + 1) = 0) : a / CB ^ top % CB = a / CB ^ top := by
 have := chunk_split a top
 rw [hend, Nat.zero_mul, Nat.zero_add] at this
 exact this.symm
set_option maxHeartbeats 2000000 in
set_option maxRecDepth 100000 in
theorem text_big (a : Nat) (h : ¬ a < Bs) (hl : (digs a).length ≤ 1000000) (w : World) (htab : Tab w) :
  Calls Tryz.prog 67 #[natV a] w fun e w' => e = .returned (.string (txt a)) ∧ Below w.heap.size w w' := by
 obtain ⟨w0, hw0, hA, hb0, hsz0⟩ := boxes1 w (.int .u64 ((lo a : Nat) : Int)) (.string (hs a)) 34
 obtain ⟨a0, a1, af⟩ := id hA
 have HS := Lib.hid (fun w => small_any a w)
 have hsm : sm a = false := sm_false.2 (by omega)
 rw [hsm] at HS
 have HD := Lib.hid (fun w => digits_any a (by omega) w)
 have ht0 : Tab w0 := htab.below hb0
 clear hsm
 go_enter Tryz.func67, Tryz.ntmps67
 go_wp2_with fail
 refine (HS.out _).mono ?_
 rintro e w1 ⟨rfl, hb1⟩
 obtain ⟨c0, c1, cf⟩ := hA.below hb1 hsz0
 have ht1 := ht0.below hb1
 have hB1 := hb0.trans (hb1.mono hb0.size)
 have hs1 := Nat.lt_of_lt_of_le hsz0 hb1.size
 clear a0 a1 af hA ht0 HS hb0 hb1 hw0 hsz0
 go_wp2_with fail
 refine (HD.out _).mono ?_
 rintro e w2 ⟨g, c, z, rfl, hc, hg, hd, hb2⟩
 have ht2 := ht1.below hb2
 have hB2 := hB1.trans (hb2.mono (by omega))
 have hs2 := Nat.lt_of_lt_of_le hs1 hb2.size
 clear c0 c1 cf ht1 HD hb2 hB1
 obtain ⟨top, htop, hend⟩ := chunk_top a (by unfold Bs at h; omega)
 obtain ⟨i0, hi, hz0, hz1, hz2⟩ := info_parts infoU64
 have htb : top ≤ 2 * 1000000 := chunk_bound hl htop
 have hg0 : w.heap.size ≤ g := by omega
 clear h hg
 go_wp2_with fail
 go_loopw [3, 4] (fun ch d wr => ∃ (k gD cD : Nat) (Z : List Nat), k ≤ top + 1 ∧ d = .slice (some ⟨gD, 0, none⟩) (digs (a / CB ^ k)).length cD ∧ (digs (a / CB ^ k)).length ≤ cD ∧ DB wr gD (digs (a / CB ^ k) ++ Z) ∧ Ch wr w.heap.size a ch k ∧ ch.ownBlock ≠ some gD ∧ Below w.heap.size w wr ∧ w.heap.size ≤ gD) (fun ch _ _ => top + 1 - sLen ch)
 case atStart =>
  refine ⟨0, g, c, List.replicate z 0, Nat.zero_le _, ?_, ?_, ?_, ⟨rfl, .inl ⟨rfl, rfl⟩⟩, by simp [Value.ownBlock], hB2, hg0⟩
  ·rw [Nat.pow_zero, Nat.div_one]
  ·rw [Nat.pow_zero, Nat.div_one]; exact hc
  ·rw [Nat.pow_zero, Nat.div_one]; exact hd
 case round =>
  obtain ⟨k, gD, cD, Z, hk, rfl, hcD, hdD, hch, hne, hBr, hgD⟩ := hrel
  clear hd hg0 ht2 hB2 hs2 hc
  obtain ⟨ao, cc, rfl⟩ := hch.form
  obtain ⟨q, hq⟩ : ∃ q, q = a / CB ^ k := ⟨_, rfl⟩
  have hlq : (digs q).length ≤ 1000000 := by rw [hq]; exact Nat.le_trans (digs_mono (Nat.div_le_self _ _)) hl
  rw [← hq] at hcD hdD
  have hq0 : q = 0 → k = top + 1 := by
   intro h0
   rcases Nat.lt_or_ge k (top + 1) with h' | h'
   ·have := chunk_zero (K := top + 1) (by rw [Nat.add_sub_cancel]; exact htop) h'
    omega
   ·omega
  have hq1 : 0 < q → k ≤ top := by
   intro h0
   rcases Nat.lt_or_ge top k with h' | h'
   ·obtain rfl : k = top + 1 := by omega
    omega
   ·exact h'
  rw [← hq]
  have HQ := Lib.hid hq
  clear hq
  rcases Nat.eq_zero_or_pos q with h0 | h0
  ·obtain rfl := hq0 h0
   subst h0
   obtain ⟨gC, cC, hcc, hgC, hCR⟩ := hch.row (Nat.succ_pos top)
   have hcc1 : ao = some ⟨gC, 0, none⟩ ∧ cc = cC := by simpa using hcc
   obtain ⟨rfl, rfl⟩ := hcc1
   have hd0 : digs 0 = [] := digs_zero
   have hl0 : decide (0 < (digs 0).length) = false := by rw [hd0]; rfl
   clear hq0 hq1 hch hcc hdD hcD HQ hne hi hz0 hz1 hz2
   have hcell := hCR.cell top (by omega)
   rw [chunk_last hend] at hcell
   obtain ⟨m, hm⟩ : ∃ m, m = a / CB ^ top := ⟨_, rfl⟩
   have hmB : m < Bs := by rw [hm, ← chunk_last hend]; exact Nat.lt_trans (Nat.mod_lt _ CB_pos) (by unfold CB Bs; omega)
   have hla := dec_len_bound hl (by omega)
   have hlm : (Lib.decDigits m).length ≤ 20 * 1000000 := dec_len_bound (by rw [hm]; exact Nat.le_trans (digs_mono (Nat.div_le_self _ _)) hl) (by omega)
   rw [← hm] at hcell
   obtain ⟨wb, hwb⟩ : ∃ wb, wr.alloc (.cells #[.pointer none, .slice none 0 0] 142) = wb := ⟨_, rfl⟩
   have hbb : Below wr.heap.size wr wb := by rw [← hwb]; exact (Below.refl _ _).alloc (Nat.le_refl _) _
   have hIB : Lib.IsBuilderF 142 5 wr.heap.size wr.heap.size (Lib.byteCells []) wb := by rw [← hwb]; exact Lib.IsBuilderF.of (Lib.fresh_isBuilder _ _ wr)
   have hsb : wr.heap.size < wb.heap.size := by rw [← hwb]; simp
   have hcb := (hbb.cell (p := ⟨gC, top, none⟩) hgC).trans hcell
   have HM := Lib.hid hm
   have htr := Lib.hid (htab.below hBr)
   have htb' := Lib.hid (htr.out.below hbb)
   have HF := Lib.hid (fun w ht => fmt_any m hmB w ht)
   clear hm hcell hd0
   go_wp2_with fail
   with_reducible refine Calls.mono (HF.out _ htb'.out) ?_
   rintro e w3 ⟨rfl, hb3⟩
   have hB3 := hbb.trans (hb3.mono hbb.size)
   have hI3 := bf_below hIB hb3
   have hs3 := hB3.size
   have HW := Lib.hid (write_l wr.heap.size wr.heap.size [] (Lib.decDigits m) w3 hI3 (by simp; omega) hs3)
   clear HF hI3 hIB hb3 hbb hwb hcb hsb hl0
   go_wp2_with fail
   with_reducible refine Calls.mono HW.out ?_
   rintro e w4 ⟨rfl, hI4, hb4⟩
   have hB4 := hB3.trans hb4
   have hs4 := hB4.size
   rw [List.nil_append, HM.out] at hI4
   clear HW hB3 hb4 hs3 hlm hmB HM htb'
   go_wp2_with fail
   go_loopw [36] (fun z wx => ∃ i : Nat, i ≤ top ∧ z = .int .i64 i ∧ Lib.IsBuilderF 142 5 wr.heap.size wr.heap.size (Lib.byteCells (Lib.decDigits (a / CB ^ (top - i)))) wx ∧ Below wr.heap.size wr wx) (fun z _ => top - (intOf z).toNat)
   case atStart => exact ⟨0, Nat.zero_le _, rfl, hI4, hB4⟩
   case round =>
    obtain ⟨i, hi, rfl, hIx, hBx⟩ := hrel
    clear hI4 hB4 hs4
    have hsx := hBx.size
    rcases Nat.lt_or_eq_of_le hi with hiT | rfl
    ·have hdec := chunk_dec a (top - 1 - i) (by rw [show top - 1 - i + 1 = top - i by omega]; exact chunk_zero (K := top + 1) (by rw [Nat.add_sub_cancel]; exact htop) (by omega))
     rw [show top - 1 - i + 1 = top - i by omega] at hdec
     have hc := (hCR.below hBx hgC).cell (top - 1 - i) (by omega)
     have hlN : (Lib.decDigits (a / CB ^ (top - 1 - i))).length ≤ 20 * 1000000 := dec_len_bound (Nat.le_trans (digs_mono (Nat.div_le_self _ _)) hl) (by omega)
     have huB : a / CB ^ (top - 1 - i) % CB < Bs := Nat.lt_trans (Nat.mod_lt _ CB_pos) (by unfold CB Bs; omega)
     obtain ⟨u, hu⟩ : ∃ u, u = a / CB ^ (top - 1 - i) % CB := ⟨_, rfl⟩
     rw [← hu] at hdec hc huB
     obtain ⟨nx, hnx⟩ : ∃ nx, nx = a / CB ^ (top - 1 - i) := ⟨_, rfl⟩
     obtain ⟨pv, hpv⟩ : ∃ pv, pv = a / CB ^ (top - i) := ⟨_, rfl⟩
     rw [← hnx, ← hpv] at hdec
     rw [← hnx] at hlN
     rw [← hpv] at hIx
     have HN := Lib.hid hnx
     clear hu hnx hpv
     obtain ⟨hdec, hlu⟩ := hdec
     rw [hdec, List.length_append, List.length_append, List.length_replicate] at hlN
     have HDec := Lib.hid hdec
     clear hdec
     have HF := Lib.hid (fun w ht => fmt_any u huB w ht)
     have htx := Lib.hid (htr.out.below (hBx))
     have hlu2 : (19 : Int) - ((Lib.decDigits u).length : Int) = ((19 - (Lib.decDigits u).length : Nat) : Int) := by omega
     have HR := Lib.hid (fun w => rep0_any (19 - (Lib.decDigits u).length) (by omega) w)
     obtain ⟨zl, hzl⟩ : ∃ zl, zl = 19 - (Lib.decDigits u).length := ⟨_, rfl⟩
     rw [← hzl] at HR hlu2 hlN HDec
     obtain ⟨rp, hrp⟩ : ∃ rp, rp = List.replicate zl (48 : UInt8) := ⟨_, rfl⟩
     have hrl : rp.length = zl := by rw [hrp, List.length_replicate]
     rw [← hrp] at HR HDec
     clear hrp
     go_wp2_with fail
     with_reducible refine Calls.mono (HF.out _ htx.out) ?_
     rintro e w5 ⟨rfl, hb5⟩
     have hI5 := bf_below hIx hb5
     have hB5 := hBx.trans (hb5.mono hsx)
     have hs5 := hB5.size
     clear HF hIx hb5 hBx hsx hc htx hzl hlu
     obtain ⟨su, hsu⟩ : ∃ su, su = Lib.decDigits u := ⟨_, rfl⟩
     rw [← hsu] at hlu2 hlN HDec ⊢
     have hsl : (⟨su.toArray⟩ : ByteArray).size = su.length := rfl
     clear hsu
     go_wp2_with fail
     with_reducible refine Calls.mono (HR.out _) ?_
     rintro e w6 ⟨rfl, hb6⟩
     have hI6 := bf_below hI5 hb6
     have hB6 := hB5.trans (hb6.mono hs5)
     have hs6 := hB6.size
     have HW6 := Lib.hid (write_l _ _ (Lib.decDigits pv) rp w6 hI6 (by omega) hs6)
     clear HR hI5 hb6 hB5 hs5 hlu2
     go_wp2_with fail
     with_reducible refine Calls.mono HW6.out ?_
     rintro e w7 ⟨rfl, hI7, hb7⟩
     have hB7 := hB6.trans hb7
     have hs7 := hB7.size
     have HW7 := Lib.hid (write_l _ _ (Lib.decDigits pv ++ rp) su w7 hI7 (by rw [List.length_append]; omega) hs7)
     clear HW6 hI6 hb7 hB6 hs6
     go_wp2_with fail
     with_reducible refine Calls.mono HW7.out ?_
     rintro e w8 ⟨rfl, hI8, hb8⟩
     have hB8 := hB7.trans hb8
     rw [List.append_assoc, ← HDec.out, HN.out, show top - 1 - i = top - (i + 1) by omega] at hI8
     clear HW7 hI7 hb8 hB7 hs7
     go_wp2_with fail
     go_roundw
     case rel => exact ⟨i + 1, by omega, rfl, hI8, hB8⟩
     case measure => simp [intOf]; omega
    ·rw [Nat.sub_self, Nat.pow_zero, Nat.div_one] at hIx
     have HS := Lib.hid (Tryz.Builder_String_any_k _ _ _ _ hIx hsx)
     go_wp2_with fail
     with_reducible refine Calls.mono HS.out ?_
     rintro e w5 ⟨rfl, -, hb5, -⟩
     have hB5 := hBx.trans hb5
     go_wp2_with fail
     exact bodyPost_ret (v := .string (txt a)) (by simp [results, Tryz.results67, go_sem, txt]) rfl ⟨rfl, hBr.trans (hB5.mono hBr.size)⟩
  ·have hkt : k ≤ top := hq1 h0
   have hlp : 0 < (digs q).length := by rw [digs_pos (by omega)]; exact Nat.succ_pos _
   have hlp1 : decide ((0 : Int) < ((digs q).length : Int)) = true := decide_eq_true (by omega)
   have HDv := Lib.hid (fun w h => divC gD cD q Z hlq w h)
   have hlp2 : decide (0 < (digs q).length) = true := decide_eq_true hlp
   clear hlp hq0 hq1
   go_wp2_with fail
   with_reducible refine Calls.mono (HDv.out _ hdD) ?_
   rintro e w3 ⟨rfl, Z', Q, hQ1, hQ2, hQ3, hQ4, hQ5, hg3⟩
   have hch3 := hch.keep hg3 (.inr hne)
   have hB3 : Below w.heap.size w w3 := hBr.grown hg3 hBr.size (fun k hk => by obtain rfl := Option.some.inj hk; exact hgD)
   have hs3 := hB3.size
   have hlt3 := hQ4.lt
   have hr : chunkV a k = .int .u64 ((q % CB : Nat) : Int) := by rw [HQ.out]; rfl
   obtain ⟨r, hrr⟩ : ∃ r, r = q % CB := ⟨_, rfl⟩
   rw [← hrr] at hr ⊢
   clear HDv hdD hch hrr
   have HR := Lib.hid hr
   clear hr
   go_wp2_with (at_builtin; refine wpList_append_lies _ rfl (.tmp 21) (.tmp 24) 135 rfl w.heap.size 32 i0 (.int .u64 0) 1 8 Tryz.underlying135 hi hz0 hz1 hz2 rfl (by decide) (.slice ao k cc) k (chunksV a k) (by rfl) (World.ownsRow.alloc hch3 _) ⟨w3.heap.size, 0, none⟩ 1 1 [.int .u64 (r : Int)] (by rfl) rfl (World.news_of_block (heap_alloc_new w3 _)) (by simp [Value.oneCell']) (by decide) (by unfold maxLen; omega) (by omega) (by simp; omega) (w3.heap.size + 1) (by simp) ?_)
   rintro g4 cap4 w4 hown4 hgrow4 hat4 hlt4
   have hch4 : Ch w4 w.heap.size a (.slice (some ⟨g4, 0, none⟩) (k + 1) cap4) (k + 1) := by
    unfold Ch
    rw [chunksV_succ, HR.out]; exact hown4
   have hB4 : Below w.heap.size w w4 := (hB3.alloc hs3 _).grown hgrow4 (by simp; omega) (fun k' hk' => (World.ownsRow.lt hch3 k' hk').1)
   have hd4 : ∀ l, DB w3 gD l → DB w4 gD l := fun l h => h.keep ((hgrow4.block gD (by simp; omega) (Ne.symm hne)).trans (heap_alloc_old w3 _ hlt3))
   have hne4 : (Value.slice (some ⟨g4, 0, none⟩) (k + 1) cap4).ownBlock ≠ some gD := by
    rcases hat4 with h' | h'
    ·rw [h'] at hne; exact hne
    ·simp only [Value.ownBlock, h']
     intro he
     have := Option.some.inj he
     omega
   have hQ4' := hd4 _ hQ4
   have hQ5' := hd4 _ hQ5
   clear hch3 hB3 hgrow4 hat4 hown4 hd4 hQ4 hQ5 hg3
   have HTr := Lib.hid (trimQ gD cD (digs q).length (q / CB) Q Z hQ1 hQ2 hQ3 hlq hcD w4 hQ4')
   have hq' : q / CB = a / CB ^ (k + 1) := by rw [HQ.out, Nat.pow_succ, Nat.div_div_eq_div_mul]
   have hcD' : (digs (q / CB)).length ≤ cD := Nat.le_trans (digs_mono (Nat.div_le_self _ _)) hcD
   rw [hq'] at HTr hQ5' hcD'
   clear hQ4' hQ1 hQ2 hQ3 hq'
   go_wp2_with fail
   with_reducible refine Calls.mono HTr.out ?_
   rintro e w5 ⟨rfl, rfl⟩
   clear HTr
   go_wp2_with fail
   go_roundw
   case rel => exact ⟨k + 1, gD, cD, Z', by omega, rfl, hcD', hQ5', hch4, hne4, hB4, hgD⟩
   case measure => simp [sLen]; omega
theorem text_any (a : Nat) (hl : (digs a).length ≤ 1000000) (w : World) (htab : Tab w) :
  Calls Tryz.prog 67 #[natV a] w fun e w' => e = .returned (.string (txt a)) ∧ Below w.heap.size w w' := by
 by_cases h : a < Bs
 ·exact text_small a h w htab
 ·exact text_big a h hl w htab
end Go.Proofs.YtoahpkelajimfaaGreatDoor
namespace Go.Proofs.YtoahpkelajimfaaGreatDoor
open Go.RowKit
attribute [local irreducible] lo hs sm s64 c64 d64 b64 mh ml pd pc qd qc val hiB str cmpI srD lz nb
theorem cls_callT {α : Type} {F : α → World} {w0 : World} (h1 : ∀ x, Below w0.heap.size w0 (F x)) (h2 : ∀ W, Below w0.heap.size w0 W → ∃ x, W = F x) (ht : Tab w0) {f : FuncId} {args : Array Value} {v : Value}
  (h : ∀ w, Tab w → Calls Tryz.prog f args w fun e w' => e = .returned v ∧ Below w.heap.size w w') (x : α) : Calls Tryz.prog f args (F x) fun e w'' => e = .returned v ∧ ∃ y, w'' = F y :=
 (h (F x) (ht.below (h1 x))).mono fun _ _ ⟨he, hb⟩ => ⟨he, h2 _ ((h1 x).trans (hb.mono (h1 x).size))⟩
end Go.Proofs.YtoahpkelajimfaaGreatDoor
namespace Go.Proofs.YtoahpkelajimfaaGreatDoor
open Go.RowKit
attribute [local irreducible] lo hs sm s64 c64 d64 b64 mh ml pd pc qd qc val hiB str cmpI srD lz nb
theorem dec_size {n k : Nat} (hk : 0 < k) (h : (digs n).length ≤ k) : (Lib.decDigits n).length ≤ 20 * k := by
 refine (dec_length_lt (by omega)).2 (Nat.lt_of_lt_of_le (digs_length_iff.1 h) ?_)
 rw [Nat.pow_mul]
 exact Nat.pow_le_pow_left (by unfold Bs; decide) k
theorem txt_small {n k : Nat} (hk : 0 < k) (h : (digs n).length ≤ k) : (txt n).size ≤ 20 * k := dec_size hk h
set_option maxHeartbeats 4000000 in
set_option maxRecDepth 100000 in
theorem itext_false (m : Nat) (hm : (digs m).length ≤ 1000000) (w : World) (htab : Tab w) :
  Calls Tryz.prog 66 #[zV false m] w fun e w' => e = .returned (.string (txt m)) ∧ Below w.heap.size w w' := by
 have hL0 : GL w w [] := GL.start w
 have HT := Lib.hid (fun w h => text_any m (by omega) w h)
 clear hm
 replace hL0 := (hL0.new rfl [.int .u64 ((lo m : Nat) : Int), .string (hs m), .bool false] 36)
 generalize hweq : (w.alloc (.cells #[.int .u64 ((lo m : Nat) : Int), .string (hs m), .bool false] 36)) = x1 at hL0
 go_enter Tryz.func66, Tryz.ntmps66
 have hA := hL0.fc
 simp only [fcG, cellsF, neK, and_true, ne_eq, Nat.zero_add, Nat.reduceAdd] at hA
 go_wp2_with fail
 clear hA
 with_reducible refine Calls.mono (HT.out _ (htab.below hL0.bl)) ?_
 rintro e x2 ⟨rfl, hb⟩
 replace hL0 := hL0.call hb
 clear hb hweq
 have hA := hL0.fc
 simp only [fcG, cellsF, neK, and_true, ne_eq, Nat.zero_add, Nat.reduceAdd] at hA
 go_wp2_with fail
 exact bodyPost_ret (v := .string (txt m)) (by simp [results, Tryz.results66, go_sem, hA]) rfl ⟨rfl, hL0.bl⟩
set_option maxHeartbeats 4000000 in
set_option maxRecDepth 100000 in
theorem itext_true (m : Nat) (hm : (digs m).length ≤ 1000000) (w : World) (htab : Tab w) :
  Calls Tryz.prog 66 #[zV true m] w fun e w' => e = .returned (.string (ByteArray.mk #[45] ++ txt m)) ∧ Below w.heap.size w w' := by
 have hL0 : GL w w [] := GL.start w
 have HT := Lib.hid (fun w h => text_any m (by omega) w h)
 have hts := txt_small (k := 1000000) (by omega) hm
 clear hm
 generalize txt m = t at *
 have hts2 : ((t.size : Nat) : Int) ≤ 20000000 := by omega
 replace hL0 := (hL0.new rfl [.int .u64 ((lo m : Nat) : Int), .string (hs m), .bool true] 36)
 generalize hweq : (w.alloc (.cells #[.int .u64 ((lo m : Nat) : Int), .string (hs m), .bool true] 36)) = x1 at hL0
 go_enter Tryz.func66, Tryz.ntmps66
 have hA := hL0.fc
 simp only [fcG, cellsF, neK, and_true, ne_eq, Nat.zero_add, Nat.reduceAdd] at hA
 go_wp2_with fail
 clear hA
 with_reducible refine Calls.mono (HT.out _ (htab.below hL0.bl)) ?_
 rintro e x2 ⟨rfl, hb⟩
 replace hL0 := hL0.call hb
 clear hb hweq
 have hA := hL0.fc
 simp only [fcG, cellsF, neK, and_true, ne_eq, Nat.zero_add, Nat.reduceAdd] at hA
 go_wp2_with fail
 exact bodyPost_ret (v := .string (ByteArray.mk #[45] ++ t)) (by simp [results, Tryz.results66, go_sem, hA]) rfl ⟨rfl, hL0.bl⟩
end Go.Proofs.YtoahpkelajimfaaGreatDoor
namespace Go.Proofs.YtoahpkelajimfaaGreatDoor
open Go.RowKit
attribute [local irreducible] lo hs
/-- The decimal form. -/
def ztxt (z : Int) : ByteArray := if z < 0 then ByteArray.mk #[45] ++ txt z.natAbs else txt z.natAbs
theorem textI (z : Int) (hz : dI z ≤ 1000000) (w : World) (htab : Tab w) : Calls Tryz.prog 66 #[intV z] w fun e w' => e = .returned (.string (ztxt z)) ∧ Below w.heap.size w w' := by
 rcases int_cases z with ⟨m, rfl, h⟩ | ⟨m, h0, rfl, h⟩ <;> rw [h] <;> simp only [dI_neg, dI_nat] at hz <;> unfold ztxt
 ·rw [if_neg (by omega), Int.natAbs_natCast]; exact itext_false m hz w htab
 ·rw [if_pos (by omega), Int.natAbs_neg, Int.natAbs_natCast]; exact itext_true m hz w htab
end Go.Proofs.YtoahpkelajimfaaGreatDoor
namespace Go.Proofs.YtoahpkelajimfaaGreatDoor
open Go.RowKit
attribute [local irreducible] lo hs
end Go.Proofs.YtoahpkelajimfaaGreatDoor
namespace Go.Proofs.YtoahpkelajimfaaGreatDoor
open Go.RowKit
theorem fe_ne {q : Rat} (h : q.den ≠ 1) : fe q = q.den := if_neg h
end Go.Proofs.YtoahpkelajimfaaGreatDoor
namespace Go.Proofs.YtoahpkelajimfaaGreatDoor
open Go.RowKit
attribute [local irreducible] lo hs sm s64 c64 d64 b64 mh ml pd pc qd qc val hiB str cmpI srD lz nb zl zh zs
set_option maxHeartbeats 4000000 in
set_option maxRecDepth 100000 in
theorem int_w (k z : Int) (HO : RT 79 #[.int .i64 k] (intV z)) (w : World) :
  Calls Tryz.prog 34 #[.int .i64 k] w fun xe w' => xe = .returned (.agg #[.int .u64 ((zl z : Nat) : Int), .string (zh z), .bool (zs z), .int .u64 0, .string ⟨#[]⟩]) ∧ Below w.heap.size w w' := by
 have hL0 : GL w w [] := GL.start w
 replace HO := Lib.hid HO
 replace hL0 := (hL0.new rfl [.int .u64 0, .string ⟨#[]⟩, .bool false, .int .u64 0, .string ⟨#[]⟩] 38)
 generalize hweq : (w.alloc (.cells #[.int .u64 0, .string ⟨#[]⟩, .bool false, .int .u64 0, .string ⟨#[]⟩] 38)) = x1 at hL0
 go_enter Tryz.func34, Tryz.ntmps34
 go_wp2_with fail
 with_reducible refine Calls.mono (HO.out _) ?_
 rintro e x2 ⟨rfl, hb⟩
 replace hL0 := hL0.call hb
 clear hb hweq
 have hA := hL0.fc
 simp only [fcG, cellsF, neK, and_true, ne_eq, Nat.zero_add, Nat.reduceAdd] at hA
 have hP := hL0.put 0 (w.heap.size) _ rfl [.int .u64 ((zl z : Nat) : Int), .string (zh z), .bool (zs z), .int .u64 0, .string ⟨#[]⟩] rfl
 simp only [setAll, List.set_cons_zero, List.set_cons_succ] at hP
 generalize hput1 : (((((x2.setCell ⟨w.heap.size, 0, none⟩ (.int .u64 ((zl z : Nat) : Int))).setCell ⟨w.heap.size, 1, none⟩ (.string (zh z))).setCell ⟨w.heap.size, 2, none⟩ (.bool (zs z))).setCell ⟨w.heap.size, 3, none⟩ (.int .u64 0)).setCell ⟨w.heap.size, 4, none⟩ (.string ⟨#[]⟩)) = x3 at hP
 have hB1 := hP.fc
 simp only [fcG, cellsF, neK, and_true, ne_eq, Nat.zero_add, Nat.reduceAdd] at hB1
 replace hL0 := hP
 go_wp2_with fail
 exact bodyPost_ret (v := .agg #[.int .u64 ((zl z : Nat) : Int), .string (zh z), .bool (zs z), .int .u64 0, .string ⟨#[]⟩]) (by simp [results, Tryz.results34, go_sem, hB1]) rfl ⟨rfl, hL0.bl⟩
end Go.Proofs.YtoahpkelajimfaaGreatDoor
namespace Go.Proofs.YtoahpkelajimfaaGreatDoor
open Go.RowKit
attribute [local irreducible] lo hs sm s64 c64 d64 b64 mh ml pd pc qd qc val hiB str cmpI srD lz nb zl zh zs
set_option maxHeartbeats 4000000 in
set_option maxRecDepth 100000 in
theorem ftext_whole (n : Int) (s : ByteArray) (HW : RT 65 #[frV n 0] (.bool true)) (HT : RK Tab 66 #[intV n] (.string s)) (w : World) (htab : Tab w) :
  Calls Tryz.prog 27 #[frV n 0] w fun xe w' => xe = .returned (.string s) ∧ Below w.heap.size w w' := by
 have hL0 : GL w w [] := GL.start w
 replace HW := Lib.hid HW
 replace HT := Lib.hid HT
 replace hL0 := (hL0.new rfl [.int .u64 ((zl n : Nat) : Int), .string (zh n), .bool (zs n), .int .u64 ((lo 0 : Nat) : Int), .string (hs 0)] 38)
 generalize hweq : (w.alloc (.cells #[.int .u64 ((zl n : Nat) : Int), .string (zh n), .bool (zs n), .int .u64 ((lo 0 : Nat) : Int), .string (hs 0)] 38)) = x1 at hL0
 go_enter Tryz.func27, Tryz.ntmps27
 have hN0 := cells_of _ 0 [] rfl (hL0.get _ _ List.mem_cons_self)
 simp only [cellsF, and_true, Nat.zero_add, Nat.reduceAdd] at hN0
 go_wp2_with fail
 clear hN0
 with_reducible refine Calls.mono (HW.out _) ?_
 rintro e x2 ⟨rfl, hb⟩
 replace hL0 := hL0.call hb
 clear hb hweq
 have hN0 := cells_of _ 0 [] rfl (hL0.get _ _ List.mem_cons_self)
 simp only [cellsF, and_true, Nat.zero_add, Nat.reduceAdd] at hN0
 go_wp2_with fail
 clear hN0
 with_reducible refine Calls.mono (HT.out _ (htab.below hL0.bl)) ?_
 rintro e x3 ⟨rfl, hb⟩
 replace hL0 := hL0.call hb
 clear hb
 go_wp2_with fail
 exact bodyPost_ret (v := .string s) (by simp [results, Tryz.results27, go_sem]) rfl ⟨rfl, hL0.bl⟩
set_option maxHeartbeats 4000000 in
set_option maxRecDepth 100000 in
theorem ftext_part (n : Int) (e : Nat) (s t : ByteArray) (HW : RT 65 #[frV n e] (.bool false)) (HT : RK Tab 66 #[intV n] (.string s)) (HU : RK Tab 67 #[natV e] (.string t)) (h1 : ((s.size : Nat) : Int) ≤ 20000000) (h2 : ((t.size : Nat) : Int) ≤ 20000000) (w : World) (htab : Tab w) :
  Calls Tryz.prog 27 #[frV n e] w fun xe w' => xe = .returned (.string ((s ++ ByteArray.mk #[47]) ++ t)) ∧ Below w.heap.size w w' := by
 have hL0 : GL w w [] := GL.start w
 replace HW := Lib.hid HW
 replace HT := Lib.hid HT
 replace HU := Lib.hid HU
 replace hL0 := (hL0.new rfl [.int .u64 ((zl n : Nat) : Int), .string (zh n), .bool (zs n), .int .u64 ((lo e : Nat) : Int), .string (hs e)] 38)
 generalize hweq : (w.alloc (.cells #[.int .u64 ((zl n : Nat) : Int), .string (zh n), .bool (zs n), .int .u64 ((lo e : Nat) : Int), .string (hs e)] 38)) = x1 at hL0
 go_enter Tryz.func27, Tryz.ntmps27
 have hN0 := cells_of _ 0 [] rfl (hL0.get _ _ List.mem_cons_self)
 simp only [cellsF, and_true, Nat.zero_add, Nat.reduceAdd] at hN0
 go_wp2_with fail
 clear hN0
 with_reducible refine Calls.mono (HW.out _) ?_
 rintro e x2 ⟨rfl, hb⟩
 replace hL0 := hL0.call hb
 clear hb hweq
 go_upto_region 3 with fail
 have ht := htab.below hL0.bl
 obtain ⟨α, iα, F, hF1, hF2⟩ := cls x2
 have hq0 := cls_box hF1 hL0 _ _ List.mem_cons_self
 simp only [cellsC, and_true, Nat.zero_add, Nat.reduceAdd] at hq0
 refine region_qs 9 (C := fun w' => ∃ x, w' = F x) (by kernel_rfl) (by kernel_rfl) (cls_drew hF2) ?_
 simp only [List.take_succ_cons, List.take_zero, List.drop_succ_cons, List.drop_zero, List.take_nil, List.drop_nil]
 repeat (go_big_quiet_step (first | fail | (go_at_call 66; with_reducible exact cls_callT hF1 hF2 ht HT.out _) | (go_at_call 67; with_reducible exact cls_callT hF1 hF2 ht HU.out _)))
 refine wpQuiet_nil ?_
 rintro wq ⟨xq, rfl⟩
 replace hL0 := hL0.call (hF1 xq)
 clear  hq0 hF2
 generalize F xq = x3 at hL0 ⊢
 clear hF1 xq iα F α
 clear ht
 go_wp2_with fail
 exact bodyPost_ret (v := .string ((s ++ ByteArray.mk #[47]) ++ t)) (by simp [results, Tryz.results27, go_sem]) rfl ⟨rfl, hL0.bl⟩
end Go.Proofs.YtoahpkelajimfaaGreatDoor
namespace Go.Proofs.YtoahpkelajimfaaGreatDoor
open Go.RowKit
attribute [local irreducible] lo hs sm s64 c64 d64 b64 mh ml pd pc qd qc val hiB str cmpI srD lz nb zl zh zs
theorem fracV_int (z : Int) : fracV (z : Rat) = frV z 0 := rfl
theorem whole_raw (n : Int) (e : Nat) (w : World) : Calls Tryz.prog 65 #[frV n e] w fun x w' => x = .returned (.bool (decide (e = 0))) ∧ Below w.heap.size w w' := by
 by_cases h : e = 0
 ·subst h; rw [decide_eq_true rfl]; exact whole_yes n w
 ·rw [decide_eq_false h]; exact whole_no n e h w
theorem intF (k : Int) (h1 : -9223372036854775808 ≤ k) (h2 : k < 9223372036854775808) (w : World) : Calls Tryz.prog 34 #[.int .i64 k] w fun x w' => x = .returned (fracV (k : Rat)) ∧ Below w.heap.size w w' := by
 rw [fracV_int, frV_z]; exact int_w k k (fun w => ofI k h1 h2 w) w
end Go.Proofs.YtoahpkelajimfaaGreatDoor
namespace Go.Proofs.YtoahpkelajimfaaGreatDoor
open Go.RowKit
attribute [local irreducible] lo hs sm s64 c64 d64 b64 mh ml pd pc qd qc val hiB str cmpI srD lz nb zl zh zs
/-- A fraction's text. -/
def qtxt (q : Rat) : ByteArray := if q.den = 1 then ztxt q.num else ztxt q.num ++ (ByteArray.mk #[47]) ++ txt q.den
theorem ztxt_small {z : Int} {k : Nat} (hk : 0 < k) (h : dI z ≤ k) : (ztxt z).size ≤ 20 * k + 1 := by
 have h1 := txt_small (n := z.natAbs) hk h
 unfold ztxt
 split
 ·rw [ByteArray.size_append]
  have : (ByteArray.mk #[45]).size = 1 := rfl
  omega
 ·omega
theorem textF (q : Rat) (k : Nat) (hq : Sz q k) (hk : k ≤ 100000) (w : World) (htab : Tab w) : Calls Tryz.prog 27 #[fracV q] w fun x w' => x = .returned (.string (qtxt q)) ∧ Below w.heap.size w w' := by
 have hT := fun w h => textI q.num (Nat.le_trans hq.1 (by omega)) w h
 unfold qtxt
 by_cases h : q.den = 1
 ·rw [if_pos h, show fracV q = frV q.num 0 by unfold fracV; rw [fe_one h]]
  exact ftext_whole q.num _ (fun w => by have := whole_raw q.num 0 w; rwa [decide_eq_true rfl] at this) hT w htab
 ·rw [if_neg h, show fracV q = frV q.num q.den by unfold fracV; rw [fe_ne h]]
  have s1 := ztxt_small (k := 100000) (by omega) (Nat.le_trans hq.1 hk)
  have s2 := txt_small (n := q.den) (k := 100000) (by omega) (Nat.le_trans hq.2 hk)
  exact ftext_part q.num q.den _ _ (fun w => by have := whole_raw q.num q.den w; rwa [decide_eq_false q.den_nz] at this) hT (fun w h => text_any q.den (Nat.le_trans hq.2 (by omega)) w h) (by omega) (by omega) w htab
end Go.Proofs.YtoahpkelajimfaaGreatDoor
namespace Go.Proofs.YtoahpkelajimfaaGreatDoor
open Go.RowKit
theorem bs_congr {n : Nat} {f g : Nat → Rat} (h : ∀ i, i < n → f i = g i) : bsV n f = bsV n g := by
 induction n with
 | zero => rfl
 | succ n ih => show bsV n f + f n = bsV n g + g n; rw [ih fun i hi => h i (by omega), h n (by omega)]
theorem mx_nil : mxV [] = 0 := rfl
end Go.Proofs.YtoahpkelajimfaaGreatDoor
namespace Go.Proofs.YtoahpkelajimfaaGreatDoor
open Go.RowKit
section
variable {P : Program} {ops : Array Oper} {C : World → Prop}
/-- What an operation does: its value has the property in the world that it leaves. -/
def tyUpon (P : Program) (w : World) (T : Value → World → Prop) : Result Next → Prop
 | .ok (.value u) w' => Below w.heap.size w w' ∧ T u w'
 | .ok .skip w' => Below w.heap.size w w' ∧ T undef w'
 | .ok (.enter f args) w' => w' = w ∧ Calls P f args w (fun e w'' => ∃ u, e = .returned u ∧ T u w'' ∧ Below w.heap.size w w'')
 | _ => False
def TyAt (P : Program) (ops : Array Oper) (o : Oper) (a : Act) (w : World) (T : Value → World → Prop) : Prop :=
 if Region.wanted o (yielded ops a.tmps) then tyUpon P w T ((execOp a.eval o).run P w) else T undef w
theorem tyAt_none {o : Oper} {a : Act} {w : World} {T : Value → World → Prop} (hg : o.guard = none) (h : tyUpon P w T ((execOp a.eval o).run P w)) : TyAt P ops o a w T := by
 unfold TyAt
 rw [if_pos (by unfold Region.wanted; rw [hg])]
 exact h
/-- A call whose contract gives the property. -/
theorem ty_call {o : Oper} {a : Act} {w : World} {T : Value → World → Prop} {f : FuncId} {args : Array Value} (hr : (execOp a.eval o).run P w = .ok (.enter f args) w) (h : Calls P f args w fun e w'' => ∃ u, e = .returned u ∧ T u w'' ∧ Below w.heap.size w w'') : tyUpon P w T ((execOp a.eval o).run P w) := by
 rw [hr]; exact ⟨rfl, h⟩
/-- The frame with the values of the operations that have come up. -/
def putsIf : List Oper → Nat → (Nat → Bool) → (Nat → Value) → Act → Act
 | [], _, _, _, a => a
 | o :: l, k, b, v, a => putsIf l (k + 1) b v (if b k then a.put o.dst (v k) else a)
def putsV : List Oper → Nat → (Nat → Value) → Act → Act
 | [], _, _, a => a
 | o :: l, k, v, a => putsV l (k + 1) v (a.put o.dst (v k))
theorem putsIf_all {v : Nat → Value} {b : Nat → Bool} : ∀ (l : List Oper) (k : Nat) (a : Act), (∀ i, k ≤ i → i < k + l.length → b i = true) → putsIf l k b v a = putsV l k v a
 | [], _, _, _ => rfl
 | o :: l, k, a, h => by
  rw [putsIf, putsV, if_pos (h k (Nat.le_refl k) (by rw [List.length_cons]; omega))]
  exact putsIf_all l (k + 1) _ fun i h1 h2 => h i (by omega) (by rw [List.length_cons]; omega)
theorem putsIf_none {v : Nat → Value} {b : Nat → Bool} : ∀ (l : List Oper) (k : Nat) (a : Act), (∀ i, k ≤ i → i < k + l.length → b i = false) → putsIf l k b v a = a
 | [], _, _, _ => rfl
 | o :: l, k, a, h => by
  rw [putsIf, if_neg (by rw [h k (Nat.le_refl k) (by rw [List.length_cons]; omega)]; exact Bool.false_ne_true)]
  exact putsIf_none l (k + 1) _ fun i h1 h2 => h i (by omega) (by rw [List.length_cons]; omega)
theorem putsIf_congr {v v' : Nat → Value} {b b' : Nat → Bool} : ∀ (l : List Oper) (k : Nat) (a : Act), (∀ i, k ≤ i → i < k + l.length → b i = b' i ∧ (b i = true → v i = v' i)) → putsIf l k b v a = putsIf l k b' v' a
 | [], _, _, _ => rfl
 | o :: l, k, a, h => by
  obtain ⟨h1, h2⟩ := h k (Nat.le_refl k) (by rw [List.length_cons]; omega)
  rw [putsIf, putsIf]
  have e : (if b k = true then a.put o.dst (v k) else a) = (if b' k = true then a.put o.dst (v' k) else a) := by
   rw [← h1]
   by_cases hb : b k = true
   ·rw [if_pos hb, if_pos hb, h2 hb]
   ·rw [if_neg hb, if_neg hb]
  rw [e]
  exact putsIf_congr l (k + 1) _ fun i h1 h2 => h i (by omega) (by rw [List.length_cons]; omega)
/-- No two of them write one slot. -/
def apartD (d : Option Tmp) (l : List Oper) : Bool := l.all fun o => match d, o.dst with
 | some x, some y => !(x == y)
 | _, _ => true
def nodupD : List Oper → Bool
 | [] => true
 | o :: l => apartD o.dst l && nodupD l
theorem apartD_spec {d : Option Tmp} {l : List Oper} (h : apartD d l = true) {o : Oper} (ho : o ∈ l) {x : Tmp} (hx : d = some x) : o.dst ≠ some x := by
 intro e
 have := (List.all_eq_true.1 h) o ho
 subst hx
 simp only [e] at this
 simp at this
theorem put_late {v : Nat → Value} {b : Nat → Bool} {d : Option Tmp} {u : Value} : ∀ (l : List Oper) (k : Nat) (a : Act), apartD d l = true → putsIf l k b v (a.put d u) = (putsIf l k b v a).put d u
 | [], _, _, _ => rfl
 | o :: l, k, a, h => by
  have h0 := h
  simp only [apartD, List.all_cons, Bool.and_eq_true] at h
  rw [putsIf, putsIf]
  by_cases hb : b k = true
  ·rw [if_pos hb, if_pos hb]
   have : (a.put d u).put o.dst (v k) = (a.put o.dst (v k)).put d u := by
    cases d with
    | none => rfl
    | some x =>
     cases ho : o.dst with
     | none => rfl
     | some y =>
      have hne : y ≠ x := fun e => apartD_spec h0 List.mem_cons_self rfl (by rw [ho, e])
      exact Act.put_comm a u (v k) (fun d hd e => hne (Option.some.inj (e.trans hd.symm)))
   rw [this]
   exact put_late l (k + 1) _ h.2
  ·rw [if_neg hb, if_neg hb]; exact put_late l (k + 1) _ h.2
theorem put_at {v v' : Nat → Value} {b b' : Nat → Bool} {j : Nat} {u : Value} (hb : b j = false) (hb' : b' j = true) (hv : v' j = u) (hbb : ∀ i, i ≠ j → b' i = b i ∧ v' i = v i) :
  ∀ (l : List Oper) (k : Nat) (a : Act) (o : Oper), nodupD l = true → k ≤ j → l[j - k]? = some o → (putsIf l k b v a).put o.dst u = putsIf l k b' v' a
 | [], _, _, _, _, _, h => by simp at h
 | o1 :: l, k, a, o, hn, hk, h => by
  simp only [nodupD, Bool.and_eq_true] at hn
  rw [putsIf, putsIf]
  by_cases e : j = k
  ·subst e
   simp only [Nat.sub_self, List.getElem?_cons_zero, Option.some.injEq] at h
   subst h
   rw [if_neg (by rw [hb]; exact Bool.false_ne_true), if_pos hb', hv, ← put_late l (j + 1) a hn.1]
   exact putsIf_congr l (j + 1) _ fun i h1 h2 => ⟨(hbb i (by omega)).1.symm, fun _ => (hbb i (by omega)).2.symm⟩
  ·have hk' : k + 1 ≤ j := by omega
   rw [show j - k = (j - (k + 1)) + 1 by omega, List.getElem?_cons_succ] at h
   obtain ⟨h1, h2⟩ := hbb k (fun e' => e e'.symm)
   rw [h1, h2]
   exact put_at hb hb' hv hbb l (k + 1) _ o hn.2 hk' h
theorem put_get (a : Act) (d : Option Tmp) (u : Value) (t : Nat) : (a.put d u).tmps[t]? = if d = some t then (if t < a.tmps.size then some u else none) else a.tmps[t]? := by
 cases d with
 | none => simp [Act.put]
 | some x =>
  simp only [Act.put, Array.getElem?_setIfInBounds, Option.some.injEq]
  by_cases h : x = t
  ·subst h; simp
  ·simp [h]
theorem get_puts {v : Nat → Value} {b : Nat → Bool} {t : Nat} : ∀ (l : List Oper) (k : Nat) (a a' : Act), a.tmps[t]? = a'.tmps[t]? → (∀ i o, l[i]? = some o → o.dst = some t → b (k + i) = true) → (putsIf l k b v a).tmps[t]? = (putsV l k v a').tmps[t]?
 | [], _, _, _, h, _ => h
 | o :: l, k, a, a', h, hd => by
  rw [putsIf, putsV]
  refine get_puts l (k + 1) _ _ ?_ fun i o' ho' hd' => by have := hd (i + 1) o' (by simpa using ho') hd'; rwa [show k + (i + 1) = k + 1 + i by omega] at this
  have hsz : t < a.tmps.size ↔ t < a'.tmps.size := by
   constructor <;> intro h1
   ·rw [Array.getElem?_eq_getElem h1] at h; exact (Array.getElem?_eq_some_iff.1 h.symm).1
   ·rw [Array.getElem?_eq_getElem h1] at h; exact (Array.getElem?_eq_some_iff.1 h).1
  by_cases e : o.dst = some t
  ·have hb := hd 0 o (by simp) e
   rw [Nat.add_zero] at hb
   rw [if_pos hb, put_get, put_get, if_pos e, if_pos e]
   by_cases h2 : t < a.tmps.size
   ·rw [if_pos h2, if_pos (hsz.1 h2)]
   ·rw [if_neg h2, if_neg fun h3 => h2 (hsz.2 h3)]
  ·by_cases hb : b k = true
   ·rw [if_pos hb, put_get, put_get, if_neg e, if_neg e]; exact h
   ·rw [if_neg hb, put_get, if_neg e]; exact h
theorem wanted_same {a a' : Act} {o : Oper} (h : ∀ t ∈ o.looksAt ops, a.tmps[t]? = a'.tmps[t]?) : Region.wanted o (yielded ops a.tmps) = Region.wanted o (yielded ops a'.tmps) := by
 unfold Region.wanted
 cases hg : o.guard with
 | none => rfl
 | some gw =>
  obtain ⟨gg, want⟩ := gw
  have hy : yielded ops a.tmps gg = yielded ops a'.tmps gg := by
   unfold yielded
   cases ht : (ops[gg]?).bind (·.dst) with
   | none => rfl
   | some t =>
    have := h t (List.mem_append_right _ (by simp [hg, ht]))
    simp [this]
  simp only [hy]
theorem exec_same {a a' : Act} {o : Oper} (hs : ∀ cs b, o.op ≠ .select cs b) (h : ∀ t ∈ o.looksAt ops, a.tmps[t]? = a'.tmps[t]?) : execOp a.eval o = execOp a'.eval o :=
 execOp_congr o hs fun x hx => by
  cases x with
  | tmp t =>
   have ht : t ∈ o.looksAt ops := List.mem_append_left _ (List.mem_filterMap.2 ⟨_, by simpa using hx, rfl⟩)
   simp only [Act.eval, Array.getD_eq_getD_getElem?, h t ht]
  | _ => rfl
/-- Each of the first n waits for earlier ones alone, and for each of them that writes a slot that it looks at. -/
def depB (ops : Array Oper) (n : Nat) : Bool :=
 (List.range n).all fun j => (predsOf .any ops j).all (fun i => decide (i < j)) && match ops[j]? with
  | some o => (o.looksAt ops).all fun t => (List.range n).all fun i => match (ops[i]?).bind (·.dst) with
    | some d => !(d == t) || (predsOf .any ops j).contains i
    | none => true
  | none => true
theorem depB_pred {n j i : Nat} (h : depB ops n = true) (hj : j < n) (hi : i ∈ predsOf .any ops j) : i < j := by
 simp only [depB, List.all_eq_true, List.mem_range, Bool.and_eq_true, decide_eq_true_eq] at h
 exact (h j hj).1 i hi
theorem depB_looks {n j i : Nat} (h : depB ops n = true) (hj : j < n) (hi : i < n) {o o' : Oper} (ho : ops[j]? = some o) (ho' : ops[i]? = some o') {t : Tmp} (ht : t ∈ o.looksAt ops) (hd : o'.dst = some t) : i ∈ predsOf .any ops j := by
 simp only [depB, List.all_eq_true, List.mem_range, Bool.and_eq_true, decide_eq_true_eq] at h
 have h1 := (h j hj).2
 rw [ho] at h1
 simp only [List.all_eq_true, List.mem_range] at h1
 have h2 := h1 t ht i hi
 rw [ho'] at h2
 simp only [Option.bind_some, hd, beq_self_eq_true, Bool.not_true, Bool.false_or] at h2
 exact List.contains_iff_mem.1 h2
/-- A property that later worlds keep. -/
def Stays (T : Value → World → Prop) : Prop := ∀ v w w', Below w.heap.size w w' → T v w → T v w'
theorem left_zero {n : Nat} {listed : Array Bool} (h : left n listed = 0) : doneN n listed = true := by
 refine doneN_iff.2 fun i hi => ?_
 have := (List.countP_eq_zero.1 h) i (List.mem_range.2 hi)
 simpa using this
theorem left_some {n m : Nat} {listed : Array Bool} (h : left n listed = m + 1) : doneN n listed = false := by
 refine Bool.eq_false_iff.2 fun hd => ?_
 have : left n listed = 0 := List.countP_eq_zero.2 fun i hi => by simp [doneN_iff.1 hd i (List.mem_range.1 hi)]
 omega
theorem countP_drop {p q : Nat → Bool} {j : Nat} (hpq : ∀ i, i ≠ j → q i = p i) (hp : p j = true) (hq : q j = false) : ∀ (r : List Nat), r.Nodup → j ∈ r → r.countP p = r.countP q + 1
 | [], _, h => by cases h
 | x :: r, hn, h => by
  rw [List.nodup_cons] at hn
  rcases List.mem_cons.1 h with rfl | h
  ·rw [List.countP_cons_of_pos hp, List.countP_cons_of_neg (by rw [hq]; exact Bool.false_ne_true)]
   congr 1
   refine List.countP_congr fun i hi => ?_
   rw [hpq i (fun e => hn.1 (e ▸ hi))]
  ·have hx : x ≠ j := fun e => hn.1 (e ▸ h)
   have ih := countP_drop hpq hp hq r hn.2 h
   by_cases hpx : p x = true
   ·rw [List.countP_cons_of_pos hpx, List.countP_cons_of_pos (by rw [hpq x hx]; exact hpx), ih]
   ·rw [List.countP_cons_of_neg hpx, List.countP_cons_of_neg (by rw [hpq x hx]; exact hpx), ih]
theorem left_set {n j m : Nat} {listed : Array Bool} (hs : listed.size = ops.size) (hj : j < n) (hjs : j < ops.size) (hu : listed.getD j false = false) (h : left n listed = m + 1) : left n (listed.setIfInBounds j true) = m := by
 have := countP_drop (p := fun i => !listed.getD i false) (q := fun i => !(listed.setIfInBounds j true).getD i false) (j := j) (fun i hi => by simp only [getD_set_ne false (fun e => hi e.symm)]) (by simp [hu]) (by simp [hs, hjs]) (List.range n) List.nodup_range (List.mem_range.2 hj)
 unfold left at h ⊢
 omega
theorem ready_some {n m : Nat} {listed : Array Bool} (hs : listed.size = ops.size) (hn : n ≤ ops.size) (hD : depB ops n = true) (h : left n listed = m + 1) : Region.ready .any ops listed ≠ [] := by
  have hnd := left_some h
  have ex : ∃ i, i < n ∧ listed.getD i false = false := Classical.byContradiction fun hc => by
    have : doneN n listed = true := doneN_iff.2 fun i hi => by
      cases hv : listed.getD i false with
      | true => rfl
      | false => exact absurd ⟨i, hi, hv⟩ hc
    rw [this] at hnd; cases hnd
  have key : ∀ k i, i ≤ k → i < n → listed.getD i false = false → ∃ i, i ∈ Region.ready .any ops listed := by
    intro k
    induction k with
    | zero =>
      intro i hi h1 h2
      obtain rfl : i = 0 := by omega
      have ho : 0 < ops.size := by omega
      refine ⟨0, mem_ready.2 ⟨by have h3 : 0 < listed.size := by omega
                                 simpa [h3] using h2, ops[0], Array.getElem?_eq_getElem ho, fun e he hb => ?_⟩⟩
      have : e.on ∈ predsOf .any ops 0 := by
        unfold predsOf; rw [Array.getElem?_eq_getElem ho]
        exact List.mem_map.2 ⟨e, List.mem_filter.2 ⟨by simpa using he, hb⟩, rfl⟩
      have := depB_pred hD h1 this
      omega
    | succ k ih =>
      intro i hi h1 h2
      have ho : i < ops.size := by omega
      by_cases hall : ∀ p ∈ predsOf .any ops i, listed.getD p false = true
      · refine ⟨i, mem_ready.2 ⟨by have h3 : i < listed.size := by omega
                                   simpa [h3] using h2, ops[i], Array.getElem?_eq_getElem ho, fun e he hb => hall _ ?_⟩⟩
        unfold predsOf; rw [Array.getElem?_eq_getElem ho]
        exact List.mem_map.2 ⟨e, List.mem_filter.2 ⟨by simpa using he, hb⟩, rfl⟩
      · have : ∃ p, p ∈ predsOf .any ops i ∧ listed.getD p false = false := Classical.byContradiction fun hc => hall fun p hp => by
          cases hv : listed.getD p false with
          | true => rfl
          | false => exact absurd ⟨p, hp, hv⟩ hc
        obtain ⟨p, hp, hv⟩ := this
        have := depB_pred hD h1 hp
        exact ih p (by omega) (by omega) hv
  obtain ⟨i, h1, h2⟩ := ex
  obtain ⟨i, hi⟩ := key i i (Nat.le_refl _) h1 h2
  exact List.ne_nil_of_mem hi
theorem preds_of_ready {j : Nat} {listed : Array Bool} (hj : j ∈ Region.ready .any ops listed) : ∀ p ∈ predsOf .any ops j, listed.getD p false = true := by
 obtain ⟨-, o, ho, hall⟩ := mem_ready.1 hj
 intro p hp
 unfold predsOf at hp
 simp only [ho, List.mem_map, List.mem_filter] at hp
 obtain ⟨e, ⟨he, hb⟩, rfl⟩ := hp
 exact hall e (by simpa using he) hb
theorem wpAny_ty {n s : Nat} {l : List Oper} {T : Nat → Value → World → Prop} {w0 : World} {a0 : Act} {Q : Exit → Act → World → Prop} (hT : ∀ i, Stays (T i)) (hsel : Region.noSelect l.toArray = true) (hn : n ≤ l.length)
  (hB : barB .any l.toArray n = true) (hN : nodupD (l.take n) = true) (hD : depB l.toArray n = true)
  (hops : ∀ j o, j < n → l[j]? = some o → ∀ v w, Below w0.heap.size w0 w → (∀ p ∈ predsOf .any l.toArray j, T p (v p) w) → TyAt P l.toArray o (putsV (l.take n) 0 v a0) w (T j))
  (hend : ∀ v w, Below w0.heap.size w0 w → (∀ i, i < n → T i (v i) w) → wpAny P .any l.toArray Q s (canonL l.length n) (putsV (l.take n) 0 v a0) w) :
  ∀ (m : Nat) (listed : Array Bool) (v : Nat → Value) (w : World), left n listed = m → closedL .any l.toArray listed → sufL n l.toArray listed → Below w0.heap.size w0 w →
   (∀ i, i < n → listed.getD i false = true → T i (v i) w) → wpAny P .any l.toArray Q (s + m) listed (putsIf (l.take n) 0 (fun i => listed.getD i false) v a0) w := by
 intro m
 have hlen : (l.take n).length = n := by rw [List.length_take]; omega
 induction m with
 | zero =>
  intro listed v w hl hc hu hb ht
  have hd := left_zero hl
  rw [putsIf_all (l.take n) 0 a0 fun i _ h2 => doneN_iff.1 hd i (by omega)]
  have e := canon_of hu hd
  rw [show l.toArray.size = l.length by simp] at e
  rw [e]
  exact hend v w hb fun i hi => ht i hi (doneN_iff.1 hd i hi)
 | succ m ih =>
  intro listed v w hl hc hu hb ht
  have hnd := left_some hl
  refine ⟨fun h0 => absurd h0 (ready_some hu.1 (by simpa using hn) hD hl), fun j hj => ?_⟩
  have hjn := bar hB hc hj hnd
  obtain ⟨hju, o, ho, -⟩ := mem_ready.1 hj
  have hpre := preds_of_ready hj
  have hol : l[j]? = some o := by simpa using ho
  have hjs : j < l.toArray.size := (Array.getElem?_eq_some_iff.1 ho).1
  have hty := hops j o hjn hol v w hb fun p hp => ht p (by have := depB_pred hD hjn hp; omega) (hpre p hp)
  have hag : ∀ t ∈ o.looksAt l.toArray, (putsIf (l.take n) 0 (fun i => listed.getD i false) v a0).tmps[t]? = (putsV (l.take n) 0 v a0).tmps[t]? := fun t ht' =>
   get_puts (l.take n) 0 a0 a0 rfl fun i o' ho' hd' => by
    have hin : i < n := by rw [← hlen]; exact (List.getElem?_eq_some_iff.1 ho').1
    have ho2 : l.toArray[i]? = some o' := by rw [List.getElem?_take, if_pos hin] at ho'; simpa using ho'
    rw [Nat.zero_add]
    exact hpre i (depB_looks hD hjn hin ho ho2 ht' hd')
  have step : ∀ u w', Below w.heap.size w w' → T j u w' → wpAny P .any l.toArray Q (s + m) (listed.setIfInBounds j true) ((putsIf (l.take n) 0 (fun i => listed.getD i false) v a0).put o.dst u) w' := by
   intro u w' hw' hu'
   have e := put_at (v := v) (v' := fun i => if i = j then u else v i) (b := fun i => listed.getD i false) (b' := fun i => (listed.setIfInBounds j true).getD i false) (j := j) (u := u) (unl hju) (by simp [hu.1]; simpa using hjs) (by simp)
    (fun i hi => ⟨getD_set_ne false fun e => hi e.symm, by simp [hi]⟩) (l.take n) 0 a0 o hN (Nat.zero_le _) (by rw [Nat.sub_zero, List.getElem?_take, if_pos hjn]; exact hol)
   rw [e]
   refine ih _ _ w' (left_set (ops := l.toArray) hu.1 hjn hjs (unl hju) hl) (hc.set hj) ⟨by simpa using hu.1, fun k hk hks => by rw [getD_set_ne true (by omega)]; exact hu.2 k hk hks⟩ (hb.trans (hw'.mono hb.size)) fun i hi hli => ?_
   by_cases e : i = j
   ·subst e; simpa using hu'
   ·rw [getD_set_ne false fun e' => e e'.symm] at hli
    simp only [if_neg e]
    exact hT i _ _ _ hw' (ht i hi hli)
  unfold wpOp
  simp only [ho]
  unfold TyAt at hty
  rw [← wanted_same hag] at hty
  by_cases hw : Region.wanted o (yielded l.toArray (putsIf (l.take n) 0 (fun i => listed.getD i false) v a0).tmps) = true
  ·simp only [hw, if_true] at hty ⊢
   refine .inl ?_
   unfold Oper.wp
   rw [exec_same (fun cs b => Region.noSelect_spec hsel j o cs b ho) hag]
   generalize (execOp (putsV (l.take n) 0 v a0).eval o).run P w = r at *
   cases r with
   | ok nx w' =>
    cases nx <;> simp only [tyUpon] at hty <;> simp only [Oper.upon]
    case value u => exact step u w' hty.1 hty.2
    case skip => exact step undef w' hty.1 hty.2
    case enter f args =>
     obtain ⟨rfl, hcall⟩ := hty
     exact hcall.mono fun e w'' ⟨u, he, h1, h2⟩ => by subst he; exact step u w'' h2 h1
   | halt x w' => simp only [tyUpon] at hty
  ·simp only [hw] at hty ⊢
   exact step undef w (Below.refl _ _) hty
def tyB (n : Nat) (l : List Oper) : Bool :=
 Region.noSelect l.toArray && decide (n ≤ l.length) && barB .any l.toArray n && nodupD (l.take n) && depB l.toArray n && seqB .any l.toArray (l.length - n) n (canonL l.length n)
/-- **A region whose first n operations each give a value of a property; then the others, in their order.** -/
theorem region_ty (n : Nat) (T : Nat → Value → World → Prop) {id : Nat} {Q : Exit → Act → World → Prop} {a : Act} {w : World} {l : List Oper} (hm : P.follows .mixedOrders = true) (hB : tyB n l = true) (hT : ∀ i, Stays (T i))
  (hops : ∀ j o, j < n → l[j]? = some o → ∀ v w1, Below w.drew.heap.size w.drew w1 → (∀ p ∈ predsOf .any l.toArray j, T p (v p) w1) → TyAt P l.toArray o (putsV (l.take n) 0 v a) w1 (T j))
  (hend : ∀ v w1, Below w.drew.heap.size w.drew w1 → (∀ i, i < n → T i (v i) w1) → wpList P l.toArray Q (l.drop n) (putsV (l.take n) 0 v a) w1) : (Code.region id l.toArray true).wp P Q a w := by
 simp only [tyB, Bool.and_eq_true, decide_eq_true_eq] at hB
 obtain ⟨⟨⟨⟨⟨hs, hn⟩, hb⟩, hN⟩, hD⟩, hq⟩ := hB
 refine wp_region_any hm ?_
 have hrep : ∀ i, (Array.replicate l.length false).getD i false = false := fun i => by
  rcases Nat.lt_or_ge i l.length with h' | h' <;> simp [h']
 have h0 : closedL .any l.toArray (Array.replicate l.length false) := fun j o _ hl => by rw [hrep] at hl; cases hl
 have hleft : left n (Array.replicate l.length false) = n := by
  unfold left
  rw [List.countP_eq_length.2 fun i _ => by rw [hrep]; rfl, List.length_range]
 have h2 := wpAny_ty (P := P) (s := l.length - n) (Q := Q) (a0 := a) hT hs hn hb hN hD hops (fun v w1 h1 h2 => by
   have h3 := wpAny_of_seq (md := .any) (P := P) (Q' := Q) (l.drop n) n (canonL l.length n) (putsV (l.take n) 0 v a) w1 (fun j hj => by simp [List.getElem?_drop]) (by rw [List.length_drop]; exact hq) (hend v w1 h1 h2)
   rw [List.length_drop] at h3
   exact h3) n (Array.replicate l.length false) (fun _ => undef) w.drew hleft h0 ⟨by simp, fun j _ hj => by simp at hj; simp [hj]⟩ (Below.refl _ _) (fun i _ hl => by rw [hrep] at hl; cases hl)
 rw [putsIf_none (l.take n) 0 a fun i _ _ => hrep i, Nat.sub_add_cancel hn] at h2
 simpa using h2
theorem stays_nil : ∀ i : Nat, Stays (([] : List (Value → World → Prop)).getD i (fun _ _ => True)) := fun i => by simp [Stays]
theorem stays_cons {T : Value → World → Prop} {L : List (Value → World → Prop)} (h : Stays T) (hL : ∀ i : Nat, Stays (L.getD i (fun _ _ => True))) : ∀ i : Nat, Stays ((T :: L).getD i (fun _ _ => True))
 | 0 => h
 | i + 1 => by simpa using hL i
theorem stays_eq (c : Value) : Stays (fun u _ => u = c) := fun _ _ _ _ h => h
/-- The operations, one obligation each. -/
def hopsR (P : Program) (ops : Array Oper) (T : Nat → Value → World → Prop) (w0 : World) (F : (Nat → Value) → Act) : List Oper → Nat → Prop
 | [], _ => True
 | o :: l, k => (∀ v w1, Below w0.heap.size w0 w1 → (∀ p ∈ predsOf .any ops k, T p (v p) w1) → TyAt P ops o (F v) w1 (T k)) ∧ hopsR P ops T w0 F l (k + 1)
theorem hops_of {T : Nat → Value → World → Prop} {w0 : World} {F : (Nat → Value) → Act} : ∀ (l : List Oper) (k : Nat), hopsR P ops T w0 F l k → ∀ j o, l[j]? = some o → ∀ v w1, Below w0.heap.size w0 w1 → (∀ p ∈ predsOf .any ops (k + j), T p (v p) w1) → TyAt P ops o (F v) w1 (T (k + j))
 | [], _, _, j, o, h => by simp at h
 | o' :: l, k, hh, 0, o, h => by
  simp only [List.getElem?_cons_zero, Option.some.injEq] at h
  subst h; exact hh.1
 | o' :: l, k, hh, j + 1, o, h => by
  have := hops_of l (k + 1) hh.2 j o (by simpa using h)
  rwa [show k + 1 + j = k + (j + 1) by omega] at this
/-- region_ty, with its properties as a list. -/
theorem region_tl (n : Nat) (L : List (Value → World → Prop)) {id : Nat} {Q : Exit → Act → World → Prop} {a : Act} {w : World} {l : List Oper} (hm : P.follows .mixedOrders = true) (hB : tyB n l = true) (hT : ∀ i, Stays (L.getD i (fun _ _ => True)))
  (hops : hopsR P l.toArray (fun i => L.getD i (fun _ _ => True)) w.drew (fun v => putsV (l.take n) 0 v a) (l.take n) 0)
  (hend : ∀ v w1, Below w.drew.heap.size w.drew w1 → (∀ i, i < n → L.getD i (fun _ _ => True) (v i) w1) → wpList P l.toArray Q (l.drop n) (putsV (l.take n) 0 v a) w1) : (Code.region id l.toArray true).wp P Q a w :=
 region_ty n (fun i => L.getD i (fun _ _ => True)) hm hB hT (fun j o hj ho v w1 hb hp => by
  have := hops_of (l.take n) 0 hops j o (by rw [List.getElem?_take, if_pos hj]; exact ho) v w1 hb (by rw [Nat.zero_add]; exact hp)
  rwa [Nat.zero_add] at this) hend
end
end Go.Proofs.YtoahpkelajimfaaGreatDoor
namespace Go.Proofs.YtoahpkelajimfaaGreatDoor
open Go.RowKit
attribute [local irreducible] lo hs sm s64 c64 d64 b64 mh ml pd pc qd qc val hiB str cmpI srD lz nb zl zh zs fe
abbrev PV8 (l : List Rat) : Value → World → Prop := fun v w => SlQ w v l
theorem stays_slq8 (l : List Rat) : Stays (PV8 l) := fun _ _ _ hb h => h.below hb
end Go.Proofs.YtoahpkelajimfaaGreatDoor
namespace Go.Proofs.YtoahpkelajimfaaGreatDoor.Rx
open Go.RowKit
end Go.Proofs.YtoahpkelajimfaaGreatDoor.Rx
namespace Go.Proofs.YtoahpkelajimfaaGreatDoor.Rx
open Go.RowKit
attribute [local irreducible] tv dg
end Go.Proofs.YtoahpkelajimfaaGreatDoor.Rx
namespace Go.Proofs.YtoahpkelajimfaaGreatDoor.Rx
open Go.RowKit
attribute [local irreducible] tv dg
end Go.Proofs.YtoahpkelajimfaaGreatDoor.Rx
namespace Go.Proofs.YtoahpkelajimfaaGreatDoor.Rx
open Go.RowKit
attribute [local irreducible] tv dg
end Go.Proofs.YtoahpkelajimfaaGreatDoor.Rx
namespace Go.Proofs.YtoahpkelajimfaaGreatDoor.Rx
open Go.RowKit
attribute [local irreducible] tv dg
section
variable {w w' : World} {g : Nat} {l : List Nat}
theorem IB.sl (h : IB w g l) (c : Nat) (hc : l.length ≤ c) : Sl w (.slice (some ⟨g, 0, none⟩) l.length c) l :=
 .inr ⟨⟨g, 0, none⟩, c, rfl, hc, fun i hi => by rw [add0]; exact h.cell i hi, h.lt⟩
end
end Go.Proofs.YtoahpkelajimfaaGreatDoor.Rx
namespace Go.Proofs.YtoahpkelajimfaaGreatDoor
open Go.RowKit Go.Proofs.YtoahpkelajimfaaGreatDoor.Rx
theorem tyAt_yes {P : Program} {ops : Array Oper} {o : Oper} {a : Act} {w : World} {T : Value → World → Prop} (hg : Region.wanted o (yielded ops a.tmps) = true) (h : tyUpon P w T ((execOp a.eval o).run P w)) : TyAt P ops o a w T := by
 unfold TyAt
 rw [if_pos hg]; exact h
/-- The boxes with one that a typed region has made. -/
theorem GL.tnew {w0 x W : World} {L M : List (Nat × List Value)} {c : List Value} {k : Nat} (h : GL w0 W (M ++ L)) (hx : GL w0 x L) (hd : Hd W k c) (hB : x.heap.size ≤ k) (hM : ∀ p ∈ M, p.1 ≠ k) : GL w0 W ((k, c) :: (M ++ L)) := by
 refine ⟨h.bl, fun p hp => ?_, ?_⟩
 ·rcases List.mem_cons.1 hp with rfl | hp
  ·exact ⟨Nat.le_trans hx.bl.size hB, hd⟩
  ·exact h.all p hp
 ·rw [List.map_cons, List.nodup_cons]
  refine ⟨fun hm => ?_, h.nd⟩
  obtain ⟨q, hq, he⟩ := List.mem_map.1 hm
  rcases List.mem_append.1 hq with hq | hq
  ·exact hM q hq he
  ·have := (hx.all q hq).2.lt
   simp only at he
   omega
/-- A typed region's properties, in short. -/
abbrev EV (v : Value) : Value → World → Prop := fun u _ => u = v
theorem LC {l : List Nat} {a : Nat} (h : l.contains a = true) : a ∈ l := List.contains_iff_mem.1 h
end Go.Proofs.YtoahpkelajimfaaGreatDoor
namespace Go.Proofs.YtoahpkelajimfaaGreatDoor
open Go.RowKit
attribute [local irreducible] lo hs sm s64 c64 d64 b64 mh ml pd pc qd qc val hiB str cmpI srD lz nb zl zh zs fe
set_option maxHeartbeats 4000000 in
set_option maxRecDepth 100000 in
theorem vaxpy1_w (i na nb ca cb ga gb b1 b2 b3 : Nat) (c x y p r : Rat) (HM : ∀ w, Calls Tryz.prog 36 #[fracV c, fracV x] w fun xe w' => xe = .returned (fracV p) ∧ Below w.heap.size w w') (HC : ∀ w, Calls Tryz.prog 35 #[fracV p, fracV y] w fun xe w' => xe = .returned (fracV r) ∧ Below w.heap.size w w') (hi : i < na) (hj : i < nb) (w : World) (c0 : w.cell? ⟨b1, 0, none⟩ = some (.int .u64 ((zl c.num : Nat) : Int))) (c1 : w.cell? ⟨b1, 1, none⟩ = some (.string (zh c.num))) (c2 : w.cell? ⟨b1, 2, none⟩ = some (.bool (zs c.num))) (c3 : w.cell? ⟨b1, 3, none⟩ = some (.int .u64 ((lo (fe c) : Nat) : Int))) (c4 : w.cell? ⟨b1, 4, none⟩ = some (.string (hs (fe c)))) (c5 : w.cell? ⟨b2, 0, none⟩ = some (.slice (some ⟨ga, 0, none⟩) na ca)) (c6 : w.cell? ⟨b3, 0, none⟩ = some (.slice (some ⟨gb, 0, none⟩) nb cb)) (c7 : w.cell? ⟨ga, i * 5, none⟩ = some (.int .u64 ((zl x.num : Nat) : Int))) (c8 : w.cell? ⟨ga, i * 5 + 1, none⟩ = some (.string (zh x.num))) (c9 : w.cell? ⟨ga, i * 5 + 2, none⟩ = some (.bool (zs x.num))) (c10 : w.cell? ⟨ga, i * 5 + 3, none⟩ = some (.int .u64 ((lo (fe x) : Nat) : Int))) (c11 : w.cell? ⟨ga, i * 5 + 4, none⟩ = some (.string (hs (fe x)))) (c12 : w.cell? ⟨gb, i * 5, none⟩ = some (.int .u64 ((zl y.num : Nat) : Int))) (c13 : w.cell? ⟨gb, i * 5 + 1, none⟩ = some (.string (zh y.num))) (c14 : w.cell? ⟨gb, i * 5 + 2, none⟩ = some (.bool (zs y.num))) (c15 : w.cell? ⟨gb, i * 5 + 3, none⟩ = some (.int .u64 ((lo (fe y) : Nat) : Int))) (c16 : w.cell? ⟨gb, i * 5 + 4, none⟩ = some (.string (hs (fe y)))) :
  Calls Tryz.prog 59 #[.int .i64 (i : Int), .pointer (some ⟨b1, 0, none⟩), .pointer (some ⟨b2, 0, none⟩), .pointer (some ⟨b3, 0, none⟩)] w fun xe w' => xe = .returned (fracV r) ∧ Below w.heap.size w w' := by
 replace HM := Lib.hid HM
 replace HC := Lib.hid HC
 have k0 : (0 : Int) ≤ (i : Int) := Int.natCast_nonneg _
 have k1 : (i : Int) < (na : Int) := by omega
 have k2 : (i : Int) < (nb : Int) := by omega
 clear hi hj
 have hL0 : GL w w [] := GL.start w
 have hb0 : Below w.heap.size w (w.alloc (.cells #[.int .u64 0, .string ⟨#[]⟩, .bool false, .int .u64 0, .string ⟨#[]⟩] 38)) := (Below.refl _ _).alloc (Nat.le_refl _) _
 replace c0 := keepsC hb0 c0
 replace c1 := keepsC hb0 c1
 replace c2 := keepsC hb0 c2
 replace c3 := keepsC hb0 c3
 replace c4 := keepsC hb0 c4
 replace c5 := keepsC hb0 c5
 replace c6 := keepsC hb0 c6
 replace c7 := keepsC hb0 c7
 replace c8 := keepsC hb0 c8
 replace c9 := keepsC hb0 c9
 replace c10 := keepsC hb0 c10
 replace c11 := keepsC hb0 c11
 replace c12 := keepsC hb0 c12
 replace c13 := keepsC hb0 c13
 replace c14 := keepsC hb0 c14
 replace c15 := keepsC hb0 c15
 replace c16 := keepsC hb0 c16
 replace hL0 := hL0.new rfl [.int .u64 0, .string ⟨#[]⟩, .bool false, .int .u64 0, .string ⟨#[]⟩] 38
 generalize hweq : w.alloc (.cells #[.int .u64 0, .string ⟨#[]⟩, .bool false, .int .u64 0, .string ⟨#[]⟩] 38) = x1 at hL0 c0 c1 c2 c3 c4 c5 c6 c7 c8 c9 c10 c11 c12 c13 c14 c15 c16
 clear hb0
 replace c0 := Lib.hid c0
 replace c1 := Lib.hid c1
 replace c2 := Lib.hid c2
 replace c3 := Lib.hid c3
 replace c4 := Lib.hid c4
 replace c5 := Lib.hid c5
 replace c6 := Lib.hid c6
 replace c7 := Lib.hid c7
 replace c8 := Lib.hid c8
 replace c9 := Lib.hid c9
 replace c10 := Lib.hid c10
 replace c11 := Lib.hid c11
 replace c12 := Lib.hid c12
 replace c13 := Lib.hid c13
 replace c14 := Lib.hid c14
 replace c15 := Lib.hid c15
 replace c16 := Lib.hid c16
 go_enter Tryz.func59, Tryz.ntmps59
 go_upto_region 1 with fail
 clear hweq
 obtain ⟨α, iα, F, hF1, hF2⟩ := cls x1
 have hq0 : ∀ yz, (F yz).cell? ⟨b1, 0, none⟩ = some (.int .u64 ((zl c.num : Nat) : Int)) := fun yz => keepsC (hF1 yz) c0.out
 have hq1 : ∀ yz, (F yz).cell? ⟨b1, 1, none⟩ = some (.string (zh c.num)) := fun yz => keepsC (hF1 yz) c1.out
 have hq2 : ∀ yz, (F yz).cell? ⟨b1, 2, none⟩ = some (.bool (zs c.num)) := fun yz => keepsC (hF1 yz) c2.out
 have hq3 : ∀ yz, (F yz).cell? ⟨b1, 3, none⟩ = some (.int .u64 ((lo (fe c) : Nat) : Int)) := fun yz => keepsC (hF1 yz) c3.out
 have hq4 : ∀ yz, (F yz).cell? ⟨b1, 4, none⟩ = some (.string (hs (fe c))) := fun yz => keepsC (hF1 yz) c4.out
 have hq5 : ∀ yz, (F yz).cell? ⟨b2, 0, none⟩ = some (.slice (some ⟨ga, 0, none⟩) na ca) := fun yz => keepsC (hF1 yz) c5.out
 have hq6 : ∀ yz, (F yz).cell? ⟨b3, 0, none⟩ = some (.slice (some ⟨gb, 0, none⟩) nb cb) := fun yz => keepsC (hF1 yz) c6.out
 have hq7 : ∀ yz, (F yz).cell? ⟨ga, i * 5, none⟩ = some (.int .u64 ((zl x.num : Nat) : Int)) := fun yz => keepsC (hF1 yz) c7.out
 have hq8 : ∀ yz, (F yz).cell? ⟨ga, i * 5 + 1, none⟩ = some (.string (zh x.num)) := fun yz => keepsC (hF1 yz) c8.out
 have hq9 : ∀ yz, (F yz).cell? ⟨ga, i * 5 + 2, none⟩ = some (.bool (zs x.num)) := fun yz => keepsC (hF1 yz) c9.out
 have hq10 : ∀ yz, (F yz).cell? ⟨ga, i * 5 + 3, none⟩ = some (.int .u64 ((lo (fe x) : Nat) : Int)) := fun yz => keepsC (hF1 yz) c10.out
 have hq11 : ∀ yz, (F yz).cell? ⟨ga, i * 5 + 4, none⟩ = some (.string (hs (fe x))) := fun yz => keepsC (hF1 yz) c11.out
 have hq12 : ∀ yz, (F yz).cell? ⟨gb, i * 5, none⟩ = some (.int .u64 ((zl y.num : Nat) : Int)) := fun yz => keepsC (hF1 yz) c12.out
 have hq13 : ∀ yz, (F yz).cell? ⟨gb, i * 5 + 1, none⟩ = some (.string (zh y.num)) := fun yz => keepsC (hF1 yz) c13.out
 have hq14 : ∀ yz, (F yz).cell? ⟨gb, i * 5 + 2, none⟩ = some (.bool (zs y.num)) := fun yz => keepsC (hF1 yz) c14.out
 have hq15 : ∀ yz, (F yz).cell? ⟨gb, i * 5 + 3, none⟩ = some (.int .u64 ((lo (fe y) : Nat) : Int)) := fun yz => keepsC (hF1 yz) c15.out
 have hq16 : ∀ yz, (F yz).cell? ⟨gb, i * 5 + 4, none⟩ = some (.string (hs (fe y))) := fun yz => keepsC (hF1 yz) c16.out
 refine region_qs 11 (C := fun w' => ∃ x, w' = F x) (by kernel_rfl) (by kernel_rfl) (cls_drew hF2) ?_
 simp only [List.take_succ_cons, List.take_zero, List.drop_succ_cons, List.drop_zero, List.take_nil, List.drop_nil]
 repeat (go_big_quiet_step (first | fail | (go_at_call 36; with_reducible exact cls_call hF1 hF2 HM.out _) | (go_at_call 35; with_reducible exact cls_call hF1 hF2 HC.out _)))
 refine wpQuiet_nil ?_
 rintro wq ⟨xq, rfl⟩
 replace hL0 := hL0.call (hF1 xq)
 clear hq0 hq1 hq2 hq3 hq4 hq5 hq6 hq7 hq8 hq9 hq10 hq11 hq12 hq13 hq14 hq15 hq16 hF2
 generalize F xq = x2 at hL0 ⊢
 clear hF1 xq iα F α
 have hA := hL0.fc
 simp only [fcG, cellsF, neK, and_true, ne_eq, Nat.zero_add, Nat.reduceAdd] at hA
 have hPt := hL0.put 0 (w.heap.size) _ rfl [.int .u64 ((zl r.num : Nat) : Int), .string (zh r.num), .bool (zs r.num), .int .u64 ((lo (fe r) : Nat) : Int), .string (hs (fe r))] rfl
 simp only [setAll, List.set_cons_zero, List.set_cons_succ] at hPt
 generalize hput1 : (((((x2.setCell ⟨w.heap.size, 0, none⟩ (.int .u64 ((zl r.num : Nat) : Int))).setCell ⟨w.heap.size, 1, none⟩ (.string (zh r.num))).setCell ⟨w.heap.size, 2, none⟩ (.bool (zs r.num))).setCell ⟨w.heap.size, 3, none⟩ (.int .u64 ((lo (fe r) : Nat) : Int))).setCell ⟨w.heap.size, 4, none⟩ (.string (hs (fe r)))) = x9 at hPt
 have hB1 := hPt.fc
 simp only [fcG, cellsF, neK, and_true, ne_eq, Nat.zero_add, Nat.reduceAdd] at hB1
 go_wp2_with fail
 exact bodyPost_ret (v := fracV r) (by simp [results, Tryz.results59, go_sem, hB1]) rfl ⟨rfl, hPt.bl⟩
set_option maxHeartbeats 4000000 in
set_option maxRecDepth 100000 in
theorem vof1_w (i na ca ga b1 : Nat) (x : Int) (r : Rat) (HC : ∀ w, Calls Tryz.prog 34 #[.int .i64 x] w fun xe w' => xe = .returned (fracV r) ∧ Below w.heap.size w w') (hi : i < na) (w : World) (c0 : w.cell? ⟨b1, 0, none⟩ = some (.slice (some ⟨ga, 0, none⟩) na ca)) (c1 : w.cell? ⟨ga, i, none⟩ = some (.int .i64 x)) :
  Calls Tryz.prog 100 #[.int .i64 (i : Int), .pointer (some ⟨b1, 0, none⟩)] w fun xe w' => xe = .returned (fracV r) ∧ Below w.heap.size w w' := by
 replace HC := Lib.hid HC
 have k0 : (0 : Int) ≤ (i : Int) := Int.natCast_nonneg _
 have k1 : (i : Int) < (na : Int) := by omega
 clear hi
 have hL0 : GL w w [] := GL.start w
 have hb0 : Below w.heap.size w (w.alloc (.cells #[.int .u64 0, .string ⟨#[]⟩, .bool false, .int .u64 0, .string ⟨#[]⟩] 38)) := (Below.refl _ _).alloc (Nat.le_refl _) _
 replace c0 := keepsC hb0 c0
 replace c1 := keepsC hb0 c1
 replace hL0 := hL0.new rfl [.int .u64 0, .string ⟨#[]⟩, .bool false, .int .u64 0, .string ⟨#[]⟩] 38
 generalize hweq : w.alloc (.cells #[.int .u64 0, .string ⟨#[]⟩, .bool false, .int .u64 0, .string ⟨#[]⟩] 38) = x1 at hL0 c0 c1
 clear hb0
 go_enter Tryz.func100, Tryz.ntmps100
 go_wp2_with fail
 with_reducible refine Calls.mono (HC.out _) ?_
 rintro e x2 ⟨rfl, hb⟩
 replace hL0 := hL0.call hb
 clear hb hweq c0 c1
 have hA := hL0.fc
 simp only [fcG, cellsF, neK, and_true, ne_eq, Nat.zero_add, Nat.reduceAdd] at hA
 have hPt := hL0.put 0 (w.heap.size) _ rfl [.int .u64 ((zl r.num : Nat) : Int), .string (zh r.num), .bool (zs r.num), .int .u64 ((lo (fe r) : Nat) : Int), .string (hs (fe r))] rfl
 simp only [setAll, List.set_cons_zero, List.set_cons_succ] at hPt
 generalize hput1 : (((((x2.setCell ⟨w.heap.size, 0, none⟩ (.int .u64 ((zl r.num : Nat) : Int))).setCell ⟨w.heap.size, 1, none⟩ (.string (zh r.num))).setCell ⟨w.heap.size, 2, none⟩ (.bool (zs r.num))).setCell ⟨w.heap.size, 3, none⟩ (.int .u64 ((lo (fe r) : Nat) : Int))).setCell ⟨w.heap.size, 4, none⟩ (.string (hs (fe r)))) = x9 at hPt
 have hB1 := hPt.fc
 simp only [fcG, cellsF, neK, and_true, ne_eq, Nat.zero_add, Nat.reduceAdd] at hB1
 go_wp2_with fail
 exact bodyPost_ret (v := fracV r) (by simp [results, Tryz.results100, go_sem, hB1]) rfl ⟨rfl, hPt.bl⟩
set_option maxHeartbeats 4000000 in
set_option maxRecDepth 100000 in
theorem vacross1_w (i k nl cl gl na ca ga b1 b2 : Nat) (x : Rat) (hi : i < nl) (hj : k < na) (w : World) (c0 : w.cell? ⟨b1, 0, none⟩ = some (.slice (some ⟨gl, 0, none⟩) nl cl)) (c1 : w.cell? ⟨b2, 0, none⟩ = some (.int .i64 (k : Int))) (c2 : w.cell? ⟨gl, i, none⟩ = some (.slice (some ⟨ga, 0, none⟩) na ca)) (c3 : w.cell? ⟨ga, k * 5, none⟩ = some (.int .u64 ((zl x.num : Nat) : Int))) (c4 : w.cell? ⟨ga, k * 5 + 1, none⟩ = some (.string (zh x.num))) (c5 : w.cell? ⟨ga, k * 5 + 2, none⟩ = some (.bool (zs x.num))) (c6 : w.cell? ⟨ga, k * 5 + 3, none⟩ = some (.int .u64 ((lo (fe x) : Nat) : Int))) (c7 : w.cell? ⟨ga, k * 5 + 4, none⟩ = some (.string (hs (fe x)))) :
  Calls Tryz.prog 138 #[.int .i64 (i : Int), .pointer (some ⟨b1, 0, none⟩), .pointer (some ⟨b2, 0, none⟩)] w fun xe w' => xe = .returned (fracV x) ∧ Below w.heap.size w w' := by
 have k0 : (0 : Int) ≤ (i : Int) := Int.natCast_nonneg _
 have k1 : (i : Int) < (nl : Int) := by omega
 have k2 : (0 : Int) ≤ (k : Int) := Int.natCast_nonneg _
 have k3 : (k : Int) < (na : Int) := by omega
 clear hi hj
 have hL0 : GL w w [] := GL.start w
 have hb0 : Below w.heap.size w (w.alloc (.cells #[.int .u64 0, .string ⟨#[]⟩, .bool false, .int .u64 0, .string ⟨#[]⟩] 38)) := (Below.refl _ _).alloc (Nat.le_refl _) _
 replace c0 := keepsC hb0 c0
 replace c1 := keepsC hb0 c1
 replace c2 := keepsC hb0 c2
 replace c3 := keepsC hb0 c3
 replace c4 := keepsC hb0 c4
 replace c5 := keepsC hb0 c5
 replace c6 := keepsC hb0 c6
 replace c7 := keepsC hb0 c7
 replace hL0 := hL0.new rfl [.int .u64 0, .string ⟨#[]⟩, .bool false, .int .u64 0, .string ⟨#[]⟩] 38
 generalize hweq : w.alloc (.cells #[.int .u64 0, .string ⟨#[]⟩, .bool false, .int .u64 0, .string ⟨#[]⟩] 38) = x1 at hL0 c0 c1 c2 c3 c4 c5 c6 c7
 clear hb0
 replace c0 := Lib.hid c0
 replace c1 := Lib.hid c1
 replace c2 := Lib.hid c2
 replace c3 := Lib.hid c3
 replace c4 := Lib.hid c4
 replace c5 := Lib.hid c5
 replace c6 := Lib.hid c6
 replace c7 := Lib.hid c7
 go_enter Tryz.func138, Tryz.ntmps138
 go_upto_region 1 with fail
 clear hweq
 obtain ⟨α, iα, F, hF1, hF2⟩ := cls x1
 have hq0 : ∀ yz, (F yz).cell? ⟨b1, 0, none⟩ = some (.slice (some ⟨gl, 0, none⟩) nl cl) := fun yz => keepsC (hF1 yz) c0.out
 have hq1 : ∀ yz, (F yz).cell? ⟨b2, 0, none⟩ = some (.int .i64 (k : Int)) := fun yz => keepsC (hF1 yz) c1.out
 have hq2 : ∀ yz, (F yz).cell? ⟨gl, i, none⟩ = some (.slice (some ⟨ga, 0, none⟩) na ca) := fun yz => keepsC (hF1 yz) c2.out
 have hq3 : ∀ yz, (F yz).cell? ⟨ga, k * 5, none⟩ = some (.int .u64 ((zl x.num : Nat) : Int)) := fun yz => keepsC (hF1 yz) c3.out
 have hq4 : ∀ yz, (F yz).cell? ⟨ga, k * 5 + 1, none⟩ = some (.string (zh x.num)) := fun yz => keepsC (hF1 yz) c4.out
 have hq5 : ∀ yz, (F yz).cell? ⟨ga, k * 5 + 2, none⟩ = some (.bool (zs x.num)) := fun yz => keepsC (hF1 yz) c5.out
 have hq6 : ∀ yz, (F yz).cell? ⟨ga, k * 5 + 3, none⟩ = some (.int .u64 ((lo (fe x) : Nat) : Int)) := fun yz => keepsC (hF1 yz) c6.out
 have hq7 : ∀ yz, (F yz).cell? ⟨ga, k * 5 + 4, none⟩ = some (.string (hs (fe x))) := fun yz => keepsC (hF1 yz) c7.out
 refine region_qs 7 (C := fun w' => ∃ x, w' = F x) (by kernel_rfl) (by kernel_rfl) (cls_drew hF2) ?_
 simp only [List.take_succ_cons, List.take_zero, List.drop_succ_cons, List.drop_zero, List.take_nil, List.drop_nil]
 repeat (go_big_quiet_step (first | fail))
 refine wpQuiet_nil ?_
 rintro wq ⟨xq, rfl⟩
 replace hL0 := hL0.call (hF1 xq)
 clear hq0 hq1 hq2 hq3 hq4 hq5 hq6 hq7 hF2
 generalize F xq = x2 at hL0 ⊢
 clear hF1 xq iα F α
 have hA := hL0.fc
 simp only [fcG, cellsF, neK, and_true, ne_eq, Nat.zero_add, Nat.reduceAdd] at hA
 have hPt := hL0.put 0 (w.heap.size) _ rfl [.int .u64 ((zl x.num : Nat) : Int), .string (zh x.num), .bool (zs x.num), .int .u64 ((lo (fe x) : Nat) : Int), .string (hs (fe x))] rfl
 simp only [setAll, List.set_cons_zero, List.set_cons_succ] at hPt
 generalize hput1 : (((((x2.setCell ⟨w.heap.size, 0, none⟩ (.int .u64 ((zl x.num : Nat) : Int))).setCell ⟨w.heap.size, 1, none⟩ (.string (zh x.num))).setCell ⟨w.heap.size, 2, none⟩ (.bool (zs x.num))).setCell ⟨w.heap.size, 3, none⟩ (.int .u64 ((lo (fe x) : Nat) : Int))).setCell ⟨w.heap.size, 4, none⟩ (.string (hs (fe x)))) = x9 at hPt
 have hB1 := hPt.fc
 simp only [fcG, cellsF, neK, and_true, ne_eq, Nat.zero_add, Nat.reduceAdd] at hB1
 go_wp2_with fail
 exact bodyPost_ret (v := fracV x) (by simp [results, Tryz.results138, go_sem, hB1]) rfl ⟨rfl, hPt.bl⟩
set_option maxHeartbeats 4000000 in
set_option maxRecDepth 100000 in
theorem vpart1_w (i np cp gp p na ca ga b1 b2 : Nat) (x : Rat) (hi : i < np) (hj : p < na) (w : World) (c0 : w.cell? ⟨b1, 0, none⟩ = some (.slice (some ⟨ga, 0, none⟩) na ca)) (c1 : w.cell? ⟨b2, 0, none⟩ = some (.slice (some ⟨gp, 0, none⟩) np cp)) (c2 : w.cell? ⟨gp, i, none⟩ = some (.int .i64 (p : Int))) (c3 : w.cell? ⟨ga, p * 5, none⟩ = some (.int .u64 ((zl x.num : Nat) : Int))) (c4 : w.cell? ⟨ga, p * 5 + 1, none⟩ = some (.string (zh x.num))) (c5 : w.cell? ⟨ga, p * 5 + 2, none⟩ = some (.bool (zs x.num))) (c6 : w.cell? ⟨ga, p * 5 + 3, none⟩ = some (.int .u64 ((lo (fe x) : Nat) : Int))) (c7 : w.cell? ⟨ga, p * 5 + 4, none⟩ = some (.string (hs (fe x)))) :
  Calls Tryz.prog 92 #[.int .i64 (i : Int), .pointer (some ⟨b1, 0, none⟩), .pointer (some ⟨b2, 0, none⟩)] w fun xe w' => xe = .returned (fracV x) ∧ Below w.heap.size w w' := by
 have k0 : (0 : Int) ≤ (i : Int) := Int.natCast_nonneg _
 have k1 : (i : Int) < (np : Int) := by omega
 have k2 : (0 : Int) ≤ (p : Int) := Int.natCast_nonneg _
 have k3 : (p : Int) < (na : Int) := by omega
 clear hi hj
 have hL0 : GL w w [] := GL.start w
 have hb0 : Below w.heap.size w (w.alloc (.cells #[.int .u64 0, .string ⟨#[]⟩, .bool false, .int .u64 0, .string ⟨#[]⟩] 38)) := (Below.refl _ _).alloc (Nat.le_refl _) _
 replace c0 := keepsC hb0 c0
 replace c1 := keepsC hb0 c1
 replace c2 := keepsC hb0 c2
 replace c3 := keepsC hb0 c3
 replace c4 := keepsC hb0 c4
 replace c5 := keepsC hb0 c5
 replace c6 := keepsC hb0 c6
 replace c7 := keepsC hb0 c7
 replace hL0 := hL0.new rfl [.int .u64 0, .string ⟨#[]⟩, .bool false, .int .u64 0, .string ⟨#[]⟩] 38
 generalize hweq : w.alloc (.cells #[.int .u64 0, .string ⟨#[]⟩, .bool false, .int .u64 0, .string ⟨#[]⟩] 38) = x1 at hL0 c0 c1 c2 c3 c4 c5 c6 c7
 clear hb0
 replace c0 := Lib.hid c0
 replace c1 := Lib.hid c1
 replace c2 := Lib.hid c2
 replace c3 := Lib.hid c3
 replace c4 := Lib.hid c4
 replace c5 := Lib.hid c5
 replace c6 := Lib.hid c6
 replace c7 := Lib.hid c7
 go_enter Tryz.func92, Tryz.ntmps92
 go_upto_region 1 with fail
 clear hweq
 obtain ⟨α, iα, F, hF1, hF2⟩ := cls x1
 have hq0 : ∀ yz, (F yz).cell? ⟨b1, 0, none⟩ = some (.slice (some ⟨ga, 0, none⟩) na ca) := fun yz => keepsC (hF1 yz) c0.out
 have hq1 : ∀ yz, (F yz).cell? ⟨b2, 0, none⟩ = some (.slice (some ⟨gp, 0, none⟩) np cp) := fun yz => keepsC (hF1 yz) c1.out
 have hq2 : ∀ yz, (F yz).cell? ⟨gp, i, none⟩ = some (.int .i64 (p : Int)) := fun yz => keepsC (hF1 yz) c2.out
 have hq3 : ∀ yz, (F yz).cell? ⟨ga, p * 5, none⟩ = some (.int .u64 ((zl x.num : Nat) : Int)) := fun yz => keepsC (hF1 yz) c3.out
 have hq4 : ∀ yz, (F yz).cell? ⟨ga, p * 5 + 1, none⟩ = some (.string (zh x.num)) := fun yz => keepsC (hF1 yz) c4.out
 have hq5 : ∀ yz, (F yz).cell? ⟨ga, p * 5 + 2, none⟩ = some (.bool (zs x.num)) := fun yz => keepsC (hF1 yz) c5.out
 have hq6 : ∀ yz, (F yz).cell? ⟨ga, p * 5 + 3, none⟩ = some (.int .u64 ((lo (fe x) : Nat) : Int)) := fun yz => keepsC (hF1 yz) c6.out
 have hq7 : ∀ yz, (F yz).cell? ⟨ga, p * 5 + 4, none⟩ = some (.string (hs (fe x))) := fun yz => keepsC (hF1 yz) c7.out
 refine region_qs 7 (C := fun w' => ∃ x, w' = F x) (by kernel_rfl) (by kernel_rfl) (cls_drew hF2) ?_
 simp only [List.take_succ_cons, List.take_zero, List.drop_succ_cons, List.drop_zero, List.take_nil, List.drop_nil]
 repeat (go_big_quiet_step (first | fail))
 refine wpQuiet_nil ?_
 rintro wq ⟨xq, rfl⟩
 replace hL0 := hL0.call (hF1 xq)
 clear hq0 hq1 hq2 hq3 hq4 hq5 hq6 hq7 hF2
 generalize F xq = x2 at hL0 ⊢
 clear hF1 xq iα F α
 have hA := hL0.fc
 simp only [fcG, cellsF, neK, and_true, ne_eq, Nat.zero_add, Nat.reduceAdd] at hA
 have hPt := hL0.put 0 (w.heap.size) _ rfl [.int .u64 ((zl x.num : Nat) : Int), .string (zh x.num), .bool (zs x.num), .int .u64 ((lo (fe x) : Nat) : Int), .string (hs (fe x))] rfl
 simp only [setAll, List.set_cons_zero, List.set_cons_succ] at hPt
 generalize hput1 : (((((x2.setCell ⟨w.heap.size, 0, none⟩ (.int .u64 ((zl x.num : Nat) : Int))).setCell ⟨w.heap.size, 1, none⟩ (.string (zh x.num))).setCell ⟨w.heap.size, 2, none⟩ (.bool (zs x.num))).setCell ⟨w.heap.size, 3, none⟩ (.int .u64 ((lo (fe x) : Nat) : Int))).setCell ⟨w.heap.size, 4, none⟩ (.string (hs (fe x)))) = x9 at hPt
 have hB1 := hPt.fc
 simp only [fcG, cellsF, neK, and_true, ne_eq, Nat.zero_add, Nat.reduceAdd] at hB1
 go_wp2_with fail
 exact bodyPost_ret (v := fracV x) (by simp [results, Tryz.results92, go_sem, hB1]) rfl ⟨rfl, hPt.bl⟩
end Go.Proofs.YtoahpkelajimfaaGreatDoor
namespace Go.Proofs.YtoahpkelajimfaaGreatDoor
open Go.RowKit
attribute [local irreducible] lo hs sm s64 c64 d64 b64 mh ml pd pc qd qc val hiB str cmpI srD lz nb zl zh zs fe rowV
theorem vfault_arg {L : List (List Rat)} (hm : L.length ≤ 100000) (hL : ∀ l ∈ L, l.length ≤ 2048) (hne : ∃ l ∈ L, l.length ≠ (L.getD 0 []).length) (v : Value) (w : World) (hv : VLs w v L) :
  Calls Tryz.prog 63 #[v] w fun xe w' => xe = .returned (.int .i64 1) ∧ Below w.heap.size w w' := by
 refine (vls_fault hm hL hv).mono ?_
 rintro e w' ⟨ev, rfl, he, hb⟩
 rcases he with ⟨-, h⟩ | ⟨rfl, -⟩
 ·obtain ⟨l, hl, h'⟩ := hne
  exact absurd (h l hl) h'
 ·exact ⟨rfl, hb⟩
set_option maxHeartbeats 4000000 in
set_option maxRecDepth 100000 in
theorem vcombine_arg (fv : Value) (L : List (List Rat)) (hm : L.length ≤ 100000) (hL : ∀ l ∈ L, l.length ≤ 2048) (hne : ∃ l ∈ L, l.length ≠ (L.getD 0 []).length) (v : Value) (w : World) (hv : VLs w v L) :
  Calls Tryz.prog 54 #[fv, v] w fun xe w' => xe = .returned (.tuple #[.slice none 0 0, .int .i64 1]) ∧ Below w.heap.size w w' := by
 have HF := Lib.hid (vfault_arg hm hL hne v w hv)
 clear hv hne hL hm
 go_enter Tryz.func54, Tryz.ntmps54
 go_wp2_with fail
 with_reducible refine Calls.mono HF.out ?_
 rintro e y1 ⟨rfl, hb⟩
 replace hb := Lib.hid hb
 go_wp2_with fail
 exact bodyPost_ret (v := .tuple #[.slice none 0 0, .int .i64 1]) (by simp [results, Tryz.results54, go_sem]) rfl ⟨rfl, hb.out⟩
end Go.Proofs.YtoahpkelajimfaaGreatDoor
namespace Go.Proofs.YtoahpkelajimfaaGreatDoor
open Go.RowKit
attribute [local irreducible] lo hs sm s64 c64 d64 b64 mh ml pd pc qd qc val hiB str cmpI srD lz nb zl zh zs fe rowV tabV gv bsV mxV
theorem enaxpy : ∀ (args : Array Value) (w : World), (callFunc 59 args).run Tryz.prog w = .ok (.enter 59 args) w := enters_of Tryz.func59 (by kernel_rfl) rfl
theorem enof : ∀ (args : Array Value) (w : World), (callFunc 100 args).run Tryz.prog w = .ok (.enter 100 args) w := enters_of Tryz.func100 (by kernel_rfl) rfl
theorem enacross : ∀ (args : Array Value) (w : World), (callFunc 138 args).run Tryz.prog w = .ok (.enter 138 args) w := enters_of Tryz.func138 (by kernel_rfl) rfl
theorem enpart : ∀ (args : Array Value) (w : World), (callFunc 92 args).run Tryz.prog w = .ok (.enter 92 args) w := enters_of Tryz.func92 (by kernel_rfl) rfl
theorem ensum : ∀ (args : Array Value) (w : World), (callFunc 87 args).run Tryz.prog w = .ok (.enter 87 args) w := enters_of Tryz.func87 (by kernel_rfl) rfl
theorem enmix : ∀ (args : Array Value) (w : World), (callFunc 90 args).run Tryz.prog w = .ok (.enter 90 args) w := enters_of Tryz.func90 (by kernel_rfl) rfl
theorem vaxpy_at (c : Rat) (x y : List Rat) (n k b1 b2 b3 : Nat) (va vb : Value) (hx : x.length = n) (hy : y.length = n) (hk : k ≤ 1000000) (sc : Sz c k) (sx : ∀ q ∈ x, Sz q k) (sy : ∀ q ∈ y, Sz q k) (i : Nat) (hi : i < n) (w : World)
  (hw : Bq w b1 c ∧ SlQ w va x ∧ SlQ w vb y ∧ w.cell? ⟨b2, 0, none⟩ = some va ∧ w.cell? ⟨b3, 0, none⟩ = some vb) :
  Calls Tryz.prog 59 (#[.int .i64 (i : Int)] ++ #[.pointer (some ⟨b1, 0, none⟩), .pointer (some ⟨b2, 0, none⟩), .pointer (some ⟨b3, 0, none⟩)]) w fun xe w' => xe = .returned (fracV (c * gv x i + gv y i)) ∧ Below w.heap.size w w' := by
 obtain ⟨⟨p0, p1, p2, p3, p4⟩, h1, h2, h3, h4⟩ := hw
 obtain ⟨aa, ca, rfl⟩ := slq_form' h1
 obtain ⟨ab, cb, rfl⟩ := slq_form' h2
 obtain ⟨ga, rfl, -, f1⟩ := slq_at h1 i (by omega)
 obtain ⟨gb, rfl, -, f2⟩ := slq_at h2 i (by omega)
 obtain ⟨r0, r1, r2, r3, r4⟩ := fsc f1 i (by omega)
 obtain ⟨q0, q1, q2, q3, q4⟩ := fsc f2 i (by omega)
 have sxi := qsk x sx i (by omega)
 exact vaxpy1_w i x.length y.length ca cb ga gb b1 b2 b3 c (gv x i) (gv y i) (c * gv x i) _ (fun w => mulF _ _ k sc sxi (by omega) w) (fun w => addF _ _ (k + k) (sc.mul sxi) ((qsk y sy i (by omega)).mono (by omega)) (by omega) w) (by omega) (by omega) w p0 p1 p2 p3 p4 h3 h4 r0 r1 r2 r3 r4 q0 q1 q2 q3 q4
set_option maxHeartbeats 4000000 in
set_option maxRecDepth 100000 in
theorem vaxpyV (c : Rat) (x y : List Rat) (n k : Nat) (hx : x.length = n) (hy : y.length = n) (hn : n ≤ 2048) (hk : k ≤ 1000000) (sc : Sz c k) (sx : ∀ q ∈ x, Sz q k) (sy : ∀ q ∈ y, Sz q k) (va vb : Value) (w : World) (hv : SlQ w va x) (hu : SlQ w vb y) :
  Calls Tryz.prog 21 #[fracV c, va, vb] w fun xe w' => ∃ u, xe = .returned (.tuple #[u, .int .i64 0]) ∧ NV w.heap.size (tabV n fun i => c * gv x i + gv y i) u w' ∧ Below w.heap.size w w' := by
 obtain ⟨aa, ca, rfl⟩ := slq_form' hv
 obtain ⟨ab, cb, rfl⟩ := slq_form' hu
 rw [hx] at hv ⊢
 rw [hy] at hu ⊢
 have HCl := fun b1 b2 b3 => vaxpy_at c x y n k b1 b2 b3 (.slice aa n ca) (.slice ab n cb) hx hy hk sc sx sy
 have hL0 : GL w w [] := GL.start w
 replace hL0 := (((hL0.new rfl [.int .u64 ((zl c.num : Nat) : Int), .string (zh c.num), .bool (zs c.num), .int .u64 ((lo (fe c) : Nat) : Int), .string (hs (fe c))] 38).new (K := w.heap.size + 1) (szA _ _) [.slice aa n ca] 30).new (K := w.heap.size + 1 + 1) (by simp only [World.size_alloc]) [.slice ab n cb] 30)
 generalize hweq : (((w.alloc (.cells #[.int .u64 ((zl c.num : Nat) : Int), .string (zh c.num), .bool (zs c.num), .int .u64 ((lo (fe c) : Nat) : Int), .string (hs (fe c))] 38)).alloc (.cells #[.slice aa n ca] 30)).alloc (.cells #[.slice ab n cb] 30)) = x1 at hL0
 have hv1 := hv.below hL0.bl
 have hu1 := hu.below hL0.bl
 have hc1 := (hL0.get _ _ (List.mem_cons_of_mem _ List.mem_cons_self)).cell 0 (by simp)
 simp only [List.getElem_cons_zero, List.getElem_cons_succ] at hc1
 have hc2 := (hL0.get _ _ List.mem_cons_self).cell 0 (by simp)
 simp only [List.getElem_cons_zero, List.getElem_cons_succ] at hc2
 have hB := Bq.of (hL0.get _ _ (List.mem_cons_of_mem _ (List.mem_cons_of_mem _ List.mem_cons_self)))
 have hb2 : Below x1.heap.size x1 (x1.alloc (.cells #[.slice aa n ca, .slice ab n cb] 30)) := (Below.refl _ _).alloc (Nat.le_refl _) _
 replace hL0 := (hL0.new rfl [.slice aa n ca, .slice ab n cb] 30)
 generalize hweq2 : (x1.alloc (.cells #[.slice aa n ca, .slice ab n cb] 30)) = x2 at hL0
 rw [hweq2] at hb2
 have hv2 := hv1.below hb2
 have hu2 := hu1.below hb2
 have hd2 := keepsC hb2 hc1
 have hd3 := keepsC hb2 hc2
 have hvl := vls_two (c := 2) (hL0.get _ _ List.mem_cons_self) hv2 hu2
 have HC := vcombine_ok 59 #[.pointer (some ⟨w.heap.size, 0, none⟩), .pointer (some ⟨w.heap.size + 1, 0, none⟩), .pointer (some ⟨w.heap.size + 1 + 1, 0, none⟩)] enaxpy n (fun i => c * gv x i + gv y i) (fun w => Bq w _ c ∧ SlQ w (.slice aa n ca) x ∧ SlQ w (.slice ab n cb) y ∧ w.cell? ⟨_, 0, none⟩ = some (.slice aa n ca) ∧ w.cell? ⟨_, 0, none⟩ = some (.slice ab n cb)) (Keeps.and (Bq.keeps _ _) (Keeps.and (SlQ.keeps _ _) (Keeps.and (SlQ.keeps _ _) (Keeps.and (keepsB _ _) (keepsB _ _))))) (HCl _ _ _) [x, y] (by simp) (by simp) (by simp [hx, hy]) hn _ x2 ⟨Bq.keeps _ _ _ _ hb2 hB, hv2, hu2, hd2, hd3⟩ hvl
 replace HC := Lib.hid HC
 replace hL0 := Lib.hid hL0
 clear hv hv1 hv2 hu hu1 hu2 hvl hd2 hd3 hb2 HCl sx sy hx hy hB sc
 go_enter Tryz.func21, Tryz.ntmps21
 go_wp2_with fail
 with_reducible refine Calls.mono HC.out ?_
 rintro e y2 ⟨u, rfl, hnv, hb⟩
 replace hnv := Lib.hid (hnv.mono hL0.out.bl.size)
 replace hb := Lib.hid (hL0.out.bl.trans (hb.mono hL0.out.bl.size))
 obtain ⟨gu, rfl, -, -⟩ := id hnv.out
 clear hweq hweq2 hc1 hc2
 go_wp2_with fail
 exact bodyPost_ret (v := .tuple #[_, .int .i64 0]) (by simp [results, Tryz.results21, go_sem]) rfl ⟨_, rfl, hnv.out, hb.out⟩
end Go.Proofs.YtoahpkelajimfaaGreatDoor
namespace Go.Proofs.YtoahpkelajimfaaGreatDoor
open Go.RowKit
attribute [local irreducible] lo hs sm s64 c64 d64 b64 mh ml pd pc qd qc val hiB str cmpI srD lz nb zl zh zs fe rowV tabV gv bsV mxV
def colV (L : List (List Rat)) (i k : Nat) : Rat := gv (L.getD k []) i
theorem getD_at {L : List (List Rat)} {k : Nat} (h : k < L.length) : L.getD k [] = L[k] := by rw [List.getD_eq_getElem?_getD, List.getElem?_eq_getElem h]; rfl
theorem vacross_at (L : List (List Rat)) (i b1 b2 : Nat) (v : Value) (hL : ∀ l ∈ L, i < l.length) (k : Nat) (hk : k < L.length) (w : World) (hw : VLs w v L ∧ w.cell? ⟨b1, 0, none⟩ = some v ∧ w.cell? ⟨b2, 0, none⟩ = some (.int .i64 (i : Int))) :
  Calls Tryz.prog 138 (#[.int .i64 (k : Int)] ++ #[.pointer (some ⟨b1, 0, none⟩), .pointer (some ⟨b2, 0, none⟩)]) w fun xe w' => xe = .returned (fracV (colV L i k)) ∧ Below w.heap.size w w' := by
 obtain ⟨⟨ao, c, g, rfl, h2, h3⟩, h4, h5⟩ := hw
 obtain ⟨rfl, -⟩ := h2 (by omega)
 obtain ⟨u, h6, h7⟩ := h3 k hk
 have hl := hL _ (List.getElem_mem hk)
 obtain ⟨aa, ca, rfl⟩ := slq_form' h7
 obtain ⟨ga, rfl, -, f1⟩ := slq_at h7 i hl
 obtain ⟨p0, p1, p2, p3, p4⟩ := fsc f1 i hl
 unfold colV
 rw [getD_at hk]
 exact vacross1_w k i L.length c g L[k].length ca ga b1 b2 (gv L[k] i) hk hl w h4 h5 h6 p0 p1 p2 p3 p4
set_option maxHeartbeats 4000000 in
set_option maxRecDepth 100000 in
theorem vacrossV (L : List (List Rat)) (i : Nat) (hm : L.length ≤ 100000) (hL : ∀ l ∈ L, i < l.length) (v : Value) (w : World) (hv : VLs w v L) :
  Calls Tryz.prog 89 #[v, .int .i64 (i : Int)] w fun xe w' => ∃ u, xe = .returned u ∧ NV w.heap.size (tabV L.length (colV L i)) u w' ∧ Below w.heap.size w w' := by
 have HCl := fun b1 b2 => vacross_at L i b1 b2 v hL
 obtain ⟨ao, c, -, rfl, -⟩ := id hv
 have hL0 : GL w w [] := GL.start w
 replace hL0 := ((hL0.new rfl [.slice ao L.length c] 68).new (K := w.heap.size + 1) (szA _ _) [.int .i64 (i : Int)] 3)
 generalize hweq : ((w.alloc (.cells #[.slice ao L.length c] 68)).alloc (.cells #[.int .i64 (i : Int)] 3)) = x1 at hL0
 have hv1 := hv.below hL0.bl
 have hc1 := (hL0.get _ _ (List.mem_cons_of_mem _ List.mem_cons_self)).cell 0 (by simp)
 simp only [List.getElem_cons_zero, List.getElem_cons_succ] at hc1
 have hc2 := (hL0.get _ _ List.mem_cons_self).cell 0 (by simp)
 simp only [List.getElem_cons_zero, List.getElem_cons_succ] at hc2
 have HC := veach_w 138 #[.pointer (some ⟨w.heap.size, 0, none⟩), .pointer (some ⟨w.heap.size + 1, 0, none⟩)] enacross L.length (colV L i) (fun w => VLs w (.slice ao L.length c) L ∧ w.cell? ⟨_, 0, none⟩ = some (.slice ao L.length c) ∧ w.cell? ⟨_, 0, none⟩ = some (.int .i64 (i : Int))) (Keeps.and (VLs.keeps _ _) (Keeps.and (keepsB _ _) (keepsB _ _))) (HCl _ _) hm x1 ⟨hv1, hc1, hc2⟩
 clear hv hv1 HCl hL
 generalize tabV L.length (colV L i) = tl at *
 generalize L.length = m at *
 replace HC := Lib.hid HC
 replace hL0 := Lib.hid hL0
 go_enter Tryz.func89, Tryz.ntmps89
 go_wp2_with fail
 with_reducible refine Calls.mono HC.out ?_
 rintro e y1 ⟨u, rfl, hnv, hb⟩
 replace hnv := Lib.hid (hnv.mono hL0.out.bl.size)
 replace hb := Lib.hid (hL0.out.bl.trans (hb.mono hL0.out.bl.size))
 clear hc1 hc2 hweq
 obtain ⟨gu, rfl, -, -⟩ := id hnv.out
 go_wp2_with fail
 exact bodyPost_ret (v := .slice (some ⟨gu, 0, none⟩) _ _) (by simp [results, Tryz.results89, go_sem]) rfl ⟨_, rfl, hnv.out, hb.out⟩
end Go.Proofs.YtoahpkelajimfaaGreatDoor
namespace Go.Proofs.YtoahpkelajimfaaGreatDoor
open Go.RowKit
attribute [local irreducible] lo hs sm s64 c64 d64 b64 mh ml pd pc qd qc val hiB str cmpI srD lz nb zl zh zs fe rowV tabV gv bsV mxV colV
theorem col_sz {L : List (List Rat)} {n k : Nat} (hL : ∀ l ∈ L, l.length = n) (hs : ∀ l ∈ L, ∀ q ∈ l, Sz q k) {i : Nat} (hi : i < n) {j : Nat} (hj : j < L.length) : Sz (colV L i j) k := by
 unfold colV
 rw [getD_at hj]
 exact hs _ (List.getElem_mem hj) _ (gv_mem (by rw [hL _ (List.getElem_mem hj)]; exact hi))
set_option maxHeartbeats 4000000 in
set_option maxRecDepth 100000 in
theorem vsum_at (L : List (List Rat)) (n k b1 : Nat) (v : Value) (hm : L.length ≤ 1000) (hL : ∀ l ∈ L, l.length = n) (hk : k ≤ 10) (hs : ∀ l ∈ L, ∀ q ∈ l, Sz q k) (i : Nat) (hi : i < n) (w : World) (hw : VLs w v L ∧ w.cell? ⟨b1, 0, none⟩ = some v) :
  Calls Tryz.prog 87 (#[.int .i64 (i : Int)] ++ #[.pointer (some ⟨b1, 0, none⟩)]) w fun xe w' => xe = .returned (fracV (bsV L.length (colV L i))) ∧ Below w.heap.size w w' := by
 obtain ⟨h1, h2⟩ := hw
 have HA := Lib.hid (fun w hv => vacrossV L i (by omega) (fun l hl => by rw [hL l hl]; exact hi) v w hv)
 have HS := Lib.hid (fun v w h => sum_tab L.length k (colV L i) hm hk (fun j hj => col_sz hL hs hi hj) v w h)
 obtain ⟨ao, c, -, rfl, -⟩ := id h1
 generalize bsV L.length (colV L i) = r at *
 generalize tabV L.length (colV L i) = tl at *
 generalize L.length = m at *
 have k0 : (0 : Int) ≤ (i : Int) := Int.natCast_nonneg _
 show Calls _ _ #[.int .i64 (i : Int), .pointer (some ⟨b1, 0, none⟩)] _ _
 have hL0 : GL w w [] := GL.start w
 replace hL0 := (hL0.new rfl [.int .u64 0, .string ⟨#[]⟩, .bool false, .int .u64 0, .string ⟨#[]⟩] 38)
 generalize hweq : (w.alloc (.cells #[.int .u64 0, .string ⟨#[]⟩, .bool false, .int .u64 0, .string ⟨#[]⟩] 38)) = x1 at hL0
 have h3 := Lib.hid (h1.below hL0.bl)
 have hc1 := keepsC hL0.bl h2
 clear h1 h2 hL hs
 go_enter Tryz.func87, Tryz.ntmps87
 go_wp2_with fail
 with_reducible refine Calls.mono (HA.out _ h3.out) ?_
 rintro e y1 ⟨u, rfl, hnv, hb⟩
 replace hL0 := hL0.call hb
 clear hb hc1 hweq h3
 have hsl := Lib.hid hnv.slq
 obtain ⟨gu, rfl, -, -⟩ := hnv
 go_wp2_with fail
 with_reducible refine Calls.mono (HS.out _ _ hsl.out) ?_
 rintro e y2 ⟨rfl, hb⟩
 replace hL0 := hL0.call hb
 clear hb hsl
 have hA := hL0.fc
 simp only [fcG, cellsF, neK, and_true, ne_eq, Nat.zero_add, Nat.reduceAdd] at hA
 have hPt := hL0.put 0 (w.heap.size) _ rfl [.int .u64 ((zl r.num : Nat) : Int), .string (zh r.num), .bool (zs r.num), .int .u64 ((lo (fe r) : Nat) : Int), .string (hs (fe r))] rfl
 simp only [setAll, List.set_cons_zero, List.set_cons_succ] at hPt
 generalize hput1 : (((((y2.setCell ⟨w.heap.size, 0, none⟩ (.int .u64 ((zl r.num : Nat) : Int))).setCell ⟨w.heap.size, 1, none⟩ (.string (zh r.num))).setCell ⟨w.heap.size, 2, none⟩ (.bool (zs r.num))).setCell ⟨w.heap.size, 3, none⟩ (.int .u64 ((lo (fe r) : Nat) : Int))).setCell ⟨w.heap.size, 4, none⟩ (.string (hs (fe r)))) = y3 at hPt
 have hB1 := hPt.fc
 simp only [fcG, cellsF, neK, and_true, ne_eq, Nat.zero_add, Nat.reduceAdd] at hB1
 go_wp2_with fail
 exact bodyPost_ret (v := fracV r) (by simp [results, Tryz.results87, go_sem, hB1]) rfl ⟨rfl, hPt.bl⟩
set_option maxHeartbeats 4000000 in
set_option maxRecDepth 100000 in
theorem vsumV (L : List (List Rat)) (n k : Nat) (h0 : 0 < L.length) (hm : L.length ≤ 1000) (hL : ∀ l ∈ L, l.length = n) (hn : n ≤ 2048) (hk : k ≤ 10) (hs : ∀ l ∈ L, ∀ q ∈ l, Sz q k) (v : Value) (w : World) (hv : VLs w v L) :
  Calls Tryz.prog 37 #[v] w fun xe w' => ∃ u, xe = .returned (.tuple #[u, .int .i64 0]) ∧ NV w.heap.size (tabV n fun i => bsV L.length (colV L i)) u w' ∧ Below w.heap.size w w' := by
 have HCl := fun b1 => vsum_at L n k b1 v hm hL hk hs
 obtain ⟨ao, c, -, rfl, -⟩ := id hv
 have hL0 : GL w w [] := GL.start w
 replace hL0 := (hL0.new rfl [.slice ao L.length c] 68)
 generalize hweq : (w.alloc (.cells #[.slice ao L.length c] 68)) = x1 at hL0
 have hv1 := hv.below hL0.bl
 have hc1 := (hL0.get _ _ List.mem_cons_self).cell 0 (by simp)
 simp only [List.getElem_cons_zero, List.getElem_cons_succ] at hc1
 have HC := vcombine_ok 87 #[.pointer (some ⟨w.heap.size, 0, none⟩)] ensum n (fun i => bsV L.length (colV L i)) (fun w => VLs w (.slice ao L.length c) L ∧ w.cell? ⟨_, 0, none⟩ = some (.slice ao L.length c)) (Keeps.and (VLs.keeps _ _) (keepsB _ _)) (HCl _) L h0 (by omega) hL hn _ x1 ⟨hv1, hc1⟩ hv1
 clear hv hv1 HCl hL hs
 generalize tabV n (fun i => bsV L.length (colV L i)) = tl at *
 generalize L.length = m at *
 replace HC := Lib.hid HC
 replace hL0 := Lib.hid hL0
 go_enter Tryz.func37, Tryz.ntmps37
 go_wp2_with fail
 with_reducible refine Calls.mono HC.out ?_
 rintro e y2 ⟨u, rfl, hnv, hb⟩
 replace hnv := Lib.hid (hnv.mono hL0.out.bl.size)
 replace hb := Lib.hid (hL0.out.bl.trans (hb.mono hL0.out.bl.size))
 obtain ⟨gu, rfl, -, -⟩ := id hnv.out
 clear hc1 hweq
 go_wp2_with fail
 exact bodyPost_ret (v := .tuple #[_, .int .i64 0]) (by simp [results, Tryz.results37, go_sem]) rfl ⟨_, rfl, hnv.out, hb.out⟩
/-- The coefficients as a list. -/
def mixV (c : List Rat) (L : List (List Rat)) (i : Nat) : Rat := bsV L.length fun k => gv c k * colV L i k
set_option maxHeartbeats 4000000 in
set_option maxRecDepth 100000 in
theorem vmix_at (cl : List Rat) (L : List (List Rat)) (n k b1 b2 : Nat) (vc v : Value) (hc : cl.length = L.length) (hm : L.length ≤ 1000) (hL : ∀ l ∈ L, l.length = n) (hk : k ≤ 5) (hs : ∀ l ∈ L, ∀ q ∈ l, Sz q k) (sc : ∀ q ∈ cl, Sz q k) (i : Nat) (hi : i < n) (w : World) (hw : SlQ w vc cl ∧ VLs w v L ∧ w.cell? ⟨b1, 0, none⟩ = some vc ∧ w.cell? ⟨b2, 0, none⟩ = some v) :
  Calls Tryz.prog 90 (#[.int .i64 (i : Int)] ++ #[.pointer (some ⟨b1, 0, none⟩), .pointer (some ⟨b2, 0, none⟩)]) w fun xe w' => xe = .returned (fracV (mixV cl L i)) ∧ Below w.heap.size w w' := by
 obtain ⟨h0, h1, h2, h3⟩ := hw
 have HA := Lib.hid (fun w hv => vacrossV L i (by omega) (fun l hl => by rw [hL l hl]; exact hi) v w hv)
 have HD := Lib.hid (fun u w (hu : SlQ w vc cl) (h : SlQ w u (tabV L.length (colV L i))) => vdotS cl (tabV L.length (colV L i)) L.length k hc (tabV_len _ _) hm hk sc (tab_all fun j hj => col_sz hL hs hi hj) vc u w hu h)
 have er : bsV L.length (fun j => gv cl j * gv (tabV L.length (colV L i)) j) = mixV cl L i := bs_congr fun j hj => by rw [gv_tab hj]
 rw [er] at HD
 clear er
 obtain ⟨ac, cc, rfl⟩ := slq_form' h0
 obtain ⟨ao, c, -, rfl, -⟩ := id h1
 generalize mixV cl L i = r at *
 generalize tabV L.length (colV L i) = tl at *
 generalize L.length = m at *
 have k0 : (0 : Int) ≤ (i : Int) := Int.natCast_nonneg _
 show Calls _ _ #[.int .i64 (i : Int), .pointer (some ⟨b1, 0, none⟩), .pointer (some ⟨b2, 0, none⟩)] _ _
 have hL0 : GL w w [] := GL.start w
 replace hL0 := (hL0.new rfl [.int .u64 0, .string ⟨#[]⟩, .bool false, .int .u64 0, .string ⟨#[]⟩] 38)
 generalize hweq : (w.alloc (.cells #[.int .u64 0, .string ⟨#[]⟩, .bool false, .int .u64 0, .string ⟨#[]⟩] 38)) = x1 at hL0
 have h4 := Lib.hid (h0.below hL0.bl)
 have h5 := Lib.hid (h1.below hL0.bl)
 have hc1 := Lib.hid (keepsC hL0.bl h2)
 have hc2 := Lib.hid (keepsC hL0.bl h3)
 clear h0 h1 h2 h3 hL hs sc
 go_enter Tryz.func90, Tryz.ntmps90
 go_upto_region 1 with fail
 clear hweq
 refine region_tl 5 [EV (.slice ac cl.length cc), EV (.slice ao m c), EV (.int .i64 (i : Int)), PV8 tl, EV (fracV r)] (by kernel_rfl) (by kernel_rfl) ?_ ?_ ?_
 ·exact stays_cons (stays_eq _) (stays_cons (stays_eq _) (stays_cons (stays_eq _) (stays_cons (stays_slq8 _) (stays_cons (stays_eq _) stays_nil))))
 ·simp only [List.take_succ_cons, List.take_zero, hopsR, and_true]
  refine ⟨?_, ?_, ?_, ?_, ?_⟩ <;> intro fv w1 hb1 hp
  all_goals (simp only [putsV, Act.put, List.setIfInBounds_toArray, List.set_cons_succ, List.set_cons_zero, Nat.zero_add, Nat.reduceAdd])
  ·refine tyAt_none rfl ?_
   have hz := keepsC (below_drew hb1) hc1.out
   simp [tyUpon, execOp, go_sem, Act.eval, hz, Below.refl]
  ·refine tyAt_none rfl ?_
   have hz := keepsC (below_drew hb1) hc2.out
   simp [tyUpon, execOp, go_sem, Act.eval, hz, Below.refl]
  ·refine tyAt_none rfl ?_
   simp [tyUpon, execOp, go_sem, Act.eval, Below.refl]
  ·have e1 : EV _ (fv 1) w1 := hp 1 (LC (by kernel_rfl))
   have e2 : EV _ (fv 2) w1 := hp 2 (LC (by kernel_rfl))
   refine tyAt_none rfl ?_
   refine ty_call (f := 89) (args := #[.slice ao m c, .int .i64 (i : Int)]) (by simp [execOp, go_sem, Act.eval, e1, e2]) ?_
   exact (HA.out w1 (h5.out.below (below_drew hb1))).mono fun e w2 ⟨u, h1, h2, h3⟩ => ⟨_, h1, h2.slq, h3⟩
  ·have e0 : EV _ (fv 0) w1 := hp 0 (LC (by kernel_rfl))
   have e3 : PV8 tl (fv 3) w1 := hp 3 (LC (by kernel_rfl))
   refine tyAt_none rfl ?_
   refine ty_call (f := 64) (args := #[.slice ac cl.length cc, fv 3]) (by simp [execOp, go_sem, Act.eval, e0]) ?_
   exact (HD.out _ w1 (h4.out.below (below_drew hb1)) e3).mono fun e w2 ⟨h1, h2⟩ => ⟨_, h1, rfl, h2⟩
 ·intro fv x2 hb1 hv
  have e0 : fv 0 = _ := hv 0 (by omega)
  have e1 : fv 1 = _ := hv 1 (by omega)
  have e2 : fv 2 = _ := hv 2 (by omega)
  have q3 : SlQ x2 (fv 3) tl := hv 3 (by omega)
  obtain ⟨a3, c3, e3⟩ := slq_form' q3
  have e4 : fv 4 = _ := hv 4 (by omega)
  simp only [List.take_succ_cons, List.take_zero, putsV, Act.put, List.setIfInBounds_toArray, List.set_cons_succ, List.set_cons_zero, List.drop_succ_cons, List.drop_zero, Nat.zero_add, Nat.reduceAdd, e0, e1, e2, e3, e4]
  replace hL0 := hL0.call (below_drew hb1)
  clear e0 e1 e2 e3 e4 q3 hb1 hv fv
  have hA := hL0.fc
  simp only [fcG, cellsF, neK, and_true, ne_eq, Nat.zero_add, Nat.reduceAdd] at hA
  have hPt := hL0.put 0 (w.heap.size) _ rfl [.int .u64 ((zl r.num : Nat) : Int), .string (zh r.num), .bool (zs r.num), .int .u64 ((lo (fe r) : Nat) : Int), .string (hs (fe r))] rfl
  simp only [setAll, List.set_cons_zero, List.set_cons_succ] at hPt
  generalize hput1 : (((((x2.setCell ⟨w.heap.size, 0, none⟩ (.int .u64 ((zl r.num : Nat) : Int))).setCell ⟨w.heap.size, 1, none⟩ (.string (zh r.num))).setCell ⟨w.heap.size, 2, none⟩ (.bool (zs r.num))).setCell ⟨w.heap.size, 3, none⟩ (.int .u64 ((lo (fe r) : Nat) : Int))).setCell ⟨w.heap.size, 4, none⟩ (.string (hs (fe r)))) = y3 at hPt
  have hB1 := hPt.fc
  simp only [fcG, cellsF, neK, and_true, ne_eq, Nat.zero_add, Nat.reduceAdd] at hB1
  go_wp2_with fail
  exact bodyPost_ret (v := fracV r) (by simp [results, Tryz.results90, go_sem, hB1]) rfl ⟨rfl, hPt.bl⟩
set_option maxHeartbeats 4000000 in
set_option maxRecDepth 100000 in
theorem vmixV (cl : List Rat) (L : List (List Rat)) (n k : Nat) (h0 : 0 < L.length) (hc : cl.length = L.length) (hm : L.length ≤ 1000) (hL : ∀ l ∈ L, l.length = n) (hn : n ≤ 2048) (hk : k ≤ 5) (hs : ∀ l ∈ L, ∀ q ∈ l, Sz q k) (sc : ∀ q ∈ cl, Sz q k) (vc v : Value) (w : World) (hq : SlQ w vc cl) (hv : VLs w v L) :
  Calls Tryz.prog 38 #[vc, v] w fun xe w' => ∃ u, xe = .returned (.tuple #[u, .int .i64 0]) ∧ NV w.heap.size (tabV n (mixV cl L)) u w' ∧ Below w.heap.size w w' := by
 have HCl := fun b1 b2 => vmix_at cl L n k b1 b2 vc v hc hm hL hk hs sc
 obtain ⟨ac, cc, rfl⟩ := slq_form' hq
 obtain ⟨ao, c, -, rfl, -⟩ := id hv
 rw [hc] at hq HCl ⊢
 have HF := Lib.hid (fun v w hv => vfault_ok (by omega) hL hn v w hv)
 have hL0 : GL w w [] := GL.start w
 replace hL0 := ((hL0.new rfl [.slice ac L.length cc] 29).new (K := w.heap.size + 1) (szA _ _) [.slice ao L.length c] 68)
 generalize hweq : ((w.alloc (.cells #[.slice ac L.length cc] 29)).alloc (.cells #[.slice ao L.length c] 68)) = x1 at hL0
 have hv1 := Lib.hid (hv.below hL0.bl)
 have hq1 := Lib.hid (hq.below hL0.bl)
 have hc1 := (hL0.get _ _ (List.mem_cons_of_mem _ List.mem_cons_self)).cell 0 (by simp)
 simp only [List.getElem_cons_zero, List.getElem_cons_succ] at hc1
 have hc2 := (hL0.get _ _ List.mem_cons_self).cell 0 (by simp)
 simp only [List.getElem_cons_zero, List.getElem_cons_succ] at hc2
 have HC := fun wx hw hv => vcombine_ok 90 #[.pointer (some ⟨w.heap.size, 0, none⟩), .pointer (some ⟨w.heap.size + 1, 0, none⟩)] enmix n (mixV cl L) (fun w => SlQ w (.slice ac L.length cc) cl ∧ VLs w (.slice ao L.length c) L ∧ w.cell? ⟨_, 0, none⟩ = some (.slice ac L.length cc) ∧ w.cell? ⟨_, 0, none⟩ = some (.slice ao L.length c)) (Keeps.and (SlQ.keeps _ _) (Keeps.and (VLs.keeps _ _) (Keeps.and (keepsB _ _) (keepsB _ _)))) (HCl _ _) L h0 (by omega) hL hn (.slice ao L.length c) wx hw hv
 clear hv hq HCl hL hs sc
 generalize tabV n (mixV cl L) = tl at *
 replace HC := Lib.hid HC
 replace hL0 := Lib.hid hL0
 go_enter Tryz.func38, Tryz.ntmps38
 go_wp2_with fail
 with_reducible refine Calls.mono (HF.out _ _ hv1.out) ?_
 rintro e y1 ⟨rfl, hb1⟩
 have hd1 := keepsC hb1 hc1
 have hd2 := keepsC hb1 hc2
 have hv2 := Lib.hid (hv1.out.below hb1)
 have hq2 := Lib.hid (hq1.out.below hb1)
 have hL1 := Lib.hid (hL0.out.call hb1)
 clear hb1 hc1 hc2 hweq hL0 hv1 hq1
 have n2 : (((L.length : Nat) : Int) == ((L.length : Nat) : Int)) = true := by simp
 go_wp2_with fail
 with_reducible refine Calls.mono (HC.out _ ⟨hq2.out, hv2.out, hd1, hd2⟩ hv2.out) ?_
 rintro e y2 ⟨u, rfl, hnv, hb⟩
 replace hnv := Lib.hid (hnv.mono hL1.out.bl.size)
 replace hb := Lib.hid (hL1.out.bl.trans (hb.mono hL1.out.bl.size))
 obtain ⟨gu, rfl, -, -⟩ := id hnv.out
 clear hd1 hd2
 go_wp2_with fail
 exact bodyPost_ret (v := .tuple #[_, .int .i64 0]) (by simp [results, Tryz.results38, go_sem]) rfl ⟨_, rfl, hnv.out, hb.out⟩
end Go.Proofs.YtoahpkelajimfaaGreatDoor
namespace Go.Proofs.YtoahpkelajimfaaGreatDoor
open Go.RowKit
attribute [local irreducible] lo hs sm s64 c64 d64 b64 mh ml pd pc qd qc val hiB str cmpI srD lz nb zl zh zs fe rowV tabV gv bsV mxV colV
set_option maxHeartbeats 4000000 in
set_option maxRecDepth 100000 in
theorem vindex_in (i n : Int) (h0 : 0 ≤ i) (h1 : i < n) (w : World) : Calls Tryz.prog 91 #[.int .i64 i, .int .i64 n] w fun xe w' => xe = .returned (.bool true) ∧ Below w.heap.size w w' := by
 go_enter Tryz.func91, Tryz.ntmps91
 go_wp2_with fail
 exact bodyPost_ret (v := .bool true) (by simp [results, Tryz.results91, go_sem]) rfl ⟨rfl, Below.refl _ _⟩
set_option maxHeartbeats 4000000 in
set_option maxRecDepth 100000 in
theorem vindex_low (i n : Int) (h0 : i < 0) (w : World) : Calls Tryz.prog 91 #[.int .i64 i, .int .i64 n] w fun xe w' => xe = .returned (.bool false) ∧ Below w.heap.size w w' := by
 have h1 : ¬ 0 ≤ i := by omega
 go_enter Tryz.func91, Tryz.ntmps91
 go_wp2_with fail
 exact bodyPost_ret (v := .bool false) (by simp [results, Tryz.results91, go_sem]) rfl ⟨rfl, Below.refl _ _⟩
set_option maxHeartbeats 4000000 in
set_option maxRecDepth 100000 in
theorem vindex_high (i n : Int) (h0 : 0 ≤ i) (h1 : n ≤ i) (w : World) : Calls Tryz.prog 91 #[.int .i64 i, .int .i64 n] w fun xe w' => xe = .returned (.bool false) ∧ Below w.heap.size w w' := by
 have h2 : ¬ i < n := by omega
 go_enter Tryz.func91, Tryz.ntmps91
 go_wp2_with fail
 exact bodyPost_ret (v := .bool false) (by simp [results, Tryz.results91, go_sem]) rfl ⟨rfl, Below.refl _ _⟩
theorem vindexV (i n : Int) (w : World) : Calls Tryz.prog 91 #[.int .i64 i, .int .i64 n] w fun xe w' => xe = .returned (.bool (decide (0 ≤ i ∧ i < n))) ∧ Below w.heap.size w w' := by
 by_cases h0 : 0 ≤ i
 ·by_cases h1 : i < n
  ·rw [decide_eq_true ⟨h0, h1⟩]; exact vindex_in i n h0 h1 w
  ·rw [decide_eq_false (fun h => h1 h.2)]; exact vindex_high i n h0 (by omega) w
 ·rw [decide_eq_false (fun h => h0 h.1)]; exact vindex_low i n (by omega) w
set_option maxHeartbeats 4000000 in
set_option maxRecDepth 100000 in
theorem vzero_neg (n : Int) (hn : n < 0) (w : World) : Calls Tryz.prog 40 #[.int .i64 n] w fun xe w' => xe = .returned (.tuple #[.slice none 0 0, .int .i64 1]) ∧ Below w.heap.size w w' := by
 go_enter Tryz.func40, Tryz.ntmps40
 go_wp2_with fail
 exact bodyPost_ret (v := .tuple #[.slice none 0 0, .int .i64 1]) (by simp [results, Tryz.results40, go_sem]) rfl ⟨rfl, Below.refl _ _⟩
set_option maxHeartbeats 4000000 in
set_option maxRecDepth 100000 in
theorem vzero_big (n : Int) (hn : 2048 < n) (w : World) : Calls Tryz.prog 40 #[.int .i64 n] w fun xe w' => xe = .returned (.tuple #[.slice none 0 0, .int .i64 3]) ∧ Below w.heap.size w w' := by
 have k2 : ¬ n < 0 := by omega
 go_enter Tryz.func40, Tryz.ntmps40
 go_wp2_with fail
 exact bodyPost_ret (v := .tuple #[.slice none 0 0, .int .i64 3]) (by simp [results, Tryz.results40, go_sem]) rfl ⟨rfl, Below.refl _ _⟩
set_option maxHeartbeats 4000000 in
set_option maxRecDepth 100000 in
theorem vunit_out (n : Nat) (i : Int) (hn : n ≤ 2048) (hi : ¬ (0 ≤ i ∧ i < (n : Int))) (w : World) : Calls Tryz.prog 47 #[.int .i64 (n : Int), .int .i64 i] w fun xe w' => xe = .returned (.tuple #[.slice none 0 0, .int .i64 1]) ∧ Below w.heap.size w w' := by
 have HZ := Lib.hid (fun w => vzero_ok n hn w)
 have HI := Lib.hid (fun w => vindexV i (n : Int) w)
 rw [decide_eq_false hi] at HI
 go_enter Tryz.func47, Tryz.ntmps47
 go_wp2_with fail
 with_reducible refine Calls.mono (HZ.out _) ?_
 rintro e y1 ⟨u, rfl, hnv, hb⟩
 obtain ⟨gu, rfl, -, -⟩ := hnv
 replace hb := Lib.hid hb
 go_wp2_with fail
 with_reducible refine Calls.mono (HI.out _) ?_
 rintro e y2 ⟨rfl, hb2⟩
 replace hb := Lib.hid (hb.out.trans (hb2.mono hb.out.size))
 clear hb2
 go_wp2_with fail
 exact bodyPost_ret (v := .tuple #[.slice none 0 0, .int .i64 1]) (by simp [results, Tryz.results47, go_sem]) rfl ⟨rfl, hb.out⟩
end Go.Proofs.YtoahpkelajimfaaGreatDoor
namespace Go.Proofs.YtoahpkelajimfaaGreatDoor
open Go.RowKit
attribute [local irreducible] lo hs sm s64 c64 d64 b64 mh ml pd pc qd qc val hiB str cmpI srD lz nb zl zh zs fe rowV tabV gv bsV mxV colV
theorem ils_of {w : World} {g c : Nat} {zs : List Int} {cs : List Value} (h : Hd w g cs) (he : cs = zs.map (.int .i64)) : ILs w (.slice (some ⟨g, 0, none⟩) zs.length c) zs := by
 subst he
 refine ⟨_, c, g, rfl, fun _ => ⟨rfl, h.lt⟩, fun i hi => ?_⟩
 have := h.cell i (by rw [List.length_map]; exact hi)
 rw [this, List.getElem_map]
def ofV (zs : List Int) (i : Nat) : Rat := ((zs.getD i 0 : Int) : Rat)
theorem getI {zs : List Int} {k : Nat} (h : k < zs.length) : zs.getD k 0 = zs[k] := by rw [List.getD_eq_getElem?_getD, List.getElem?_eq_getElem h]; rfl
theorem vof_at (zs : List Int) (b1 : Nat) (v : Value) (hz : ∀ z ∈ zs, -9223372036854775808 ≤ z ∧ z < 9223372036854775808) (i : Nat) (hi : i < zs.length) (w : World) (hw : ILs w v zs ∧ w.cell? ⟨b1, 0, none⟩ = some v) :
  Calls Tryz.prog 100 (#[.int .i64 (i : Int)] ++ #[.pointer (some ⟨b1, 0, none⟩)]) w fun xe w' => xe = .returned (fracV (ofV zs i)) ∧ Below w.heap.size w w' := by
 obtain ⟨⟨ao, c, g, rfl, h2, h3⟩, h4⟩ := hw
 obtain ⟨rfl, -⟩ := h2 (by omega)
 obtain ⟨l1, l2⟩ := hz _ (List.getElem_mem hi)
 unfold ofV
 rw [getI hi]
 exact vof1_w i zs.length c g b1 zs[i] _ (fun w => intF zs[i] l1 l2 w) hi w h4 (h3 i hi)
set_option maxHeartbeats 4000000 in
set_option maxRecDepth 100000 in
theorem vofV (zs : List Int) (hm : zs.length ≤ 100000) (hz : ∀ z ∈ zs, -9223372036854775808 ≤ z ∧ z < 9223372036854775808) (v : Value) (w : World) (hv : ILs w v zs) :
  Calls Tryz.prog 51 #[v] w fun xe w' => ∃ u, xe = .returned u ∧ NV w.heap.size (tabV zs.length (ofV zs)) u w' ∧ Below w.heap.size w w' := by
 have HCl := fun b1 => vof_at zs b1 v hz
 obtain ⟨ao, c, -, rfl, -⟩ := id hv
 have hL0 : GL w w [] := GL.start w
 replace hL0 := (hL0.new rfl [.slice ao zs.length c] 126)
 generalize hweq : (w.alloc (.cells #[.slice ao zs.length c] 126)) = x1 at hL0
 have hv1 := hv.below hL0.bl
 have hc1 := (hL0.get _ _ List.mem_cons_self).cell 0 (by simp)
 simp only [List.getElem_cons_zero, List.getElem_cons_succ] at hc1
 have HC := veach_w 100 #[.pointer (some ⟨w.heap.size, 0, none⟩)] enof zs.length (ofV zs) (fun w => ILs w (.slice ao zs.length c) zs ∧ w.cell? ⟨_, 0, none⟩ = some (.slice ao zs.length c)) (Keeps.and (ILs.keeps _ _) (keepsB _ _)) (HCl _) hm x1 ⟨hv1, hc1⟩
 clear hv hv1 HCl hz
 generalize tabV zs.length (ofV zs) = tl at *
 generalize zs.length = m at *
 replace HC := Lib.hid HC
 replace hL0 := Lib.hid hL0
 go_enter Tryz.func51, Tryz.ntmps51
 go_wp2_with fail
 with_reducible refine Calls.mono HC.out ?_
 rintro e y1 ⟨u, rfl, hnv, hb⟩
 replace hnv := Lib.hid (hnv.mono hL0.out.bl.size)
 replace hb := Lib.hid (hL0.out.bl.trans (hb.mono hL0.out.bl.size))
 clear hc1 hweq
 obtain ⟨gu, rfl, -, -⟩ := id hnv.out
 go_wp2_with fail
 exact bodyPost_ret (v := .slice (some ⟨gu, 0, none⟩) _ _) (by simp [results, Tryz.results51, go_sem]) rfl ⟨_, rfl, hnv.out, hb.out⟩
def partV (x : List Rat) (ps : List Nat) (i : Nat) : Rat := gv x (ps.getD i 0)
theorem getN {ps : List Nat} {k : Nat} (h : k < ps.length) : ps.getD k 0 = ps[k] := by rw [List.getD_eq_getElem?_getD, List.getElem?_eq_getElem h]; rfl
theorem vpart_at (x : List Rat) (ps : List Nat) (b1 b2 : Nat) (va vp : Value) (hp : ∀ p ∈ ps, p < x.length) (i : Nat) (hi : i < ps.length) (w : World) (hw : SlQ w va x ∧ ILs w vp (ps.map Int.ofNat) ∧ w.cell? ⟨b1, 0, none⟩ = some va ∧ w.cell? ⟨b2, 0, none⟩ = some vp) :
  Calls Tryz.prog 92 (#[.int .i64 (i : Int)] ++ #[.pointer (some ⟨b1, 0, none⟩), .pointer (some ⟨b2, 0, none⟩)]) w fun xe w' => xe = .returned (fracV (partV x ps i)) ∧ Below w.heap.size w w' := by
 obtain ⟨h1, ⟨ao, c, g, rfl, h2, h3⟩, h4, h5⟩ := hw
 rw [List.length_map] at *
 obtain ⟨rfl, -⟩ := h2 (by omega)
 have h6 := h3 i (by rw [List.length_map]; exact hi)
 rw [List.getElem_map] at h6
 have hq := hp _ (List.getElem_mem hi)
 obtain ⟨aa, ca, rfl⟩ := slq_form' h1
 obtain ⟨ga, rfl, -, f1⟩ := slq_at h1 _ hq
 obtain ⟨p0, p1, p2, p3, p4⟩ := fsc f1 _ hq
 unfold partV
 rw [getN hi]
 exact vpart1_w i ps.length c g ps[i] x.length ca ga b1 b2 (gv x ps[i]) hi hq w h4 h5 h6 p0 p1 p2 p3 p4
set_option maxHeartbeats 4000000 in
set_option maxRecDepth 100000 in
theorem vpartV (x : List Rat) (ps : List Nat) (n m : Nat) (hx : x.length = n) (hn : n ≤ 2048) (hpl : ps.length = m) (hm : m ≤ 2048) (hp : ∀ p ∈ ps, p < n) (va vp : Value) (w : World) (hv : SlQ w va x) (hu : ILs w vp (ps.map Int.ofNat)) :
  Calls Tryz.prog 39 #[va, vp] w fun xe w' => ∃ u, xe = .returned (.tuple #[u, .int .i64 0]) ∧ NV w.heap.size (tabV m (partV x ps)) u w' ∧ Below w.heap.size w w' := by
 have HCl := fun b1 b2 => vpart_at x ps b1 b2 va vp (by rw [hx]; exact hp)
 obtain ⟨aa, ca, rfl⟩ := slq_form' hv
 obtain ⟨ao, c, g, rfl, h2, h3⟩ := id hu
 rw [hx] at hv HCl ⊢
 rw [List.length_map, hpl] at h2 hu HCl ⊢
 have hpc : ∀ i, i < m → ∃ p : Nat, p < n ∧ w.cell? ⟨g, i, none⟩ = some (.int .i64 (p : Int)) := fun i hi => by
  have h6 := h3 i (by rw [List.length_map]; omega)
  rw [List.getElem_map] at h6
  exact ⟨_, hp _ (List.getElem_mem _), h6⟩
 have hpo := fun h => (h2 h).1
 replace hpc := Lib.hid hpc
 replace hpo := Lib.hid hpo
 have HI := Lib.hid (fun (i n : Int) (h0 : 0 ≤ i) (h1 : i < n) (w : World) => vindex_in i n h0 h1 w)
 have l1 : (n : Int) ≤ 2048 := by omega
 have l2 : (m : Int) ≤ 2048 := by omega
 have l3 : ¬ (2048 : Int) < (n : Int) := by omega
 have l4 : ¬ (2048 : Int) < (m : Int) := by omega
 have hL0 : GL w w [] := GL.start w
 replace hL0 := ((hL0.new rfl [.slice aa n ca] 30).new (K := w.heap.size + 1) (szA _ _) [.slice ao m c] 42)
 generalize hweq : ((w.alloc (.cells #[.slice aa n ca] 30)).alloc (.cells #[.slice ao m c] 42)) = x1 at hL0
 have hc1 := (hL0.get _ _ (List.mem_cons_of_mem _ List.mem_cons_self)).cell 0 (by simp)
 simp only [List.getElem_cons_zero, List.getElem_cons_succ] at hc1
 have hc2 := (hL0.get _ _ List.mem_cons_self).cell 0 (by simp)
 simp only [List.getElem_cons_zero, List.getElem_cons_succ] at hc2
 replace hv := Lib.hid hv
 replace hu := Lib.hid hu
 clear h2 h3 hp
 go_enter Tryz.func39, Tryz.ntmps39
 go_wp2_with fail
 clear hweq hc1 hc2
 go_loopg [18] m (fun gk iv wr => ∃ (k : Nat) (zi : Int), k + gk = m ∧ iv = .int .i64 zi ∧ zi = (k : Int) ∧ GL w wr [(w.heap.size + 1, [.slice ao m c]), (w.heap.size, [.slice aa n ca])])
 case atStart => exact ⟨0, 0, Nat.zero_add _, by first | rfl | go_num, rfl, hL0⟩
 case round =>
  clear hL0
  obtain ⟨k, zi, hik, rfl, hzi, hL0⟩ := hrel
  have hc1 := (hL0.get _ _ (List.mem_cons_of_mem _ List.mem_cons_self)).cell 0 (by simp)
  simp only [List.getElem_cons_zero, List.getElem_cons_succ] at hc1
  have hc2 := (hL0.get _ _ List.mem_cons_self).cell 0 (by simp)
  simp only [List.getElem_cons_zero, List.getElem_cons_succ] at hc2
  rcases Nat.lt_or_ge k m with hin | hin
  ·subst hzi
   have k1 : (k : Int) < (m : Int) := by omega
   have k0 : (0 : Int) ≤ (k : Int) := Int.natCast_nonneg _
   obtain ⟨p, hp1, hp2⟩ := hpc.out k hin
   have hp3 := keepsC hL0.bl hp2
   obtain rfl := hpo.out (by omega)
   have HI1 := Lib.hid (HI.out (p : Int) (n : Int) (by omega) (by omega))
   go_wp2_with fail
   with_reducible refine Calls.mono (HI1.out _) ?_
   rintro e y1 ⟨rfl, hb⟩
   replace hL0 := hL0.call hb
   clear hb hc1 hc2 hp3
   go_wp2_with fail
   go_roundg (m - (k + 1))
   case measure => omega
   case rel => exact ⟨k + 1, _, by omega, by first | rfl | go_num, by omega, hL0⟩
  ·obtain rfl : k = m := by omega
   subst hzi
   have k1 : ¬ (k : Int) < (k : Int) := by omega
   have HC := veach_w 92 #[.pointer (some ⟨w.heap.size, 0, none⟩), .pointer (some ⟨w.heap.size + 1, 0, none⟩)] enpart k (partV x ps) (fun w => SlQ w (.slice aa n ca) x ∧ ILs w (.slice ao k c) (ps.map Int.ofNat) ∧ w.cell? ⟨_, 0, none⟩ = some (.slice aa n ca) ∧ w.cell? ⟨_, 0, none⟩ = some (.slice ao k c)) (Keeps.and (SlQ.keeps _ _) (Keeps.and (ILs.keeps _ _) (Keeps.and (keepsB _ _) (keepsB _ _)))) (HCl _ _) (by omega) wr ⟨hv.out.below hL0.bl, hu.out.below hL0.bl, hc1, hc2⟩
   replace HC := Lib.hid HC
   replace hL0 := Lib.hid hL0
   clear HCl
   go_wp2_with fail
   with_reducible refine Calls.mono HC.out ?_
   rintro e y1 ⟨u, rfl, hnv, hb⟩
   replace hnv := Lib.hid (hnv.mono hL0.out.bl.size)
   replace hb := Lib.hid (hL0.out.bl.trans (hb.mono hL0.out.bl.size))
   obtain ⟨gu, rfl, -, -⟩ := id hnv.out
   clear hc1 hc2
   go_wp2_with fail
   exact bodyPost_ret (v := .tuple #[_, .int .i64 0]) (by simp [results, Tryz.results39, go_sem]) rfl ⟨_, rfl, hnv.out, hb.out⟩
/-- A row of strings of one's own. -/
abbrev OwnS (w : World) (B : Nat) (v : Value) (n : Nat) (l : List ByteArray) : Prop := w.ownsRow B 9 1 v n (l.map .string)
theorem infoS8 : (Tryz.prog.info? 9).map (fun i => (i.zero, i.size, i.bytes)) = some (some (.string ⟨#[]⟩), 1, 16) := by kernel_rfl
theorem wp_appendS {w : World} {ops : Array Oper} {rest : List Oper} {o : Oper} {a : Act} {Q : Exit → Act → World → Prop} (hgd : o.guard = none) (s x : Operand)
  (ho : o.op = .call { callee := .builtin .append, args := #[s, x], argTypes := #[127, 127] }) (B : Nat) (v : Value) (n : Nat) (L : List ByteArray) (hs : a.eval s = v) (hown : OwnS w B v n L) (g : Nat) (t : ByteArray) (hx : a.eval x = .slice (some ⟨g, 0, none⟩) 1 1) (hH : Hd w g [.string t])
  (hn : n ≤ 100000) (hbase : B ≤ w.heap.size)
  (h : ∀ v' w', OwnS w' B v' (n + 1) (L ++ [t]) → w.grownBy w' v.ownBlock → (v'.ownBlock = v.ownBlock ∨ v'.ownBlock = some w.heap.size) → wpList Tryz.prog ops Q rest (a.put o.dst v') w') : wpList Tryz.prog ops Q (o :: rest) a w := by
 obtain ⟨i0, hi, hz1, hz2, hz3⟩ := info_parts infoS8
 refine wpList_append_own_at w hgd s x 127 ho B 9 i0 (.string ⟨#[]⟩) 1 16 Tryz.underlying127 hi hz1 hz2 hz3 rfl (by decide) v n (L.map .string) hs hown ⟨g, 0, none⟩ 1 1 [.string t] hx rfl (hd_newsH hH) (fun u hu => by rw [List.mem_singleton.1 hu]; rfl) (by unfold maxLen; omega) (by omega) hbase ?_
 intro v' w' h1 h2 _ h4
 refine h v' w' ?_ h2 h4
 unfold OwnS
 rw [List.map_append]; exact h1
theorem ownS_below {w w' : World} {B n : Nat} {v : Value} {l : List ByteArray} (h : OwnS w B v n l) (hb : Below w.heap.size w w') : OwnS w' B v n l := by
 refine ⟨h.1, ?_⟩
 rcases h.2 with h1 | ⟨g, cap, cur, h1, h2, h3, h4⟩
 ·exact .inl h1
 ·refine .inr ⟨g, cap, cur, h1, h2, ?_, h4⟩
  have hg := (World.ownsRow.lt h g (by rw [h1]; rfl)).2
  rw [hb.block g hg]; exact h3
theorem ownS_cells {w : World} {B n : Nat} {v : Value} {l : List ByteArray} (h : OwnS w B v n l) (h0 : 0 < l.length) : ∃ g c, v = .slice (some ⟨g, 0, none⟩) l.length c ∧ l.length ≤ c ∧ g < w.heap.size ∧ ∀ (j : Nat) (x : ByteArray), l[j]? = some x → w.cell? ⟨g, 0 + j, none⟩ = some (.string x) := by
 have hl : l.length = n := by have := h.1; rw [List.length_map] at this; omega
 rcases h.2 with ⟨_, h1⟩ | ⟨g, cap, cur, h1, h2, h3, h4, h5, h6, h7⟩
 ·omega
 ·refine ⟨g, cap, by rw [h1, hl], by omega, (World.ownsRow.lt h g (by rw [h1]; rfl)).2, fun j x hx => ?_⟩
  rw [cell_of_row _ _ _ _ _ _ h3, Nat.zero_add]
  have hj : (l.map Value.string)[j]? = some (.string x) := by rw [List.getElem?_map, hx]; rfl
  rw [← h7, List.getElem?_take] at hj
  split at hj
  ·rw [← Array.getElem?_toList]; exact hj
  ·cases hj
theorem ownS_form {w : World} {B n : Nat} {v : Value} {l : List ByteArray} (h : OwnS w B v n l) : ∃ a c, v = .slice a n c := by
 rcases h.2 with ⟨h1, h2⟩ | ⟨g, cap, cur, h1, _⟩
 ·exact ⟨_, _, by rw [h1, h2]⟩
 ·exact ⟨_, _, h1⟩
set_option maxHeartbeats 4000000 in
set_option maxRecDepth 100000 in
theorem vtextV (x : List Rat) (n k : Nat) (Jt : List UInt8) (hx : x.length = n) (hn : n ≤ 10000) (hk : k ≤ 1000) (sx : ∀ q ∈ x, Sz q k) (hJ : Lib.join ((x.map qtxt).map (·.data.toList)) [32] = Jt) (hJl : Jt.length ≤ 1000000) (va : Value) (w : World) (ht : Tab w) (hv : SlQ w va x) :
  Calls Tryz.prog 52 #[va] w fun xe w' => xe = .returned (.string ⟨([91] ++ Jt ++ [93]).toArray⟩) ∧ Below w.heap.size w w' := by
 obtain ⟨ao, c, rfl, hf⟩ := slq_len hv
 rw [hx] at hv hf ⊢
 have HT := Lib.hid (fun i (hi : i < n) w ht => textF (gv x i) k (qsk x sx i (by omega)) (by omega) w ht)
 obtain ⟨tx, htx⟩ : ∃ tx, tx = x.map qtxt := ⟨_, rfl⟩
 have hti : ∀ i, i < n → tx.take (i + 1) = tx.take i ++ [qtxt (gv x i)] := fun i hi => by
  rw [htx, List.take_succ_eq_append_getElem (by rw [List.length_map]; omega), List.getElem_map, gv_get (by omega)]
 have htl : tx.length = n := by rw [htx, List.length_map, hx]
 rw [← htx] at hJ
 replace hti := Lib.hid hti
 replace htl := Lib.hid htl
 replace hJ := Lib.hid hJ
 replace hJl := Lib.hid hJl
 replace hf := Lib.hid hf
 replace ht := Lib.hid ht
 replace hn := Lib.hid hn
 clear sx hv htx
 go_enter Tryz.func52, Tryz.ntmps52
 go_wp2_with fail
 go_loopg [3, 8] n (fun gk sv iv wr => ∃ (k : Nat) (zi : Int) (vs : Value), k + gk = n ∧ vs = sv ∧ iv = .int .i64 zi ∧ zi = (k : Int) ∧ OwnS wr w.heap.size vs k (tx.take k) ∧ Below w.heap.size w wr)
 case atStart => exact ⟨0, 0, _, Nat.zero_add n, rfl, by first | rfl | go_num, rfl, World.ownsRow_nil _ _ _ _, Below.refl _ _⟩
 case round =>
  obtain ⟨k, zi, vs, hik, rfl, rfl, hzi, hown, hB⟩ := hrel
  replace hown := Lib.hid hown
  have hnn := hn.out
  rcases Nat.lt_or_ge k n with hin | hin
  ·subst hzi
   have k1 : (k : Int) < (n : Int) := by omega
   have k0 : (0 : Int) ≤ (k : Int) := Int.natCast_nonneg _
   have kb : (k : Int) ≤ 10000 := by omega
   obtain ⟨g, rfl, hfs⟩ := hf.out (by omega)
   have hcs := fsc (hfs.below hB) k (by omega)
   have HT1 := HT.out k hin
   have hti1 := hti.out k hin
   generalize gv x k = q at hcs HT1 hti1
   obtain ⟨S, hS⟩ : ∃ S, S = qtxt q := ⟨_, rfl⟩
   rw [← hS] at HT1 hti1
   replace HT1 := Lib.hid HT1
   replace hti1 := Lib.hid hti1
   clear hS hfs
   obtain ⟨f0, f1, f2, f3, f4⟩ := hcs
   have hL0 : GL wr wr [] := GL.start wr
   replace hL0 := hL0.new rfl [.int .u64 ((zl q.num : Nat) : Int), .string (zh q.num), .bool (zs q.num), .int .u64 ((lo (fe q) : Nat) : Int), .string (hs (fe q))] 38
   generalize hweq : wr.alloc (.cells #[.int .u64 ((zl q.num : Nat) : Int), .string (zh q.num), .bool (zs q.num), .int .u64 ((lo (fe q) : Nat) : Int), .string (hs (fe q))] 38) = y2 at hL0
   have hN0 := cells_of _ 0 [] rfl (hL0.get _ _ List.mem_cons_self)
   simp only [cellsF, and_true, Nat.zero_add, Nat.reduceAdd] at hN0
   have hB2 := Lib.hid (hB.trans (hL0.bl.mono hB.size))
   go_wp2_with fail
   with_reducible refine Calls.mono (HT1.out _ (ht.out.below hB2.out)) ?_
   rintro e y3 ⟨rfl, hb3⟩
   replace hL0 := hL0.call hb3
   have hown3 := Lib.hid (ownS_below hown.out hL0.bl)
   have hB3 := Lib.hid (hB.trans (hL0.bl.mono hB.size))
   clear hb3 hN0 hweq f0 f1 f2 f3 f4 hL0 hB2 hB hown
   have hL1 : GL y3 y3 [] := GL.start y3
   replace hL1 := hL1.new rfl [.string S] 9
   generalize hweq : y3.alloc (.cells #[.string S] 9) = y4 at hL1
   have hown4 := Lib.hid (ownS_below hown3.out hL1.bl)
   have hB4 := Lib.hid (hB3.out.trans (hL1.bl.mono hB3.out.size))
   have hH := Lib.hid (hL1.get _ _ List.mem_cons_self)
   go_wp2_with (at_builtin; refine wp_appendS rfl _ _ rfl _ _ _ _ rfl hown4.out _ S rfl hH.out (by omega) hB4.out.size ?_)
   intro v' w5 hown5 hgrow _
   have hB5 := hB4.out.grown hgrow hB4.out.size (fun j hj => (hown4.out.lt j hj).1)
   rw [← hti1.out] at hown5
   replace hown5 := Lib.hid hown5
   clear hgrow hown4 hB4 hown3 hB3 hH hweq
   go_wp2_with fail
   go_roundg (gk - 1)
   case measure => omega
   case rel => exact ⟨k + 1, _, _, by omega, rfl, by first | rfl | go_num, by omega, hown5.out, hB5⟩
  ·obtain rfl : k = n := by omega
   subst hzi
   have k1 : ¬ (k : Int) < (k : Int) := by omega
   rw [List.take_of_length_le (Nat.le_of_eq htl.out)] at hown
   have hJ2 : Calls Tryz.prog 101 #[vs, .string ⟨#[32]⟩] wr fun e w' => e = .returned (.string ⟨Jt.toArray⟩) ∧ Below wr.heap.size wr w' := by
    by_cases h0 : k = 0
    ·have e0 : tx = [] := List.eq_nil_of_length_eq_zero (by rw [htl.out, h0])
     obtain ⟨a, c2, hvs⟩ := ownS_form hown.out
     rw [hvs, h0]
     rw [e0] at hJ
     refine (Tryz.strings_Join_none a c2 ⟨#[32]⟩ wr).mono ?_
     rintro e w' ⟨rfl, rfl⟩
     exact ⟨by rw [← hJ.out]; rfl, Below.refl _ _⟩
    ·obtain ⟨g9, c9, hvs, hc9, hg9, hce9⟩ := ownS_cells hown.out (by rw [htl.out]; omega)
     rw [hvs]
     have := Tryz.strings_Join g9 0 c9 tx ⟨#[32]⟩ wr hce9 hg9 (by rw [htl.out]; omega) hc9 (by
      have h1 := hJl.out
      rw [← hJ.out] at h1
      exact Nat.le_trans h1 (by decide))
     rw [show (⟨#[32]⟩ : ByteArray).data.toList = [32] from rfl, hJ.out] at this
     exact this
   replace hJ2 := Lib.hid hJ2
   have j1 : (Jt.length : Int) ≤ 1000000 := by have := hJl.out; omega
   have j2 : ¬ (9223372036854775807 : Int) < 1 + (Jt.length : Int) := by omega
   have j3 : ¬ (9223372036854775806 : Int) < (Jt.length : Int) := by omega
   have j4 : 1 + (Jt.length : Int) ≤ 9223372036854775807 := by omega
   have j5 : ¬ (9223372036854775807 : Int) < 1 + (Jt.length : Int) + 1 := by omega
   have j6 : ¬ (9223372036854775806 : Int) < 1 + (Jt.length : Int) := by omega
   replace hB := Lib.hid hB
   obtain ⟨a9, c9, hvs⟩ := ownS_form hown.out
   subst hvs
   clear hown
   go_wp2_with fail
   refine hJ2.out.mono ?_
   rintro e y9 ⟨rfl, hb9⟩
   replace hb9 := Lib.hid (hB.out.trans (hb9.mono hB.out.size))
   go_wp2_with fail
   exact bodyPost_ret (v := .string ⟨([91] ++ Jt ++ [93]).toArray⟩) (by simp [results, Tryz.results52, go_sem]; apply ByteArray.ext; simp) rfl ⟨rfl, hb9.out⟩
end Go.Proofs.YtoahpkelajimfaaGreatDoor
namespace Go.Proofs.YtoahpkelajimfaaGreatDoor
open Go.RowKit
attribute [local irreducible] lo hs sm s64 c64 d64 b64 mh ml pd pc qd qc val hiB str cmpI srD lz nb zl zh zs fe rowV tabV gv bsV mxV colV
theorem pt_nil (w : World) : PT w (.slice none 0 0) [] := .inl ⟨none, 0, rfl, rfl⟩
theorem pt_form {w : World} {v : Value} {l : List Rat} (h : PT w v l) : ∃ ao n c, v = .slice ao n c ∧ n = l.length := by
 obtain ⟨ao, c, e⟩ := slq_form' h
 exact ⟨ao, _, c, e, rfl⟩
theorem ptn_form {w : World} {v : Value} {l : List Rat} {n : Nat} (h : PT w v l) (hl : l.length = n) : ∃ ao c, v = .slice ao n c := by
 obtain ⟨ao, c, e⟩ := slq_form' h
 exact ⟨ao, c, by rw [e, hl]⟩
theorem stays_pt (l : List Rat) : Stays (PP l) := fun _ _ _ hb h => h.below hb
abbrev PI (l : List Int) : Value → World → Prop := fun v w => ILs w v l
theorem stays_pi (l : List Int) : Stays (PI l) := fun _ _ _ hb h => h.below hb
/-- A vector with a code. -/
abbrev PE (l : List Rat) (e : Int) : Value → World → Prop := fun v w => ∃ u, v = .tuple #[u, .int .i64 e] ∧ PT w u l
theorem stays_pe (l : List Rat) (e : Int) : Stays (PE l e) := fun _ _ _ hb ⟨u, h1, h2⟩ => ⟨u, h1, h2.below hb⟩
theorem ty_val8 {P : Program} {o : Oper} {a : Act} {w w' : World} {T : Value → World → Prop} {u : Value} (hr : (execOp a.eval o).run P w = .ok (.value u) w') (hb : Below w.heap.size w w') (ht : T u w') : tyUpon P w T ((execOp a.eval o).run P w) := by
 rw [hr]; exact ⟨hb, ht⟩
theorem ils_at {w : World} {g c n : Nat} {zs : List Int} {cs : List Value} (h : Hd w g cs) (he : cs = zs.map (.int .i64)) (hn : n = zs.length) : ILs w (.slice (some ⟨g, 0, none⟩) n c) zs := by
 subst hn; exact ils_of h he
theorem ils_form {w : World} {v : Value} {zs : List Int} (h : ILs w v zs) : ∃ ao n c, v = .slice ao n c := by
 obtain ⟨ao, c, g, h1, _⟩ := h
 exact ⟨ao, _, c, h1⟩
end Go.Proofs.YtoahpkelajimfaaGreatDoor
namespace Go.Proofs.YtoahpkelajimfaaGreatDoor
open Go.RowKit
attribute [local irreducible] lo hs sm s64 c64 d64 b64 mh ml pd pc qd qc val hiB str cmpI srD lz nb zl zh zs fe rowV tabV gv bsV mxV colV
set_option maxHeartbeats 16000000 in
set_option maxRecDepth 100000 in
theorem vworks_w (hf dt mm : Rat) (o1 o2 o3 o4 o5 o6 o7 o8 o9 oa ob ax mx pt : List Rat) (HOh : ∀ w, Calls Tryz.prog 50 #[.int .i64 1, .int .i64 2] w fun xe w' => xe = .returned (.tuple #[fracV hf, .int .i64 0]) ∧ Below w.heap.size w w') (HFo1 : ∀ (p0 : Value) (w : World), ILs w p0 ([1, (-2)]) → Calls Tryz.prog 51 #[p0] w fun e w' => ∃ pv, e = .returned pv ∧ PT w' pv o1 ∧ Below w.heap.size w w') (HFo2 : ∀ (p0 : Value) (w : World), ILs w p0 ([0, 3]) → Calls Tryz.prog 51 #[p0] w fun e w' => ∃ pv, e = .returned pv ∧ PT w' pv o2 ∧ Below w.heap.size w w') (HFo3 : ∀ (p0 : Value) (w : World), ILs w p0 ([1, 2, 3]) → Calls Tryz.prog 51 #[p0] w fun e w' => ∃ pv, e = .returned pv ∧ PT w' pv o3 ∧ Below w.heap.size w w') (HFo4 : ∀ (p0 : Value) (w : World), ILs w p0 ([4, 5, 6]) → Calls Tryz.prog 51 #[p0] w fun e w' => ∃ pv, e = .returned pv ∧ PT w' pv o4 ∧ Below w.heap.size w w') (HFo5 : ∀ (p0 : Value) (w : World), ILs w p0 ([2, 3]) → Calls Tryz.prog 51 #[p0] w fun e w' => ∃ pv, e = .returned pv ∧ PT w' pv o5 ∧ Below w.heap.size w w') (HFo6 : ∀ (p0 : Value) (w : World), ILs w p0 ([1, 0]) → Calls Tryz.prog 51 #[p0] w fun e w' => ∃ pv, e = .returned pv ∧ PT w' pv o6 ∧ Below w.heap.size w w') (HFo7 : ∀ (p0 : Value) (w : World), ILs w p0 ([0, 1]) → Calls Tryz.prog 51 #[p0] w fun e w' => ∃ pv, e = .returned pv ∧ PT w' pv o7 ∧ Below w.heap.size w w') (HFo8 : ∀ (p0 : Value) (w : World), ILs w p0 ([5, 6, 7]) → Calls Tryz.prog 51 #[p0] w fun e w' => ∃ pv, e = .returned pv ∧ PT w' pv o8 ∧ Below w.heap.size w w') (HFo9 : ∀ (p0 : Value) (w : World), ILs w p0 ([1]) → Calls Tryz.prog 51 #[p0] w fun e w' => ∃ pv, e = .returned pv ∧ PT w' pv o9 ∧ Below w.heap.size w w') (HFoa : ∀ (p0 : Value) (w : World), ILs w p0 ([1, 2]) → Calls Tryz.prog 51 #[p0] w fun e w' => ∃ pv, e = .returned pv ∧ PT w' pv oa ∧ Below w.heap.size w w') (HFob : ∀ (p0 : Value) (w : World), ILs w p0 ([2, (-7)]) → Calls Tryz.prog 51 #[p0] w fun e w' => ∃ pv, e = .returned pv ∧ PT w' pv ob ∧ Below w.heap.size w w') (HAx : ∀ (p1 p2 : Value) (w : World), PT w p1 o1 → PT w p2 o2 → Calls Tryz.prog 21 #[fracV hf, p1, p2] w fun e w' => ∃ pv, e = .returned (.tuple #[pv, .int .i64 0]) ∧ PT w' pv ax ∧ Below w.heap.size w w') (HDt : ∀ (p0 p1 : Value) (w : World), PT w p0 o3 → PT w p1 o4 → Calls Tryz.prog 26 #[p0, p1] w fun e w' => e = .returned (.tuple #[fracV dt, .int .i64 0]) ∧ Below w.heap.size w w') (HMx : ∀ (p0 p1 : Value) (w : World), PT w p0 o5 → VLs w p1 ([o6, o7]) → Calls Tryz.prog 38 #[p0, p1] w fun e w' => ∃ pv, e = .returned (.tuple #[pv, .int .i64 0]) ∧ PT w' pv mx ∧ Below w.heap.size w w') (HPt : ∀ (p0 p1 : Value) (w : World), PT w p0 o8 → ILs w p1 ([2, 0, 2]) → Calls Tryz.prog 39 #[p0, p1] w fun e w' => ∃ pv, e = .returned (.tuple #[pv, .int .i64 0]) ∧ PT w' pv pt ∧ Below w.heap.size w w') (HAd : ∀ (p0 p1 : Value) (w : World), PT w p0 o9 → PT w p1 oa → Calls Tryz.prog 18 #[p0, p1] w fun e w' => e = .returned (.tuple #[.slice none 0 0, .int .i64 1]) ∧ Below w.heap.size w w') (HI32 : ∀ w, Calls Tryz.prog 34 #[.int .i64 32] w fun xe w' => xe = .returned (fracV dt) ∧ Below w.heap.size w w') (HI7 : ∀ w, Calls Tryz.prog 34 #[.int .i64 7] w fun xe w' => xe = .returned (fracV mm) ∧ Below w.heap.size w w') (HU : ∀ w, Calls Tryz.prog 47 #[.int .i64 2, .int .i64 2] w fun xe w' => xe = .returned (.tuple #[.slice none 0 0, .int .i64 1]) ∧ Below w.heap.size w w') (HZ1 : ∀ w, Calls Tryz.prog 40 #[.int .i64 (-1)] w fun xe w' => xe = .returned (.tuple #[.slice none 0 0, .int .i64 1]) ∧ Below w.heap.size w w') (HZ2 : ∀ w, Calls Tryz.prog 40 #[.int .i64 2049] w fun xe w' => xe = .returned (.tuple #[.slice none 0 0, .int .i64 3]) ∧ Below w.heap.size w w') (HM1 : ∀ (p0 : Value) (w : World), PT w p0 ob → Calls Tryz.prog 30 #[p0] w fun e w' => e = .returned (fracV mm) ∧ Below w.heap.size w w') (HM2 : ∀ w, Calls Tryz.prog 30 #[.slice none 0 0] w fun xe w' => xe = .returned (.agg #[.int .u64 0, .string ⟨#[]⟩, .bool false, .int .u64 0, .string ⟨#[]⟩]) ∧ Below w.heap.size w w') (KT : World → Prop) (hKT : Keeps KT) (HTo1 : ∀ (p0 : Value) (w : World), KT w → PT w p0 o1 → Calls Tryz.prog 52 #[p0] w fun e w' => e = .returned (.string (ByteArray.mk #[91, 49, 32, 45, 50, 93])) ∧ Below w.heap.size w w') (HTax : ∀ (p0 : Value) (w : World), KT w → PT w p0 ax → Calls Tryz.prog 52 #[p0] w fun e w' => e = .returned (.string (ByteArray.mk #[91, 49, 47, 50, 32, 50, 93])) ∧ Below w.heap.size w w') (HTmx : ∀ (p0 : Value) (w : World), KT w → PT w p0 mx → Calls Tryz.prog 52 #[p0] w fun e w' => e = .returned (.string (ByteArray.mk #[91, 50, 32, 51, 93])) ∧ Below w.heap.size w w') (HTpt : ∀ (p0 : Value) (w : World), KT w → PT w p0 pt → Calls Tryz.prog 52 #[p0] w fun e w' => e = .returned (.string (ByteArray.mk #[91, 55, 32, 53, 32, 55, 93])) ∧ Below w.heap.size w w') (HTn : ∀ w, KT w → Calls Tryz.prog 52 #[.slice none 0 0] w fun xe w' => xe = .returned (.string (ByteArray.mk #[91, 93])) ∧ Below w.heap.size w w') (w : World) (kKT : KT w) :
  Calls Tryz.prog 12 #[] w fun e w' => e = .returned (.bool true) ∧ Below w.heap.size w w' := by
 replace HOh := Lib.hid HOh
 replace HFo1 := Lib.hid HFo1
 replace HFo2 := Lib.hid HFo2
 replace HFo3 := Lib.hid HFo3
 replace HFo4 := Lib.hid HFo4
 replace HFo5 := Lib.hid HFo5
 replace HFo6 := Lib.hid HFo6
 replace HFo7 := Lib.hid HFo7
 replace HFo8 := Lib.hid HFo8
 replace HFo9 := Lib.hid HFo9
 replace HFoa := Lib.hid HFoa
 replace HFob := Lib.hid HFob
 replace HAx := Lib.hid HAx
 replace HDt := Lib.hid HDt
 replace HMx := Lib.hid HMx
 replace HPt := Lib.hid HPt
 replace HAd := Lib.hid HAd
 replace HI32 := Lib.hid HI32
 replace HI7 := Lib.hid HI7
 replace HU := Lib.hid HU
 replace HZ1 := Lib.hid HZ1
 replace HZ2 := Lib.hid HZ2
 replace HM1 := Lib.hid HM1
 replace HM2 := Lib.hid HM2
 replace hKT := Lib.hid hKT
 replace HTo1 := Lib.hid HTo1
 replace HTax := Lib.hid HTax
 replace HTmx := Lib.hid HTmx
 replace HTpt := Lib.hid HTpt
 replace HTn := Lib.hid HTn
 have hL0 : GL w w [] := GL.start w
 have hT : PTs w [] := PTs.nil w
 go_enter Tryz.func12, Tryz.ntmps12
 go_wp2_with fail
 with_reducible refine Calls.mono (HOh.out _) ?_
 rintro e x1 ⟨rfl, hb⟩
 replace hL0 := hL0.call hb
 replace hT := hT.call hb
 clear hb
 replace hT := ((hT.new (.cells #[.int .u64 ((zl hf.num : Nat) : Int), .string (zh hf.num), .bool (zs hf.num), .int .u64 ((lo (fe hf) : Nat) : Int), .string (hs (fe hf))] 38)).new (.cells #[.int .i64 1, .int .i64 (-2)] 2))
 replace hL0 := ((hL0.new rfl [.int .u64 ((zl hf.num : Nat) : Int), .string (zh hf.num), .bool (zs hf.num), .int .u64 ((lo (fe hf) : Nat) : Int), .string (hs (fe hf))] 38).new (K := x1.heap.size + 1) (szA _ _) [.int .i64 1, .int .i64 (-2)] 2)
 generalize hweq : ((x1.alloc (.cells #[.int .u64 ((zl hf.num : Nat) : Int), .string (zh hf.num), .bool (zs hf.num), .int .u64 ((lo (fe hf) : Nat) : Int), .string (hs (fe hf))] 38)).alloc (.cells #[.int .i64 1, .int .i64 (-2)] 2)) = x2 at hL0 hT
 have hbv1 : ILs x2 (.slice (some ⟨x1.heap.size + 1, 0, none⟩) 2 2) [1, (-2)] := ils_at (hL0.get _ _ List.mem_cons_self) rfl rfl
 replace hbv1 := Lib.hid hbv1
 go_wp2_with fail
 with_reducible refine Calls.mono (HFo1.out (.slice (some ⟨x1.heap.size + 1, 0, none⟩) 2 2) _ hbv1.out) ?_
 rintro e x3 ⟨v0, rfl, q0, hb⟩
 replace hL0 := hL0.call hb
 replace hT := hT.call hb
 clear hb hweq
 obtain ⟨g1, d1, g1c, rfl, -⟩ := pt_form q0
 replace hT := hT.cons q0
 clear q0
 go_upto_region 3 with fail
 refine region_tl 10 [EV (.agg #[.int .u64 ((zl hf.num : Nat) : Int), .string (zh hf.num), .bool (zs hf.num), .int .u64 ((lo (fe hf) : Nat) : Int), .string (hs (fe hf))]), EV (.slice g1 d1 g1c), PI [0, 3], PP o2, PE ax 0, PE ax 0, PP ax, EV (.int .i64 0), PP ax, EV (.int .i64 0)] (by kernel_rfl) (by kernel_rfl) ?_ ?_ ?_
 ·exact stays_cons (stays_eq _) (stays_cons (stays_eq _) (stays_cons (stays_pi _) (stays_cons (stays_pt _) (stays_cons (stays_pe _ _) (stays_cons (stays_pe _ _) (stays_cons (stays_pt _) (stays_cons (stays_eq _) (stays_cons (stays_pt _) (stays_cons (stays_eq _) (stays_nil))))))))))
 ·simp only [List.take_succ_cons, List.take_zero, hopsR, and_true]
  refine ⟨?_, ?_, ?_, ?_, ?_, ?_, ?_, ?_, ?_, ?_⟩ <;> intro fv w1 hb1 hp
  all_goals (simp only [putsV, Act.put, List.setIfInBounds_toArray, List.set_cons_succ, List.set_cons_zero, Nat.zero_add, Nat.reduceAdd])
  ·refine tyAt_none rfl ?_
   have hc := (hL0.call (below_drew hb1)).fc
   simp only [fcG, cellsF, neK, and_true, ne_eq, Nat.zero_add, Nat.reduceAdd] at hc
   simp [tyUpon, execOp, go_sem, Act.eval, hc, Below.refl]
  ·refine tyAt_none rfl ?_
   simp [tyUpon, execOp, go_sem, Act.eval, Below.refl]
  ·refine tyAt_none rfl ?_
   refine ty_val8 (u := .slice (some ⟨w1.heap.size, 0, none⟩) 2 2) (w' := w1.alloc (.cells #[.int .i64 0, .int .i64 3] 2)) (by simp [execOp, go_sem, Act.eval]) ((Below.refl _ _).alloc (Nat.le_refl _) _) (ils_at (hd_new w1 [.int .i64 0, .int .i64 3] _) rfl rfl)
  ·have h2 : (PI [0, 3]) (fv 2) w1 := hp 2 (LC (by kernel_rfl))
   refine tyAt_none rfl ?_
   refine ty_call (f := 51) (args := #[fv 2]) (by simp [execOp, go_sem, Act.eval]) ?_
   exact (HFo2.out (fv 2) w1 h2).mono fun e w2 ⟨pv, h1, h2, h3⟩ => ⟨pv, h1, h2, h3⟩
  ·have h0 : EV _ (fv 0) w1 := hp 0 (LC (by kernel_rfl))
   have h1 : EV _ (fv 1) w1 := hp 1 (LC (by kernel_rfl))
   have h3 : (PP o2) (fv 3) w1 := hp 3 (LC (by kernel_rfl))
   refine tyAt_none rfl ?_
   refine ty_call (f := 21) (args := #[.agg #[.int .u64 ((zl hf.num : Nat) : Int), .string (zh hf.num), .bool (zs hf.num), .int .u64 ((lo (fe hf) : Nat) : Int), .string (hs (fe hf))], .slice g1 d1 g1c, fv 3]) (by simp [execOp, go_sem, Act.eval, h0, h1]) ?_
   exact (HAx.out (.slice g1 d1 g1c) (fv 3) w1 (PT.below (hT.get List.mem_cons_self) (below_drew hb1)) h3).mono fun e w2 ⟨pv, h1, h2, h3⟩ => ⟨_, h1, ⟨pv, rfl, h2⟩, h3⟩
  ·have h4 : (PE ax 0) (fv 4) w1 := hp 4 (LC (by kernel_rfl))
   refine tyAt_none rfl ?_
   simp [tyUpon, execOp, go_sem, Act.eval, Below.refl]
   exact h4
  ·have h5 : (PE ax 0) (fv 5) w1 := hp 5 (LC (by kernel_rfl))
   refine tyAt_none rfl ?_
   obtain ⟨pa, pe, pz⟩ := h5
   simp [tyUpon, execOp, go_sem, Act.eval, pe, Below.refl]
   exact pz
  ·have h5 : (PE ax 0) (fv 5) w1 := hp 5 (LC (by kernel_rfl))
   refine tyAt_none rfl ?_
   obtain ⟨pa, pe, pz⟩ := h5
   simp [tyUpon, execOp, go_sem, Act.eval, pe, Below.refl]
  ·have h6 : (PP ax) (fv 6) w1 := hp 6 (LC (by kernel_rfl))
   refine tyAt_none rfl ?_
   simp [tyUpon, execOp, go_sem, Act.eval, Below.refl]
   exact h6
  ·have h7 : EV _ (fv 7) w1 := hp 7 (LC (by kernel_rfl))
   refine tyAt_none rfl ?_
   simp [tyUpon, execOp, go_sem, Act.eval, h7, Below.refl]
 ·intro fv x4 hb1 hv
  have e0 : fv 0 = _ := hv 0 (by omega)
  have e1 : fv 1 = _ := hv 1 (by omega)
  have q2 : ILs x4 (fv 2) ([0, 3]) := hv 2 (by omega)
  obtain ⟨g2, d2, g2c, e2⟩ := ils_form q2
  rw [e2] at q2
  have q3 : PT x4 (fv 3) o2 := hv 3 (by omega)
  obtain ⟨g3, d3, g3c, e3, -⟩ := pt_form q3
  rw [e3] at q3
  obtain ⟨pa4, e4, q4⟩ := hv 4 (by omega)
  obtain ⟨pa5, e5, q5⟩ := hv 5 (by omega)
  have q6 : PT x4 (fv 6) ax := hv 6 (by omega)
  obtain ⟨g4, d4, g4c, e6, -⟩ := pt_form q6
  rw [e6] at q6
  have e7 : fv 7 = _ := hv 7 (by omega)
  have q8 : PT x4 (fv 8) ax := hv 8 (by omega)
  obtain ⟨g5, d5, g5c, e8, -⟩ := pt_form q8
  rw [e8] at q8
  have e9 : fv 9 = _ := hv 9 (by omega)
  simp only [List.take_succ_cons, List.take_zero, putsV, Act.put, List.setIfInBounds_toArray, List.set_cons_succ, List.set_cons_zero, List.drop_succ_cons, List.drop_zero, Nat.zero_add, Nat.reduceAdd, e0, e1, e2, e3, e4, e5, e6, e7, e8, e9]
  replace hL0 := hL0.call (below_drew hb1)
  replace hT := hT.call (below_drew hb1)
  replace hT := hT.cons q3
  replace hT := hT.cons q6
  replace hT := hT.cons q8
  clear e0 e1 e2 e3 e4 e5 e6 e7 e8 e9 hb1 hv q2 q3 q4 q5 q6 q8 fv
  replace hT := (hT.new (.cells #[.int .i64 1, .int .i64 2, .int .i64 3] 2))
  replace hL0 := (hL0.new rfl [.int .i64 1, .int .i64 2, .int .i64 3] 2)
  generalize hweq : (x4.alloc (.cells #[.int .i64 1, .int .i64 2, .int .i64 3] 2)) = x5 at hL0 hT
  have hbv2 : ILs x5 (.slice (some ⟨x4.heap.size, 0, none⟩) 3 3) [1, 2, 3] := ils_at (hL0.get _ _ List.mem_cons_self) rfl rfl
  replace hbv2 := Lib.hid hbv2
  go_wp2_with fail
  with_reducible refine Calls.mono (HFo3.out (.slice (some ⟨x4.heap.size, 0, none⟩) 3 3) _ hbv2.out) ?_
  rintro e x6 ⟨v0, rfl, q0, hb⟩
  replace hL0 := hL0.call hb
  replace hT := hT.call hb
  clear hb hweq
  obtain ⟨g6, d6, g6c, rfl, -⟩ := pt_form q0
  replace hT := hT.cons q0
  clear q0
  replace hT := (hT.new (.cells #[.int .i64 4, .int .i64 5, .int .i64 6] 2))
  replace hL0 := (hL0.new rfl [.int .i64 4, .int .i64 5, .int .i64 6] 2)
  generalize hweq : (x6.alloc (.cells #[.int .i64 4, .int .i64 5, .int .i64 6] 2)) = x7 at hL0 hT
  have hbv3 : ILs x7 (.slice (some ⟨x6.heap.size, 0, none⟩) 3 3) [4, 5, 6] := ils_at (hL0.get _ _ List.mem_cons_self) rfl rfl
  replace hbv3 := Lib.hid hbv3
  go_wp2_with fail
  with_reducible refine Calls.mono (HFo4.out (.slice (some ⟨x6.heap.size, 0, none⟩) 3 3) _ hbv3.out) ?_
  rintro e x8 ⟨v0, rfl, q0, hb⟩
  replace hL0 := hL0.call hb
  replace hT := hT.call hb
  clear hb hweq
  obtain ⟨g7, d7, g7c, rfl, -⟩ := pt_form q0
  replace hT := hT.cons q0
  clear q0
  go_wp2_with fail
  with_reducible refine Calls.mono (HDt.out (.slice g6 d6 g6c) (.slice g7 d7 g7c) _ (hT.get (List.mem_cons_of_mem _ List.mem_cons_self)) (hT.get List.mem_cons_self)) ?_
  rintro e x9 ⟨rfl, hb⟩
  replace hL0 := hL0.call hb
  replace hT := hT.call hb
  clear hb
  replace hT := ((hT.new (.cells #[.int .u64 ((zl dt.num : Nat) : Int), .string (zh dt.num), .bool (zs dt.num), .int .u64 ((lo (fe dt) : Nat) : Int), .string (hs (fe dt))] 38)).new (.cells #[.int .i64 2, .int .i64 3] 2))
  replace hL0 := ((hL0.new rfl [.int .u64 ((zl dt.num : Nat) : Int), .string (zh dt.num), .bool (zs dt.num), .int .u64 ((lo (fe dt) : Nat) : Int), .string (hs (fe dt))] 38).new (K := x9.heap.size + 1) (szA _ _) [.int .i64 2, .int .i64 3] 2)
  generalize hweq : ((x9.alloc (.cells #[.int .u64 ((zl dt.num : Nat) : Int), .string (zh dt.num), .bool (zs dt.num), .int .u64 ((lo (fe dt) : Nat) : Int), .string (hs (fe dt))] 38)).alloc (.cells #[.int .i64 2, .int .i64 3] 2)) = x10 at hL0 hT
  have hbv4 : ILs x10 (.slice (some ⟨x9.heap.size + 1, 0, none⟩) 2 2) [2, 3] := ils_at (hL0.get _ _ List.mem_cons_self) rfl rfl
  replace hbv4 := Lib.hid hbv4
  go_wp2_with fail
  with_reducible refine Calls.mono (HFo5.out (.slice (some ⟨x9.heap.size + 1, 0, none⟩) 2 2) _ hbv4.out) ?_
  rintro e x11 ⟨v0, rfl, q0, hb⟩
  replace hL0 := hL0.call hb
  replace hT := hT.call hb
  clear hb hweq
  obtain ⟨g8, d8, g8c, rfl, -⟩ := pt_form q0
  replace hT := hT.cons q0
  clear q0
  replace hT := (hT.new (.cells #[.int .i64 1, .int .i64 0] 2))
  replace hL0 := (hL0.new rfl [.int .i64 1, .int .i64 0] 2)
  generalize hweq : (x11.alloc (.cells #[.int .i64 1, .int .i64 0] 2)) = x12 at hL0 hT
  have hbv5 : ILs x12 (.slice (some ⟨x11.heap.size, 0, none⟩) 2 2) [1, 0] := ils_at (hL0.get _ _ List.mem_cons_self) rfl rfl
  replace hbv5 := Lib.hid hbv5
  go_wp2_with fail
  with_reducible refine Calls.mono (HFo6.out (.slice (some ⟨x11.heap.size, 0, none⟩) 2 2) _ hbv5.out) ?_
  rintro e x13 ⟨v0, rfl, q0, hb⟩
  replace hL0 := hL0.call hb
  replace hT := hT.call hb
  clear hb hweq
  obtain ⟨g9, d9, g9c, rfl, -⟩ := pt_form q0
  replace hT := hT.cons q0
  clear q0
  replace hT := (hT.new (.cells #[.int .i64 0, .int .i64 1] 2))
  replace hL0 := (hL0.new rfl [.int .i64 0, .int .i64 1] 2)
  generalize hweq : (x13.alloc (.cells #[.int .i64 0, .int .i64 1] 2)) = x14 at hL0 hT
  have hbv6 : ILs x14 (.slice (some ⟨x13.heap.size, 0, none⟩) 2 2) [0, 1] := ils_at (hL0.get _ _ List.mem_cons_self) rfl rfl
  replace hbv6 := Lib.hid hbv6
  go_wp2_with fail
  with_reducible refine Calls.mono (HFo7.out (.slice (some ⟨x13.heap.size, 0, none⟩) 2 2) _ hbv6.out) ?_
  rintro e x15 ⟨v0, rfl, q0, hb⟩
  replace hL0 := hL0.call hb
  replace hT := hT.call hb
  clear hb hweq
  obtain ⟨g10, d10, g10c, rfl, -⟩ := pt_form q0
  replace hT := hT.cons q0
  clear q0
  replace hT := (hT.new (.cells #[.slice g9 d9 g9c, .slice g10 d10 g10c] 30))
  replace hL0 := (hL0.new rfl [.slice g9 d9 g9c, .slice g10 d10 g10c] 30)
  generalize hweq : (x15.alloc (.cells #[.slice g9 d9 g9c, .slice g10 d10 g10c] 30)) = x16 at hL0 hT
  have hbv7 : VLs x16 (.slice (some ⟨x15.heap.size, 0, none⟩) 2 2) [o6, o7] := vls_two (hL0.get _ _ List.mem_cons_self) (hT.get (List.mem_cons_of_mem _ List.mem_cons_self)) (hT.get List.mem_cons_self)
  replace hbv7 := Lib.hid hbv7
  go_wp2_with fail
  with_reducible refine Calls.mono (HMx.out (.slice g8 d8 g8c) (.slice (some ⟨x15.heap.size, 0, none⟩) 2 2) _ (hT.get (List.mem_cons_of_mem _ (List.mem_cons_of_mem _ List.mem_cons_self))) hbv7.out) ?_
  rintro e x17 ⟨v0, rfl, q0, hb⟩
  replace hL0 := hL0.call hb
  replace hT := hT.call hb
  clear hb hweq
  obtain ⟨g11, d11, g11c, rfl, -⟩ := pt_form q0
  replace hT := hT.cons q0
  clear q0
  replace hT := (hT.new (.cells #[.int .i64 5, .int .i64 6, .int .i64 7] 2))
  replace hL0 := (hL0.new rfl [.int .i64 5, .int .i64 6, .int .i64 7] 2)
  generalize hweq : (x17.alloc (.cells #[.int .i64 5, .int .i64 6, .int .i64 7] 2)) = x18 at hL0 hT
  have hbv8 : ILs x18 (.slice (some ⟨x17.heap.size, 0, none⟩) 3 3) [5, 6, 7] := ils_at (hL0.get _ _ List.mem_cons_self) rfl rfl
  replace hbv8 := Lib.hid hbv8
  go_wp2_with fail
  with_reducible refine Calls.mono (HFo8.out (.slice (some ⟨x17.heap.size, 0, none⟩) 3 3) _ hbv8.out) ?_
  rintro e x19 ⟨v0, rfl, q0, hb⟩
  replace hL0 := hL0.call hb
  replace hT := hT.call hb
  clear hb hweq
  obtain ⟨g12, d12, g12c, rfl, -⟩ := pt_form q0
  replace hT := hT.cons q0
  clear q0
  replace hT := (hT.new (.cells #[.int .i64 2, .int .i64 0, .int .i64 2] 3))
  replace hL0 := (hL0.new rfl [.int .i64 2, .int .i64 0, .int .i64 2] 3)
  generalize hweq : (x19.alloc (.cells #[.int .i64 2, .int .i64 0, .int .i64 2] 3)) = x20 at hL0 hT
  have hbv9 : ILs x20 (.slice (some ⟨x19.heap.size, 0, none⟩) 3 3) [2, 0, 2] := ils_at (hL0.get _ _ List.mem_cons_self) rfl rfl
  replace hbv9 := Lib.hid hbv9
  go_wp2_with fail
  with_reducible refine Calls.mono (HPt.out (.slice g12 d12 g12c) (.slice (some ⟨x19.heap.size, 0, none⟩) 3 3) _ (hT.get List.mem_cons_self) hbv9.out) ?_
  rintro e x21 ⟨v0, rfl, q0, hb⟩
  replace hL0 := hL0.call hb
  replace hT := hT.call hb
  clear hb hweq
  obtain ⟨g13, d13, g13c, rfl, -⟩ := pt_form q0
  replace hT := hT.cons q0
  clear q0
  replace hT := (hT.new (.cells #[.int .i64 1] 2))
  replace hL0 := (hL0.new rfl [.int .i64 1] 2)
  generalize hweq : (x21.alloc (.cells #[.int .i64 1] 2)) = x22 at hL0 hT
  have hbv10 : ILs x22 (.slice (some ⟨x21.heap.size, 0, none⟩) 1 1) [1] := ils_at (hL0.get _ _ List.mem_cons_self) rfl rfl
  replace hbv10 := Lib.hid hbv10
  go_wp2_with fail
  with_reducible refine Calls.mono (HFo9.out (.slice (some ⟨x21.heap.size, 0, none⟩) 1 1) _ hbv10.out) ?_
  rintro e x23 ⟨v0, rfl, q0, hb⟩
  replace hL0 := hL0.call hb
  replace hT := hT.call hb
  clear hb hweq
  obtain ⟨g14, d14, g14c, rfl, -⟩ := pt_form q0
  replace hT := hT.cons q0
  clear q0
  replace hT := (hT.new (.cells #[.int .i64 1, .int .i64 2] 2))
  replace hL0 := (hL0.new rfl [.int .i64 1, .int .i64 2] 2)
  generalize hweq : (x23.alloc (.cells #[.int .i64 1, .int .i64 2] 2)) = x24 at hL0 hT
  have hbv11 : ILs x24 (.slice (some ⟨x23.heap.size, 0, none⟩) 2 2) [1, 2] := ils_at (hL0.get _ _ List.mem_cons_self) rfl rfl
  replace hbv11 := Lib.hid hbv11
  go_wp2_with fail
  with_reducible refine Calls.mono (HFoa.out (.slice (some ⟨x23.heap.size, 0, none⟩) 2 2) _ hbv11.out) ?_
  rintro e x25 ⟨v0, rfl, q0, hb⟩
  replace hL0 := hL0.call hb
  replace hT := hT.call hb
  clear hb hweq
  obtain ⟨g15, d15, g15c, rfl, -⟩ := pt_form q0
  replace hT := hT.cons q0
  clear q0
  go_wp2_with fail
  with_reducible refine Calls.mono (HAd.out (.slice g14 d14 g14c) (.slice g15 d15 g15c) _ (hT.get (List.mem_cons_of_mem _ List.mem_cons_self)) (hT.get List.mem_cons_self)) ?_
  rintro e x26 ⟨rfl, hb⟩
  replace hL0 := hL0.call hb
  replace hT := hT.call hb
  clear hb
  go_upto_region 8 with fail
  refine region_tl 43 [EV (.slice g1 d1 g1c), EV (.string (ByteArray.mk #[91, 49, 32, 45, 50, 93])), EV (.bool false), EV (.bool false), EV (.slice g5 d5 g5c), EV (.string (ByteArray.mk #[91, 49, 47, 50, 32, 50, 93])), EV (.bool false), EV (.bool false), EV (.bool false), EV (.int .i64 0), EV (.bool false), EV (.bool false), EV (.bool false), EV (.agg #[.int .u64 ((zl dt.num : Nat) : Int), .string (zh dt.num), .bool (zs dt.num), .int .u64 ((lo (fe dt) : Nat) : Int), .string (hs (fe dt))]), EV (.agg #[.int .u64 ((zl dt.num : Nat) : Int), .string (zh dt.num), .bool (zs dt.num), .int .u64 ((lo (fe dt) : Nat) : Int), .string (hs (fe dt))]), EV (.bool false), EV (.bool false), EV (.bool false), EV (.int .i64 0), EV (.bool false), EV (.bool false), EV (.bool false), EV (.slice g11 d11 g11c), EV (.string (ByteArray.mk #[91, 50, 32, 51, 93])), EV (.bool false), EV (.bool false), EV (.bool false), EV (.int .i64 0), EV (.bool false), EV (.bool false), EV (.bool false), EV (.slice g13 d13 g13c), EV (.string (ByteArray.mk #[91, 55, 32, 53, 32, 55, 93])), EV (.bool false), EV (.bool false), EV (.bool false), EV (.int .i64 0), EV (.bool false), EV (.bool false), EV (.bool false), EV (.int .i64 1), EV (.bool false), EV (.bool false)] (by kernel_rfl) (by kernel_rfl) ?_ ?_ ?_
  ·exact stays_cons (stays_eq _) (stays_cons (stays_eq _) (stays_cons (stays_eq _) (stays_cons (stays_eq _) (stays_cons (stays_eq _) (stays_cons (stays_eq _) (stays_cons (stays_eq _) (stays_cons (stays_eq _) (stays_cons (stays_eq _) (stays_cons (stays_eq _) (stays_cons (stays_eq _) (stays_cons (stays_eq _) (stays_cons (stays_eq _) (stays_cons (stays_eq _) (stays_cons (stays_eq _) (stays_cons (stays_eq _) (stays_cons (stays_eq _) (stays_cons (stays_eq _) (stays_cons (stays_eq _) (stays_cons (stays_eq _) (stays_cons (stays_eq _) (stays_cons (stays_eq _) (stays_cons (stays_eq _) (stays_cons (stays_eq _) (stays_cons (stays_eq _) (stays_cons (stays_eq _) (stays_cons (stays_eq _) (stays_cons (stays_eq _) (stays_cons (stays_eq _) (stays_cons (stays_eq _) (stays_cons (stays_eq _) (stays_cons (stays_eq _) (stays_cons (stays_eq _) (stays_cons (stays_eq _) (stays_cons (stays_eq _) (stays_cons (stays_eq _) (stays_cons (stays_eq _) (stays_cons (stays_eq _) (stays_cons (stays_eq _) (stays_cons (stays_eq _) (stays_cons (stays_eq _) (stays_cons (stays_eq _) (stays_cons (stays_eq _) (stays_nil)))))))))))))))))))))))))))))))))))))))))))
  ·simp only [List.take_succ_cons, List.take_zero, hopsR, and_true]
   refine ⟨?_, ?_, ?_, ?_, ?_, ?_, ?_, ?_, ?_, ?_, ?_, ?_, ?_, ?_, ?_, ?_, ?_, ?_, ?_, ?_, ?_, ?_, ?_, ?_, ?_, ?_, ?_, ?_, ?_, ?_, ?_, ?_, ?_, ?_, ?_, ?_, ?_, ?_, ?_, ?_, ?_, ?_, ?_⟩ <;> intro fv w1 hb1 hp
   all_goals (simp only [putsV, Act.put, List.setIfInBounds_toArray, List.set_cons_succ, List.set_cons_zero, Nat.zero_add, Nat.reduceAdd])
   ·refine tyAt_none rfl ?_
    simp [tyUpon, execOp, go_sem, Act.eval, Below.refl]
   ·have h0 : EV _ (fv 0) w1 := hp 0 (LC (by kernel_rfl))
    refine tyAt_none rfl ?_
    refine ty_call (f := 52) (args := #[.slice g1 d1 g1c]) (by simp [execOp, go_sem, Act.eval, h0]) ?_
    exact (HTo1.out (.slice g1 d1 g1c) w1 (hKT.out.at ((hL0.call (below_drew hb1)).bl) kKT) (PT.below (hT.get (List.mem_cons_of_mem _ (List.mem_cons_of_mem _ (List.mem_cons_of_mem _ (List.mem_cons_of_mem _ (List.mem_cons_of_mem _ (List.mem_cons_of_mem _ (List.mem_cons_of_mem _ (List.mem_cons_of_mem _ (List.mem_cons_of_mem _ (List.mem_cons_of_mem _ (List.mem_cons_of_mem _ (List.mem_cons_of_mem _ (List.mem_cons_of_mem _ List.mem_cons_self)))))))))))))) (below_drew hb1))).mono fun e w2 ⟨h1, h2⟩ => ⟨_, h1, rfl, h2⟩
   ·have h1 : EV _ (fv 1) w1 := hp 1 (LC (by kernel_rfl))
    refine tyAt_none rfl ?_
    simp [tyUpon, execOp, go_sem, Act.eval, h1, Below.refl]
   ·have h2 : EV _ (fv 2) w1 := hp 2 (LC (by kernel_rfl))
    refine tyAt_none rfl ?_
    simp [tyUpon, execOp, go_sem, Act.eval, h2, Below.refl]
   ·have h3 : EV _ (fv 3) w1 := hp 3 (LC (by kernel_rfl))
    refine tyAt_yes (by simp [Region.wanted, yielded, h3]) ?_
    simp [tyUpon, execOp, go_sem, Act.eval, h3, Below.refl]
   ·have h4 : EV _ (fv 4) w1 := hp 4 (LC (by kernel_rfl))
    have h3 : EV _ (fv 3) w1 := hp 3 (LC (by kernel_rfl))
    refine tyAt_yes (by simp [Region.wanted, yielded, h4, h3]) ?_
    refine ty_call (f := 52) (args := #[.slice g5 d5 g5c]) (by simp [execOp, go_sem, Act.eval, h4, h3]) ?_
    exact (HTax.out (.slice g5 d5 g5c) w1 (hKT.out.at ((hL0.call (below_drew hb1)).bl) kKT) (PT.below (hT.get (List.mem_cons_of_mem _ (List.mem_cons_of_mem _ (List.mem_cons_of_mem _ (List.mem_cons_of_mem _ (List.mem_cons_of_mem _ (List.mem_cons_of_mem _ (List.mem_cons_of_mem _ (List.mem_cons_of_mem _ (List.mem_cons_of_mem _ (List.mem_cons_of_mem _ List.mem_cons_self))))))))))) (below_drew hb1))).mono fun e w2 ⟨h1, h2⟩ => ⟨_, h1, rfl, h2⟩
   ·have h5 : EV _ (fv 5) w1 := hp 5 (LC (by kernel_rfl))
    have h3 : EV _ (fv 3) w1 := hp 3 (LC (by kernel_rfl))
    refine tyAt_yes (by simp [Region.wanted, yielded, h5, h3]) ?_
    simp [tyUpon, execOp, go_sem, Act.eval, h5, h3, Below.refl]
   ·have h3 : EV _ (fv 3) w1 := hp 3 (LC (by kernel_rfl))
    have h6 : EV _ (fv 6) w1 := hp 6 (LC (by kernel_rfl))
    refine tyAt_none rfl ?_
    simp [tyUpon, execOp, go_sem, Act.eval, h3, h6, Below.refl]
   ·have h7 : EV _ (fv 7) w1 := hp 7 (LC (by kernel_rfl))
    refine tyAt_none rfl ?_
    simp [tyUpon, execOp, go_sem, Act.eval, h7, Below.refl]
   ·have h8 : EV _ (fv 8) w1 := hp 8 (LC (by kernel_rfl))
    refine tyAt_yes (by simp [Region.wanted, yielded, h8]) ?_
    simp [tyUpon, execOp, go_sem, Act.eval, h8, Below.refl]
   ·have h9 : EV _ (fv 9) w1 := hp 9 (LC (by kernel_rfl))
    have h8 : EV _ (fv 8) w1 := hp 8 (LC (by kernel_rfl))
    refine tyAt_yes (by simp [Region.wanted, yielded, h9, h8]) ?_
    simp [tyUpon, execOp, go_sem, Act.eval, h9, h8, Below.refl]
   ·have h8 : EV _ (fv 8) w1 := hp 8 (LC (by kernel_rfl))
    have h10 : EV _ (fv 10) w1 := hp 10 (LC (by kernel_rfl))
    refine tyAt_none rfl ?_
    simp [tyUpon, execOp, go_sem, Act.eval, h8, h10, Below.refl]
   ·have h11 : EV _ (fv 11) w1 := hp 11 (LC (by kernel_rfl))
    refine tyAt_none rfl ?_
    simp [tyUpon, execOp, go_sem, Act.eval, h11, Below.refl]
   ·have h12 : EV _ (fv 12) w1 := hp 12 (LC (by kernel_rfl))
    refine tyAt_yes (by simp [Region.wanted, yielded, h12]) ?_
    have hc := (hL0.call (below_drew hb1)).fc
    simp only [fcG, cellsF, neK, and_true, ne_eq, Nat.zero_add, Nat.reduceAdd] at hc
    simp [tyUpon, execOp, go_sem, Act.eval, hc, h12, Below.refl]
   ·have h12 : EV _ (fv 12) w1 := hp 12 (LC (by kernel_rfl))
    refine tyAt_yes (by simp [Region.wanted, yielded, h12]) ?_
    refine ty_call (f := 34) (args := #[.int .i64 32]) (by simp [execOp, go_sem, Act.eval, h12]) ?_
    exact (HI32.out w1).mono fun e w2 ⟨h1, h2⟩ => ⟨_, h1, rfl, h2⟩
   ·have h13 : EV _ (fv 13) w1 := hp 13 (LC (by kernel_rfl))
    have h14 : EV _ (fv 14) w1 := hp 14 (LC (by kernel_rfl))
    have h12 : EV _ (fv 12) w1 := hp 12 (LC (by kernel_rfl))
    refine tyAt_yes (by simp [Region.wanted, yielded, h13, h14, h12]) ?_
    simp [tyUpon, execOp, go_sem, Act.eval, h13, h14, h12, Below.refl]
   ·have h12 : EV _ (fv 12) w1 := hp 12 (LC (by kernel_rfl))
    have h15 : EV _ (fv 15) w1 := hp 15 (LC (by kernel_rfl))
    refine tyAt_none rfl ?_
    simp [tyUpon, execOp, go_sem, Act.eval, h12, h15, Below.refl]
   ·have h16 : EV _ (fv 16) w1 := hp 16 (LC (by kernel_rfl))
    refine tyAt_none rfl ?_
    simp [tyUpon, execOp, go_sem, Act.eval, h16, Below.refl]
   ·have h17 : EV _ (fv 17) w1 := hp 17 (LC (by kernel_rfl))
    refine tyAt_yes (by simp [Region.wanted, yielded, h17]) ?_
    simp [tyUpon, execOp, go_sem, Act.eval, h17, Below.refl]
   ·have h18 : EV _ (fv 18) w1 := hp 18 (LC (by kernel_rfl))
    have h17 : EV _ (fv 17) w1 := hp 17 (LC (by kernel_rfl))
    refine tyAt_yes (by simp [Region.wanted, yielded, h18, h17]) ?_
    simp [tyUpon, execOp, go_sem, Act.eval, h18, h17, Below.refl]
   ·have h17 : EV _ (fv 17) w1 := hp 17 (LC (by kernel_rfl))
    have h19 : EV _ (fv 19) w1 := hp 19 (LC (by kernel_rfl))
    refine tyAt_none rfl ?_
    simp [tyUpon, execOp, go_sem, Act.eval, h17, h19, Below.refl]
   ·have h20 : EV _ (fv 20) w1 := hp 20 (LC (by kernel_rfl))
    refine tyAt_none rfl ?_
    simp [tyUpon, execOp, go_sem, Act.eval, h20, Below.refl]
   ·have h21 : EV _ (fv 21) w1 := hp 21 (LC (by kernel_rfl))
    refine tyAt_yes (by simp [Region.wanted, yielded, h21]) ?_
    simp [tyUpon, execOp, go_sem, Act.eval, h21, Below.refl]
   ·have h22 : EV _ (fv 22) w1 := hp 22 (LC (by kernel_rfl))
    have h21 : EV _ (fv 21) w1 := hp 21 (LC (by kernel_rfl))
    refine tyAt_yes (by simp [Region.wanted, yielded, h22, h21]) ?_
    refine ty_call (f := 52) (args := #[.slice g11 d11 g11c]) (by simp [execOp, go_sem, Act.eval, h22, h21]) ?_
    exact (HTmx.out (.slice g11 d11 g11c) w1 (hKT.out.at ((hL0.call (below_drew hb1)).bl) kKT) (PT.below (hT.get (List.mem_cons_of_mem _ (List.mem_cons_of_mem _ (List.mem_cons_of_mem _ (List.mem_cons_of_mem _ List.mem_cons_self))))) (below_drew hb1))).mono fun e w2 ⟨h1, h2⟩ => ⟨_, h1, rfl, h2⟩
   ·have h23 : EV _ (fv 23) w1 := hp 23 (LC (by kernel_rfl))
    have h21 : EV _ (fv 21) w1 := hp 21 (LC (by kernel_rfl))
    refine tyAt_yes (by simp [Region.wanted, yielded, h23, h21]) ?_
    simp [tyUpon, execOp, go_sem, Act.eval, h23, h21, Below.refl]
   ·have h21 : EV _ (fv 21) w1 := hp 21 (LC (by kernel_rfl))
    have h24 : EV _ (fv 24) w1 := hp 24 (LC (by kernel_rfl))
    refine tyAt_none rfl ?_
    simp [tyUpon, execOp, go_sem, Act.eval, h21, h24, Below.refl]
   ·have h25 : EV _ (fv 25) w1 := hp 25 (LC (by kernel_rfl))
    refine tyAt_none rfl ?_
    simp [tyUpon, execOp, go_sem, Act.eval, h25, Below.refl]
   ·have h26 : EV _ (fv 26) w1 := hp 26 (LC (by kernel_rfl))
    refine tyAt_yes (by simp [Region.wanted, yielded, h26]) ?_
    simp [tyUpon, execOp, go_sem, Act.eval, h26, Below.refl]
   ·have h27 : EV _ (fv 27) w1 := hp 27 (LC (by kernel_rfl))
    have h26 : EV _ (fv 26) w1 := hp 26 (LC (by kernel_rfl))
    refine tyAt_yes (by simp [Region.wanted, yielded, h27, h26]) ?_
    simp [tyUpon, execOp, go_sem, Act.eval, h27, h26, Below.refl]
   ·have h26 : EV _ (fv 26) w1 := hp 26 (LC (by kernel_rfl))
    have h28 : EV _ (fv 28) w1 := hp 28 (LC (by kernel_rfl))
    refine tyAt_none rfl ?_
    simp [tyUpon, execOp, go_sem, Act.eval, h26, h28, Below.refl]
   ·have h29 : EV _ (fv 29) w1 := hp 29 (LC (by kernel_rfl))
    refine tyAt_none rfl ?_
    simp [tyUpon, execOp, go_sem, Act.eval, h29, Below.refl]
   ·have h30 : EV _ (fv 30) w1 := hp 30 (LC (by kernel_rfl))
    refine tyAt_yes (by simp [Region.wanted, yielded, h30]) ?_
    simp [tyUpon, execOp, go_sem, Act.eval, h30, Below.refl]
   ·have h31 : EV _ (fv 31) w1 := hp 31 (LC (by kernel_rfl))
    have h30 : EV _ (fv 30) w1 := hp 30 (LC (by kernel_rfl))
    refine tyAt_yes (by simp [Region.wanted, yielded, h31, h30]) ?_
    refine ty_call (f := 52) (args := #[.slice g13 d13 g13c]) (by simp [execOp, go_sem, Act.eval, h31, h30]) ?_
    exact (HTpt.out (.slice g13 d13 g13c) w1 (hKT.out.at ((hL0.call (below_drew hb1)).bl) kKT) (PT.below (hT.get (List.mem_cons_of_mem _ (List.mem_cons_of_mem _ List.mem_cons_self))) (below_drew hb1))).mono fun e w2 ⟨h1, h2⟩ => ⟨_, h1, rfl, h2⟩
   ·have h32 : EV _ (fv 32) w1 := hp 32 (LC (by kernel_rfl))
    have h30 : EV _ (fv 30) w1 := hp 30 (LC (by kernel_rfl))
    refine tyAt_yes (by simp [Region.wanted, yielded, h32, h30]) ?_
    simp [tyUpon, execOp, go_sem, Act.eval, h32, h30, Below.refl]
   ·have h30 : EV _ (fv 30) w1 := hp 30 (LC (by kernel_rfl))
    have h33 : EV _ (fv 33) w1 := hp 33 (LC (by kernel_rfl))
    refine tyAt_none rfl ?_
    simp [tyUpon, execOp, go_sem, Act.eval, h30, h33, Below.refl]
   ·have h34 : EV _ (fv 34) w1 := hp 34 (LC (by kernel_rfl))
    refine tyAt_none rfl ?_
    simp [tyUpon, execOp, go_sem, Act.eval, h34, Below.refl]
   ·have h35 : EV _ (fv 35) w1 := hp 35 (LC (by kernel_rfl))
    refine tyAt_yes (by simp [Region.wanted, yielded, h35]) ?_
    simp [tyUpon, execOp, go_sem, Act.eval, h35, Below.refl]
   ·have h36 : EV _ (fv 36) w1 := hp 36 (LC (by kernel_rfl))
    have h35 : EV _ (fv 35) w1 := hp 35 (LC (by kernel_rfl))
    refine tyAt_yes (by simp [Region.wanted, yielded, h36, h35]) ?_
    simp [tyUpon, execOp, go_sem, Act.eval, h36, h35, Below.refl]
   ·have h35 : EV _ (fv 35) w1 := hp 35 (LC (by kernel_rfl))
    have h37 : EV _ (fv 37) w1 := hp 37 (LC (by kernel_rfl))
    refine tyAt_none rfl ?_
    simp [tyUpon, execOp, go_sem, Act.eval, h35, h37, Below.refl]
   ·have h38 : EV _ (fv 38) w1 := hp 38 (LC (by kernel_rfl))
    refine tyAt_none rfl ?_
    simp [tyUpon, execOp, go_sem, Act.eval, h38, Below.refl]
   ·have h39 : EV _ (fv 39) w1 := hp 39 (LC (by kernel_rfl))
    refine tyAt_yes (by simp [Region.wanted, yielded, h39]) ?_
    simp [tyUpon, execOp, go_sem, Act.eval, h39, Below.refl]
   ·have h40 : EV _ (fv 40) w1 := hp 40 (LC (by kernel_rfl))
    have h39 : EV _ (fv 39) w1 := hp 39 (LC (by kernel_rfl))
    refine tyAt_yes (by simp [Region.wanted, yielded, h40, h39]) ?_
    simp [tyUpon, execOp, go_sem, Act.eval, h40, h39, Below.refl]
   ·have h39 : EV _ (fv 39) w1 := hp 39 (LC (by kernel_rfl))
    have h41 : EV _ (fv 41) w1 := hp 41 (LC (by kernel_rfl))
    refine tyAt_none rfl ?_
    simp [tyUpon, execOp, go_sem, Act.eval, h39, h41, Below.refl]
  ·intro fv x27 hb1 hv
   have e0 : fv 0 = _ := hv 0 (by omega)
   have e1 : fv 1 = _ := hv 1 (by omega)
   have e2 : fv 2 = _ := hv 2 (by omega)
   have e3 : fv 3 = _ := hv 3 (by omega)
   have e4 : fv 4 = _ := hv 4 (by omega)
   have e5 : fv 5 = _ := hv 5 (by omega)
   have e6 : fv 6 = _ := hv 6 (by omega)
   have e7 : fv 7 = _ := hv 7 (by omega)
   have e8 : fv 8 = _ := hv 8 (by omega)
   have e9 : fv 9 = _ := hv 9 (by omega)
   have e10 : fv 10 = _ := hv 10 (by omega)
   have e11 : fv 11 = _ := hv 11 (by omega)
   have e12 : fv 12 = _ := hv 12 (by omega)
   have e13 : fv 13 = _ := hv 13 (by omega)
   have e14 : fv 14 = _ := hv 14 (by omega)
   have e15 : fv 15 = _ := hv 15 (by omega)
   have e16 : fv 16 = _ := hv 16 (by omega)
   have e17 : fv 17 = _ := hv 17 (by omega)
   have e18 : fv 18 = _ := hv 18 (by omega)
   have e19 : fv 19 = _ := hv 19 (by omega)
   have e20 : fv 20 = _ := hv 20 (by omega)
   have e21 : fv 21 = _ := hv 21 (by omega)
   have e22 : fv 22 = _ := hv 22 (by omega)
   have e23 : fv 23 = _ := hv 23 (by omega)
   have e24 : fv 24 = _ := hv 24 (by omega)
   have e25 : fv 25 = _ := hv 25 (by omega)
   have e26 : fv 26 = _ := hv 26 (by omega)
   have e27 : fv 27 = _ := hv 27 (by omega)
   have e28 : fv 28 = _ := hv 28 (by omega)
   have e29 : fv 29 = _ := hv 29 (by omega)
   have e30 : fv 30 = _ := hv 30 (by omega)
   have e31 : fv 31 = _ := hv 31 (by omega)
   have e32 : fv 32 = _ := hv 32 (by omega)
   have e33 : fv 33 = _ := hv 33 (by omega)
   have e34 : fv 34 = _ := hv 34 (by omega)
   have e35 : fv 35 = _ := hv 35 (by omega)
   have e36 : fv 36 = _ := hv 36 (by omega)
   have e37 : fv 37 = _ := hv 37 (by omega)
   have e38 : fv 38 = _ := hv 38 (by omega)
   have e39 : fv 39 = _ := hv 39 (by omega)
   have e40 : fv 40 = _ := hv 40 (by omega)
   have e41 : fv 41 = _ := hv 41 (by omega)
   have e42 : fv 42 = _ := hv 42 (by omega)
   simp only [List.take_succ_cons, List.take_zero, putsV, Act.put, List.setIfInBounds_toArray, List.set_cons_succ, List.set_cons_zero, List.drop_succ_cons, List.drop_zero, Nat.zero_add, Nat.reduceAdd, e0, e1, e2, e3, e4, e5, e6, e7, e8, e9, e10, e11, e12, e13, e14, e15, e16, e17, e18, e19, e20, e21, e22, e23, e24, e25, e26, e27, e28, e29, e30, e31, e32, e33, e34, e35, e36, e37, e38, e39, e40, e41, e42]
   replace hL0 := hL0.call (below_drew hb1)
   replace hT := hT.call (below_drew hb1)
   clear e0 e1 e2 e3 e4 e5 e6 e7 e8 e9 e10 e11 e12 e13 e14 e15 e16 e17 e18 e19 e20 e21 e22 e23 e24 e25 e26 e27 e28 e29 e30 e31 e32 e33 e34 e35 e36 e37 e38 e39 e40 e41 e42 hb1 hv fv
   go_wp2_with fail
   with_reducible refine Calls.mono (HU.out _) ?_
   rintro e x28 ⟨rfl, hb⟩
   replace hL0 := hL0.call hb
   replace hT := hT.call hb
   clear hb
   go_wp2_with fail
   with_reducible refine Calls.mono (HZ1.out _) ?_
   rintro e x29 ⟨rfl, hb⟩
   replace hL0 := hL0.call hb
   replace hT := hT.call hb
   clear hb
   go_wp2_with fail
   with_reducible refine Calls.mono (HZ2.out _) ?_
   rintro e x30 ⟨rfl, hb⟩
   replace hL0 := hL0.call hb
   replace hT := hT.call hb
   clear hb
   replace hT := (hT.new (.cells #[.int .i64 2, .int .i64 (-7)] 2))
   replace hL0 := (hL0.new rfl [.int .i64 2, .int .i64 (-7)] 2)
   generalize hweq : (x30.alloc (.cells #[.int .i64 2, .int .i64 (-7)] 2)) = x31 at hL0 hT
   have hbv12 : ILs x31 (.slice (some ⟨x30.heap.size, 0, none⟩) 2 2) [2, (-7)] := ils_at (hL0.get _ _ List.mem_cons_self) rfl rfl
   replace hbv12 := Lib.hid hbv12
   go_wp2_with fail
   with_reducible refine Calls.mono (HFob.out (.slice (some ⟨x30.heap.size, 0, none⟩) 2 2) _ hbv12.out) ?_
   rintro e x32 ⟨v0, rfl, q0, hb⟩
   replace hL0 := hL0.call hb
   replace hT := hT.call hb
   clear hb hweq
   obtain ⟨g16, d16, g16c, rfl, -⟩ := pt_form q0
   replace hT := hT.cons q0
   clear q0
   go_wp2_with fail
   with_reducible refine Calls.mono (HM1.out (.slice g16 d16 g16c) _ (hT.get List.mem_cons_self)) ?_
   rintro e x33 ⟨rfl, hb⟩
   replace hL0 := hL0.call hb
   replace hT := hT.call hb
   clear hb
   go_wp2_with fail
   with_reducible refine Calls.mono (HI7.out _) ?_
   rintro e x34 ⟨rfl, hb⟩
   replace hL0 := hL0.call hb
   replace hT := hT.call hb
   clear hb
   go_wp2_with fail
   with_reducible refine Calls.mono (HM2.out _) ?_
   rintro e x35 ⟨rfl, hb⟩
   replace hL0 := hL0.call hb
   replace hT := hT.call hb
   clear hb
   go_wp2_with fail
   with_reducible refine Calls.mono (HTn.out _ (hKT.out.at hL0.bl kKT)) ?_
   rintro e x36 ⟨rfl, hb⟩
   replace hL0 := hL0.call hb
   replace hT := hT.call hb
   clear hb
   go_wp2_with fail
   exact bodyPost_ret (v := .bool true) (by simp [results, Tryz.results12, go_sem]) rfl ⟨rfl, hL0.bl⟩
end Go.Proofs.YtoahpkelajimfaaGreatDoor
namespace Go.Proofs.YtoahpkelajimfaaGreatDoor
open Go.RowKit
attribute [local irreducible] lo hs sm s64 c64 d64 b64 mh ml pd pc qd qc val hiB str cmpI srD lz nb zl zh zs fe rowV tabV gv bsV mxV colV
theorem ne_two {x y : List Rat} (h : x.length ≠ y.length) : ∃ l ∈ [x, y], l.length ≠ (([x, y] : List (List Rat)).getD 0 []).length := ⟨y, by simp, fun e => h e.symm⟩
theorem le_two {x y : List Rat} {n : Nat} (hx : x.length ≤ n) (hy : y.length ≤ n) : ∀ l ∈ [x, y], l.length ≤ n := by
 intro l hl
 rcases List.mem_cons.1 hl with rfl | hl
 ·exact hx
 ·rw [List.mem_singleton.1 hl]; exact hy
set_option maxHeartbeats 4000000 in
set_option maxRecDepth 100000 in
theorem vadd_arg (x y : List Rat) (hx : x.length ≤ 2048) (hy : y.length ≤ 2048) (hne : x.length ≠ y.length) (va vb : Value) (w : World) (hv : SlQ w va x) (hu : SlQ w vb y) :
  Calls Tryz.prog 18 #[va, vb] w fun xe w' => xe = .returned (.tuple #[.slice none 0 0, .int .i64 1]) ∧ Below w.heap.size w w' := by
 obtain ⟨aa, ca, rfl⟩ := slq_form' hv
 obtain ⟨ab, cb, rfl⟩ := slq_form' hu
 have hL0 : GL w w [] := GL.start w
 replace hL0 := ((hL0.new rfl [.slice aa x.length ca] 30).new (K := w.heap.size + 1) (szA _ _) [.slice ab y.length cb] 30)
 generalize hweq : ((w.alloc (.cells #[.slice aa x.length ca] 30)).alloc (.cells #[.slice ab y.length cb] 30)) = x1 at hL0
 have hv1 := hv.below hL0.bl
 have hu1 := hu.below hL0.bl
 have hc1 := (hL0.get _ _ (List.mem_cons_of_mem _ List.mem_cons_self)).cell 0 (by simp)
 simp only [List.getElem_cons_zero, List.getElem_cons_succ] at hc1
 have hc2 := (hL0.get _ _ List.mem_cons_self).cell 0 (by simp)
 simp only [List.getElem_cons_zero, List.getElem_cons_succ] at hc2
 replace hL0 := (hL0.new rfl [.slice aa x.length ca, .slice ab y.length cb] 30)
 generalize hweq2 : (x1.alloc (.cells #[.slice aa x.length ca, .slice ab y.length cb] 30)) = x2 at hL0
 have hb2 : Below x1.heap.size x1 x2 := hweq2 ▸ ((Below.refl _ _).alloc (Nat.le_refl _) _)
 have hv2 := hv1.below hb2
 have hu2 := hu1.below hb2
 have HC := Lib.hid (fun fv => vcombine_arg fv [x, y] (by simp) (le_two hx hy) (ne_two hne) _ x2 (vls_two (c := 2) (hL0.get _ _ List.mem_cons_self) hv2 hu2))
 replace hL0 := Lib.hid hL0
 clear hv hu hv1 hu1 hv2 hu2 hb2 hne
 go_enter Tryz.func18, Tryz.ntmps18
 go_wp2_with fail
 with_reducible refine Calls.mono (HC.out _) ?_
 rintro e y2 ⟨rfl, hb⟩
 replace hb := Lib.hid (hL0.out.bl.trans (hb.mono hL0.out.bl.size))
 clear hweq hweq2 hc1 hc2
 go_wp2_with fail
 exact bodyPost_ret (v := .tuple #[.slice none 0 0, .int .i64 1]) (by simp [results, Tryz.results18, go_sem]) rfl ⟨rfl, hb.out⟩
end Go.Proofs.YtoahpkelajimfaaGreatDoor
namespace Go.Proofs.YtoahpkelajimfaaGreatDoor
open Go.RowKit
attribute [local irreducible] lo hs sm s64 c64 d64 b64 mh ml pd pc qd qc val hiB str cmpI srD lz nb zl zh zs fe
theorem szl {l : List Rat} (h : l.all (fun q => decide (q.num.natAbs < 18446744073709551616 ∧ q.den < 18446744073709551616)) = true) : ∀ q ∈ l, Sz q 1 := fun q hq => by
 have := of_decide_eq_true (List.all_eq_true.1 h q hq)
 exact szc q this.1 this.2
theorem nv_one {f : FuncId} {args : Array Value} {w : World} {B : Nat} {l : List Rat} (h : Calls Tryz.prog f args w fun xe w' => ∃ u, xe = .returned u ∧ NV B l u w' ∧ Below w.heap.size w w') :
  Calls Tryz.prog f args w fun xe w' => ∃ u, xe = .returned u ∧ SlQ w' u l ∧ Below w.heap.size w w' := h.mono fun _ _ ⟨u, h1, h2, h3⟩ => ⟨u, h1, h2.slq, h3⟩
theorem two_all {P : List Rat → Prop} {x y : List Rat} (hx : P x) (hy : P y) : ∀ l ∈ [x, y], P l := by
 intro l hl
 rcases List.mem_cons.1 hl with rfl | hl
 ·exact hx
 ·rw [List.mem_singleton.1 hl]; exact hy
def oW (zs : List Int) : List Rat := tabV zs.length (ofV zs)
theorem of_at (zs : List Int) (hm : zs.length ≤ 100000) (hz : ∀ z ∈ zs, -9223372036854775808 ≤ z ∧ z < 9223372036854775808) (v : Value) (w : World) (hv : ILs w v zs) :
  Calls Tryz.prog 51 #[v] w fun xe w' => ∃ u, xe = .returned u ∧ SlQ w' u (oW zs) ∧ Below w.heap.size w w' := nv_one (vofV zs hm hz v w hv)
def axW : List Rat := tabV 2 fun i => ((((1 : Int)) : Rat) / (((2 : Int)) : Rat)) * gv (oW [1, -2]) i + gv (oW [0, 3]) i
def mxW : List Rat := tabV 2 (mixV (oW [2, 3]) [oW [1, 0], oW [0, 1]])
def ptW : List Rat := tabV 3 (partV (oW [5, 6, 7]) [2, 0, 2])
theorem text_at (x : List Rat) (Jt : List UInt8) (t : ByteArray) (hx : x.length ≤ 10) (sx : ∀ q ∈ x, Sz q 1) (hJ : Lib.join ((x.map qtxt).map (·.data.toList)) [32] = Jt) (hJl : Jt.length ≤ 100) (ht : (⟨([91] ++ Jt ++ [93]).toArray⟩ : ByteArray) = t) (v : Value) (w : World) (hT : Tab w) (hv : SlQ w v x) :
  Calls Tryz.prog 52 #[v] w fun xe w' => xe = .returned (.string t) ∧ Below w.heap.size w w' := by
 rw [← ht]
 exact vtextV x x.length 1 Jt rfl (by omega) (by omega) sx hJ (by omega) v w hT hv
set_option maxRecDepth 10000 in
theorem vworks_any (w : World) (ht : Tab w) : Calls Tryz.prog 12 #[] w fun xe w' => xe = .returned (.bool true) ∧ Below w.heap.size w w' := by
 have s1 : ∀ q ∈ oW [1, -2], Sz q 1 := szl (by kernel_rfl)
 have s2 : ∀ q ∈ oW [0, 3], Sz q 1 := szl (by kernel_rfl)
 have s3 : ∀ q ∈ oW [1, 2, 3], Sz q 1 := szl (by kernel_rfl)
 have s4 : ∀ q ∈ oW [4, 5, 6], Sz q 1 := szl (by kernel_rfl)
 have s5 : ∀ q ∈ oW [2, 3], Sz q 1 := szl (by kernel_rfl)
 have s6 : ∀ q ∈ oW [1, 0], Sz q 1 := szl (by kernel_rfl)
 have s7 : ∀ q ∈ oW [0, 1], Sz q 1 := szl (by kernel_rfl)
 have sb : ∀ q ∈ oW [2, -7], Sz q 1 := szl (by kernel_rfl)
 have sa : ∀ q ∈ axW, Sz q 1 := szl (by kernel_rfl)
 have sm : ∀ q ∈ mxW, Sz q 1 := szl (by kernel_rfl)
 have sp : ∀ q ∈ ptW, Sz q 1 := szl (by kernel_rfl)
 have sh : Sz ((((1 : Int)) : Rat) / (((2 : Int)) : Rat)) 1 := szc _ (by decide +kernel) (by decide +kernel)
 have HM2 := fun w => vmaxV [] 0 1 rfl (by decide) (by decide) (fun q h => by cases h) (.slice none 0 0) w (pt_nil w)
 rw [mx_nil, frV_q0] at HM2
 refine vworks_w ((((1 : Int)) : Rat) / (((2 : Int)) : Rat)) (bsV 3 fun i => gv (oW [1, 2, 3]) i * gv (oW [4, 5, 6]) i) (mxV (oW [2, -7]))
  (oW [1, -2]) (oW [0, 3]) (oW [1, 2, 3]) (oW [4, 5, 6]) (oW [2, 3]) (oW [1, 0]) (oW [0, 1]) (oW [5, 6, 7]) (oW [1]) (oW [1, 2]) (oW [2, -7]) axW mxW ptW
  (fun w => ofF 1 2 (by decide) (by decide) (by decide) (by decide) (by decide) w)
  (fun p w h => of_at _ (by decide) (by decide) p w h) (fun p w h => of_at _ (by decide) (by decide) p w h) (fun p w h => of_at _ (by decide) (by decide) p w h) (fun p w h => of_at _ (by decide) (by decide) p w h) (fun p w h => of_at _ (by decide) (by decide) p w h) (fun p w h => of_at _ (by decide) (by decide) p w h)
  (fun p w h => of_at _ (by decide) (by decide) p w h) (fun p w h => of_at _ (by decide) (by decide) p w h) (fun p w h => of_at _ (by decide) (by decide) p w h) (fun p w h => of_at _ (by decide) (by decide) p w h) (fun p w h => of_at _ (by decide) (by decide) p w h)
  (fun p q w h g => nv_two (vaxpyV _ _ _ 2 1 rfl rfl (by decide) (by decide) sh s1 s2 p q w h g))
  (fun p q w h g => vDotV _ _ 3 1 rfl rfl (by decide) (by decide) s3 s4 p q w h g)
  (fun p q w h g => nv_two (vmixV (oW [2, 3]) [oW [1, 0], oW [0, 1]] 2 1 (by decide) rfl (by decide) (two_all (P := fun l => l.length = 2) rfl rfl) (by decide) (by decide) (two_all (P := fun l => ∀ q ∈ l, Sz q 1) s6 s7) s5 p q w h g))
  (fun p q w h g => nv_two (vpartV (oW [5, 6, 7]) [2, 0, 2] 3 3 rfl (by decide) rfl (by decide) (by decide) p q w h g))
  (fun p q w h g => vadd_arg (oW [1]) (oW [1, 2]) (by decide) (by decide) (by decide) p q w h g)
  (fun w => ?_) (fun w => ?_)
  (fun w => vunit_out 2 2 (by decide) (by decide) w) (fun w => vzero_neg (-1) (by decide) w) (fun w => vzero_big 2049 (by decide) w)
  (fun p w h => vmaxV _ 2 1 rfl (by decide) (by decide) sb p w h) HM2
  Tab Keeps.tab
  (fun p w ht h => text_at _ [49, 32, 45, 50] _ (by decide) s1 (by kernel_rfl) (by decide) rfl p w ht h)
  (fun p w ht h => text_at _ [49, 47, 50, 32, 50] _ (by decide) sa (by kernel_rfl) (by decide) rfl p w ht h)
  (fun p w ht h => text_at _ [50, 32, 51] _ (by decide) sm (by kernel_rfl) (by decide) rfl p w ht h)
  (fun p w ht h => text_at _ [55, 32, 53, 32, 55] _ (by decide) sp (by kernel_rfl) (by decide) rfl p w ht h)
  (fun w ht => text_at [] [] _ (by decide) (fun q h => by cases h) rfl (by decide) rfl _ w ht (pt_nil w)) w ht
 ·have := intF 32 (by decide) (by decide) w
  rwa [show (((32 : Int)) : Rat) = bsV 3 fun i => gv (oW [1, 2, 3]) i * gv (oW [4, 5, 6]) i from by kernel_rfl] at this
 ·have := intF 7 (by decide) (by decide) w
  rwa [show (((7 : Int)) : Rat) = mxV (oW [2, -7]) from by kernel_rfl] at this
end Go.Proofs.YtoahpkelajimfaaGreatDoor
namespace Go.Proofs.YtoahpkelajimfaaGreatDoor
open Go.ChangeShapes Go.WideShapes Go.ChangeAt Go.RowKit
theorem own : ownKnob Tryz.prog.godebug = none := by kernel_rfl
theorem laidOut : laidOutB Tryz.prog = true := by kernel_rfl
theorem cells24 : Tryz.prog.cellsOf 32 = 1 := by kernel_rfl
/-- The variables that every row of this layer lists. -/
def laidAll : List (String × DataW Unit) := [("math/bits.deBruijn32tab", Rows.laid_math_bits_deBruijn32tab), ("math/bits.deBruijn64tab", Rows.laid_math_bits_deBruijn64tab), ("internal/strconv.uint64pow10", Rows.laid_internal_strconv_uint64pow10)]
theorem gPow : Tryz.prog.globalNamed "internal/strconv.uint64pow10" = some 2 := by kernel_rfl
theorem gPowType : (Tryz.prog.globals[2]?).map (·.type) = some 220 := by kernel_rfl
theorem cells20 : Tryz.prog.cellsOf 220 = 20 := by kernel_rfl
theorem tab_of {W : World} (h : laidMetH Tryz.prog laidAll W) : Tab W := by
 have h1 := laidMetH.filter (fun x => x.1 == "internal/strconv.uint64pow10") h
 have e : laidAll.filter (fun x => x.1 == "internal/strconv.uint64pow10") = [("internal/strconv.uint64pow10", Rows.laid_internal_strconv_uint64pow10)] := by kernel_rfl
 rw [e, MakeChecks.laidMetH_plain _ _ _ (by kernel_rfl)] at h1
 exact Lib.tabIs_of_head (rest := []) gPow gPowType Tryz.underlying220 Tryz.underlying32 cells24 cells20 (show laidMet Tryz.prog (("internal/strconv.uint64pow10", Lib.tabData .u64 Lib.pow10Tab) :: []) W from h1)
end Go.Proofs.YtoahpkelajimfaaGreatDoor
namespace Go.Proofs.YtoahpkelajimfaaGreatDoor
open Go.ChangeShapes Go.WideShapes Go.ChangeAt Go.RowKit Go.Joins
set_option maxRecDepth 100000 in
theorem cellsQ : Tryz.prog.cellsOf 24 = 2 := by kernel_rfl
theorem cellsI : Tryz.prog.cellsOf 2 = 1 := by kernel_rfl
theorem cellsU : Tryz.prog.cellsOf 22 = 1 := by kernel_rfl
set_option maxRecDepth 100000 in
theorem q_of {H : Type} {enc : TypeId × Value → H} {W : World} {base : Nat} {v : Value} {d : DataW H} {p : List MemPlace} (hv : Value.okWide Tryz.prog W .any base 24 v)
  (h : DataW.Trod enc Tryz.prog W 0 (fun _ => true) true 24 v d p) : ∃ n e : Int, v = .agg #[.int .i64 n, .int .u32 e] ∧ (-9223372036854775808 ≤ n ∧ n < 9223372036854775808) ∧ (0 ≤ e ∧ e < 4294967296) := by
 obtain ⟨v0, v1, y0, y1, m, rfl, rfl, rfl, h0, h1⟩ := open_agg2 Tryz.underlying24 (by kernel_rfl) cellsQ hv h
 obtain ⟨n, e0, -, f0⟩ := DataW.trod_int Tryz.underlying2 h0
 obtain ⟨e, e1, -, f1⟩ := DataW.trod_int Tryz.underlying22 h1
 simp only [List.cons.injEq, and_true] at e0 e1
 subst e0 e1
 have b0 := bounds_i64 f0
 have b1 := bounds_u32 f1
 exact ⟨n, e, rfl, by omega, by omega⟩
end Go.Proofs.YtoahpkelajimfaaGreatDoor
namespace Go.Proofs.YtoahpkelajimfaaGreatDoor
open Go.ChangeShapes Go.WideShapes Go.ChangeAt Go.RowKit Go.Joins
section
variable {H : Type} {enc : TypeId × Value → H} {P : Program} {w : World} {base : Nat} {spare : Nat → Bool} {held : Bool}
end
theorem addaddV (a : Addr) (i j : Nat) : (a.add i).add j = a.add (i + j) := by
 unfold Addr.add
 by_cases h : i = 0
 ·subst h; simp
 ·by_cases h2 : j = 0
  ·subst h2; simp [h]
  ·simp [h, h2, Nat.add_assoc]
set_option maxRecDepth 100000 in
theorem qv_of {H : Type} {enc : TypeId × Value → H} {W : World} {base : Nat} {v : Value} {d : DataW H} {p : List MemPlace} (hv : Value.okWide Tryz.prog W .any base 25 v)
  (h : DataW.Trod enc Tryz.prog W 0 (fun _ => true) true 25 v d p) : ∃ a n c l, v = .slice a n c ∧ QV W (.slice a n c) l := by
 obtain ⟨a0, len, cap, rfl⟩ := okWide_slice Tryz.underlying25 hv
 obtain ⟨fuel, hf⟩ := h
 rcases Go.Deep.open_slice_pairs Tryz.underlying25 Tryz.underlying24 cellsQ rfl rfl cellsI cellsU hf with ⟨hcs, hx⟩ | ⟨a, len', cap', m, n, V0, V1, D0, D1, P0, P1, hcs, _, hl, _, hm, hx, hcell⟩
 ·simp [Value.cells] at hcs
  obtain ⟨rfl, rfl, rfl⟩ := hcs
  exact ⟨none, 0, 0, [], rfl, none, 0, rfl, Nat.le_refl _, fun _ => rfl, fun h => absurd h (Nat.lt_irrefl _)⟩
 ·simp [Value.cells] at hcs
  obtain ⟨rfl, rfl, rfl⟩ := hcs
  simp only [if_true] at hm
  by_cases h0 : len = 0
  ·subst h0
   exact ⟨some a, 0, cap, [], rfl, some a, cap, rfl, Nat.zero_le _, (fun h => by cases h), fun h => absurd h (Nat.lt_irrefl _)⟩
  have each : ∀ i, i < len → ∃ z : Int × Int, W.cell? (a.add (i * 2)) = some (.int .i64 z.1) ∧ W.cell? ((a.add (i * 2)).add 1) = some (.int .u32 z.2) ∧ (-9223372036854775808 ≤ z.1 ∧ z.1 < 9223372036854775808) ∧ 0 ≤ z.2 ∧ z.2 < 4294967296 := by
   intro i hi
   obtain ⟨e0, e1, g0, g1⟩ := hcell i (by omega)
   obtain ⟨x, y0, -, f0⟩ := DataW.trod_int Tryz.underlying2 g0
   obtain ⟨y, y1, -, f1⟩ := DataW.trod_int Tryz.underlying22 g1
   simp only [List.cons.injEq, and_true] at y0 y1
   rw [y0] at e0
   rw [y1] at e1
   have b0 := bounds_i64 f0
   have b1 := bounds_u32 f1
   exact ⟨(x, y), e0, by rw [addaddV]; exact e1, by omega, by omega⟩
  obtain ⟨q, hq⟩ := Go.Deep.choose_lt each
  refine ⟨some a, len, cap, (List.range len).map q, rfl, some a, cap, by simp, by simpa using hl, (fun h => by cases h), fun _ => ⟨a, rfl, fun i hi => ?_, fun i hi => ?_, fun z hz => ?_, ?_⟩⟩
  ·have hi' : i < len := by simpa using hi
   have := (hq i hi').1
   simpa using this
  ·have hi' : i < len := by simpa using hi
   have := (hq i hi').2.1
   simpa using this
  ·obtain ⟨i, hi, rfl⟩ := List.mem_map.1 hz
   exact (hq i (List.mem_range.1 hi)).2.2
  ·have e := (hq 0 (by omega)).1
   have := World.block_lt_of_cell? W _ e
   rw [add_blk] at this
   exact this
end Go.Proofs.YtoahpkelajimfaaGreatDoor
namespace Go.Proofs.YtoahpkelajimfaaGreatDoor
open Go.RowKit
attribute [local irreducible] lo hs sm s64 c64 d64 b64 mh ml pd pc qd qc val hiB str cmpI srD lz nb zl zh zs fe rowV tabV gv bsV mxV colV
set_option maxHeartbeats 16000000 in
set_option maxRecDepth 100000 in
theorem lcut_w (al am : Option Addr) (nl cl nm cm n : Nat) (hmn : min ((nl : Nat) : Int) ((nm : Nat) : Int) = ((n : Nat) : Int)) (hs0 : ∀ W, (Instr.slice 25 (.slice al nl cl) none (some (.int .i64 (n : Int))) none).run Tryz.prog W = .ok (.slice al n cl) W) (hs1 : ∀ W, (Instr.slice 25 (.slice am nm cm) none (some (.int .i64 (n : Int))) none).run Tryz.prog W = .ok (.slice am n cm) W) (w : World) :
  Calls Tryz.prog 13 #[.slice al nl cl, .slice am nm cm] w fun e w' => e = .returned (.tuple #[.slice al n cl, .slice am n cm]) ∧ Below w.heap.size w w' := by
 have hL0 : GL w w [] := GL.start w
 have hT : PTs w [] := PTs.nil w
 go_enter Tryz.func13, Tryz.ntmps13
 go_upto_region 2 with fail
 refine region_tl 8 [EV (.slice al nl cl), EV (.int .i64 (n : Int)), EV (.slice al n cl), EV (.slice am nm cm), EV (.int .i64 (n : Int)), EV (.slice am n cm), EV (.slice al n cl), EV (.slice am n cm)] (by kernel_rfl) (by kernel_rfl) ?_ ?_ ?_
 ·exact stays_cons (stays_eq _) (stays_cons (stays_eq _) (stays_cons (stays_eq _) (stays_cons (stays_eq _) (stays_cons (stays_eq _) (stays_cons (stays_eq _) (stays_cons (stays_eq _) (stays_cons (stays_eq _) (stays_nil))))))))
 ·simp only [List.take_succ_cons, List.take_zero, hopsR, and_true]
  refine ⟨?_, ?_, ?_, ?_, ?_, ?_, ?_, ?_⟩ <;> intro fv w1 hb1 hp
  all_goals (simp only [putsV, Act.put, List.setIfInBounds_toArray, List.set_cons_succ, List.set_cons_zero, Nat.zero_add, Nat.reduceAdd])
  ·refine tyAt_none rfl ?_
   simp [tyUpon, execOp, go_sem, Act.eval, hs0, hs1, Below.refl]
  ·refine tyAt_none rfl ?_
   simp [tyUpon, execOp, go_sem, Act.eval, hs0, hs1, Below.refl]
  ·have h0 : EV _ (fv 0) w1 := hp 0 (LC (by kernel_rfl))
   have h1 : EV _ (fv 1) w1 := hp 1 (LC (by kernel_rfl))
   refine tyAt_none rfl ?_
   simp [tyUpon, execOp, go_sem, Act.eval, h0, h1, hs0, hs1, Below.refl]
  ·refine tyAt_none rfl ?_
   simp [tyUpon, execOp, go_sem, Act.eval, hs0, hs1, Below.refl]
  ·refine tyAt_none rfl ?_
   simp [tyUpon, execOp, go_sem, Act.eval, hs0, hs1, Below.refl]
  ·have h3 : EV _ (fv 3) w1 := hp 3 (LC (by kernel_rfl))
   have h4 : EV _ (fv 4) w1 := hp 4 (LC (by kernel_rfl))
   refine tyAt_none rfl ?_
   simp [tyUpon, execOp, go_sem, Act.eval, h3, h4, hs0, hs1, Below.refl]
  ·have h2 : EV _ (fv 2) w1 := hp 2 (LC (by kernel_rfl))
   refine tyAt_none rfl ?_
   simp [tyUpon, execOp, go_sem, Act.eval, h2, hs0, hs1, Below.refl]
  ·have h5 : EV _ (fv 5) w1 := hp 5 (LC (by kernel_rfl))
   refine tyAt_none rfl ?_
   simp [tyUpon, execOp, go_sem, Act.eval, h5, hs0, hs1, Below.refl]
 ·intro fv x1 hb1 hv
  have e0 : fv 0 = _ := hv 0 (by omega)
  have e1 : fv 1 = _ := hv 1 (by omega)
  have e2 : fv 2 = _ := hv 2 (by omega)
  have e3 : fv 3 = _ := hv 3 (by omega)
  have e4 : fv 4 = _ := hv 4 (by omega)
  have e5 : fv 5 = _ := hv 5 (by omega)
  have e6 : fv 6 = _ := hv 6 (by omega)
  have e7 : fv 7 = _ := hv 7 (by omega)
  simp only [List.take_succ_cons, List.take_zero, putsV, Act.put, List.setIfInBounds_toArray, List.set_cons_succ, List.set_cons_zero, List.drop_succ_cons, List.drop_zero, Nat.zero_add, Nat.reduceAdd, e0, e1, e2, e3, e4, e5, e6, e7]
  replace hL0 := hL0.call (below_drew hb1)
  replace hT := hT.call (below_drew hb1)
  clear e0 e1 e2 e3 e4 e5 e6 e7 hb1 hv fv
  go_wp2_with fail
  exact bodyPost_ret (v := .tuple #[.slice al n cl, .slice am n cm]) (by simp [results, Tryz.results13, go_sem]) rfl ⟨rfl, hL0.bl⟩
theorem cut_any {w : World} {al am : Option Addr} {nl cl nm cm n : Nat} {la lb : List (Int × Int)} (hn : n = min nl nm) (hv : QV w (.slice al nl cl) la) (hu : QV w (.slice am nm cm) lb) (w1 : World) :
  Calls Tryz.prog 13 #[.slice al nl cl, .slice am nm cm] w1 fun xe w' => xe = .returned (.tuple #[.slice al n cl, .slice am n cm]) ∧ Below w1.heap.size w1 w' :=
 lcut_w al am nl cl nm cm n (by omega) (qv_slice hv n (by omega)) (qv_slice hu n (by omega)) w1
end Go.Proofs.YtoahpkelajimfaaGreatDoor
namespace Go.Proofs.YtoahpkelajimfaaGreatDoor
open Go.RowKit
attribute [local irreducible] lo hs sm s64 c64 d64 b64 mh ml pd pc qd qc val hiB str cmpI srD lz nb zl zh zs fe rowV tabV gv bsV mxV colV
theorem slq_hd {w : World} {g n : Nat} {l : List Rat} {cs : List Value} (h : Hd w g cs) (he : cs = frCs l) (hn : n = l.length) : SlQ w (.slice (some ⟨g, 0, none⟩) n n) l := by
 subst he hn
 exact .inr ⟨g, _, rfl, hd_fs h⟩
theorem PTs.put {W W' : World} (h : PTs W []) {k : Nat} {c : List Value} (hu : Upd k W W') (hd : Hd W k c) (hc : ∀ v ∈ c, ∀ n, v ≠ .int .i64 n) : PTs W' [] := PTs.nil _
end Go.Proofs.YtoahpkelajimfaaGreatDoor
namespace Go.Proofs.YtoahpkelajimfaaGreatDoor
open Go.RowKit
attribute [local irreducible] lo hs sm s64 c64 d64 b64 mh ml pd pc qd qc val hiB str cmpI srD lz nb zl zh zs fe rowV tabV gv bsV mxV colV
theorem nv_open {B n : Nat} {l : List Rat} {v : Value} {w : World} (h : NV B l v w) (hl : l.length = n) : ∃ g, v = .slice (some ⟨g, 0, none⟩) n n ∧ B ≤ g ∧ Hd w g (frCs l) := by
 subst hl; exact h
theorem ils_cut {w : World} {g m : Nat} (h : Hd w g [.int .i64 0, .int .i64 0]) (hm : m ≤ 2) : ILs w (.slice (some ⟨g, 0, none⟩) m 2) (List.replicate m 0) := by
 refine ⟨some ⟨g, 0, none⟩, 2, g, by rw [List.length_replicate], fun _ => ⟨rfl, h.lt⟩, fun i hi => ?_⟩
 rw [List.length_replicate] at hi
 rw [List.getElem_replicate]
 have := h.cell i (by show i < 2; omega)
 rcases (by omega : i = 0 ∨ i = 1) with rfl | rfl <;> exact this
theorem slice_in (g m : Nat) (hm : m ≤ 2) (W : World) : (Instr.slice 42 (.slice (some ⟨g, 0, none⟩) 2 2) none (some (.int .i64 (m : Int))) none).run Tryz.prog W = .ok (.slice (some ⟨g, 0, none⟩) m 2) W := by
 have h1 : (0 : Int) ≤ (m : Int) := by omega
 have h2 : (m : Int) ≤ 2 := by omega
 simp [Instr.slice, Instr.sliceBounds, run_underlying Tryz.underlying42, run_sliceBound, h1, h2, go_sem] <;> rfl
set_option maxHeartbeats 16000000 in
set_option maxRecDepth 100000 in
theorem vkeeps_l1 (al am : Option Addr) (nl cl nm cm n mm : Nat) (n1 d1 : Int)  (KT : World → Prop) (hKT : Keeps KT) (HW : ∀ w, KT w → Calls Tryz.prog 12 #[] w fun xe w' => xe = .returned (.bool true) ∧ Below w.heap.size w w') (l_nl : decide ((12 : Int) < ((nl : Nat) : Int)) = true) (k_nl : decide (12 < nl) = true) (w : World) (kKT : KT w) :
  Calls Tryz.prog 10 #[.agg #[.int .i64 n1, .int .u32 d1], .slice al nl cl, .slice am nm cm] w fun e w' => e = .returned (.bool true) ∧ Below w.heap.size w w' := by
 replace hKT := Lib.hid hKT
 replace HW := Lib.hid HW
 have hL0 : GL w w [] := GL.start w
 have hT : PTs w [] := PTs.nil w
 replace hT := (hT.new (.cells #[.int .i64 n1, .int .u32 d1] 24))
 replace hL0 := (hL0.new rfl [.int .i64 n1, .int .u32 d1] 24)
 generalize hweq : (w.alloc (.cells #[.int .i64 n1, .int .u32 d1] 24)) = x1 at hL0 hT
 go_enter Tryz.func10, Tryz.ntmps10
 go_wp2_with fail
 with_reducible refine Calls.mono (HW.out _ (hKT.out.at hL0.bl kKT)) ?_
 rintro e x2 ⟨rfl, hb⟩
 replace hL0 := hL0.call hb
 replace hT := hT.call hb
 clear hb hweq
 go_wp2_with fail
 exact bodyPost_ret (v := .bool true) (by simp [results, Tryz.results10, go_sem]) rfl ⟨rfl, hL0.bl⟩
set_option maxHeartbeats 16000000 in
set_option maxRecDepth 100000 in
theorem vkeeps_l2 (al am : Option Addr) (nl cl nm cm n mm : Nat) (n1 d1 : Int)  (KT : World → Prop) (hKT : Keeps KT) (HW : ∀ w, KT w → Calls Tryz.prog 12 #[] w fun xe w' => xe = .returned (.bool true) ∧ Below w.heap.size w w') (l_nl : decide ((12 : Int) < ((nl : Nat) : Int)) = false) (k_nl : decide (12 < nl) = false) (l_nm : decide ((12 : Int) < ((nm : Nat) : Int)) = true) (k_nm : decide (12 < nm) = true) (w : World) (kKT : KT w) :
  Calls Tryz.prog 10 #[.agg #[.int .i64 n1, .int .u32 d1], .slice al nl cl, .slice am nm cm] w fun e w' => e = .returned (.bool true) ∧ Below w.heap.size w w' := by
 replace hKT := Lib.hid hKT
 replace HW := Lib.hid HW
 have hL0 : GL w w [] := GL.start w
 have hT : PTs w [] := PTs.nil w
 replace hT := (hT.new (.cells #[.int .i64 n1, .int .u32 d1] 24))
 replace hL0 := (hL0.new rfl [.int .i64 n1, .int .u32 d1] 24)
 generalize hweq : (w.alloc (.cells #[.int .i64 n1, .int .u32 d1] 24)) = x1 at hL0 hT
 go_enter Tryz.func10, Tryz.ntmps10
 go_wp2_with fail
 with_reducible refine Calls.mono (HW.out _ (hKT.out.at hL0.bl kKT)) ?_
 rintro e x2 ⟨rfl, hb⟩
 replace hL0 := hL0.call hb
 replace hT := hT.call hb
 clear hb hweq
 go_wp2_with fail
 exact bodyPost_ret (v := .bool true) (by simp [results, Tryz.results10, go_sem]) rfl ⟨rfl, hL0.bl⟩
set_option maxHeartbeats 16000000 in
set_option maxRecDepth 100000 in
theorem vkeeps_w (al am : Option Addr) (nl cl nm cm n mm : Nat) (n1 d1 : Int) (x y sl ml pl : List Rat) (c q7 q8 q9 q0 : Rat) (HCu : ∀ w, Calls Tryz.prog 13 #[.slice al nl cl, .slice am nm cm] w fun xe w' => xe = .returned (.tuple #[.slice al n cl, .slice am n cm]) ∧ Below w.heap.size w w') (KL : World → Prop) (hKL : Keeps KL) (HVa : ∀ (w : World), KL w → Calls Tryz.prog 14 #[.slice al n cl] w fun e w' => ∃ pv, e = .returned pv ∧ PT w' pv x ∧ Below w.heap.size w w') (KM : World → Prop) (hKM : Keeps KM) (HVb : ∀ (w : World), KM w → Calls Tryz.prog 14 #[.slice am n cm] w fun e w' => ∃ pv, e = .returned pv ∧ PT w' pv y ∧ Below w.heap.size w w') (HS1 : ∀ (p0 p1 : Value) (w : World), PT w p0 x → PT w p1 x → Calls Tryz.prog 32 #[p0, p1] w fun e w' => e = .returned (.bool true) ∧ Below w.heap.size w w') (HS2 : ∀ (p0 p1 : Value) (w : World), PT w p0 y → PT w p1 y → Calls Tryz.prog 32 #[p0, p1] w fun e w' => e = .returned (.bool true) ∧ Below w.heap.size w w') (KT : World → Prop) (hKT : Keeps KT) (HW : ∀ w, KT w → Calls Tryz.prog 12 #[] w fun xe w' => xe = .returned (.bool true) ∧ Below w.heap.size w w') (l_nl : decide ((12 : Int) < ((nl : Nat) : Int)) = false) (k_nl : decide (12 < nl) = false) (l_nm : decide ((12 : Int) < ((nm : Nat) : Int)) = false) (k_nm : decide (12 < nm) = false) (lx : x.length = n) (ly : y.length = n) (hn1 : n ≤ 20) (hm2 : mm ≤ 2) (hmin : min (2 : Int) (n : Int) = (mm : Int)) (hsl : sl.length = n) (hml : ml.length = n) (hpl : pl.length = mm) (HAd : ∀ p q w, PT w p x → PT w q y → Calls Tryz.prog 18 #[p, q] w fun e w' => ∃ pv, e = .returned (.tuple #[pv, .int .i64 0]) ∧ NV w.heap.size sl pv w' ∧ Below w.heap.size w w') (HSu : ∀ p w, VLs w p [x] → Calls Tryz.prog 37 #[p] w fun e w' => ∃ pv, e = .returned (.tuple #[pv, .int .i64 0]) ∧ NV w.heap.size x pv w' ∧ Below w.heap.size w w') (HMi : ∀ p q w, PT w p [c] → VLs w q [x] → Calls Tryz.prog 38 #[p, q] w fun e w' => ∃ pv, e = .returned (.tuple #[pv, .int .i64 0]) ∧ NV w.heap.size ml pv w' ∧ Below w.heap.size w w') (HPa : ∀ p q w, PT w p x → ILs w q (List.replicate mm 0) → Calls Tryz.prog 39 #[p, q] w fun e w' => ∃ pv, e = .returned (.tuple #[pv, .int .i64 0]) ∧ NV w.heap.size pl pv w' ∧ Below w.heap.size w w') (HQ : ∀ w, Calls Tryz.prog 15 #[.agg #[.int .i64 n1, .int .u32 d1]] w fun xe w' => xe = .returned (fracV c) ∧ Below w.heap.size w w') (HI7 : ∀ w, Calls Tryz.prog 34 #[.int .i64 77] w fun xe w' => xe = .returned (fracV q7) ∧ Below w.heap.size w w') (HI8 : ∀ w, Calls Tryz.prog 34 #[.int .i64 78] w fun xe w' => xe = .returned (fracV q8) ∧ Below w.heap.size w w') (HI9 : ∀ w, Calls Tryz.prog 34 #[.int .i64 79] w fun xe w' => xe = .returned (fracV q9) ∧ Below w.heap.size w w') (HI0 : ∀ w, Calls Tryz.prog 34 #[.int .i64 80] w fun xe w' => xe = .returned (fracV q0) ∧ Below w.heap.size w w') (w : World) (kKL : KL w) (kKM : KM w) (kKT : KT w) :
  Calls Tryz.prog 10 #[.agg #[.int .i64 n1, .int .u32 d1], .slice al nl cl, .slice am nm cm] w fun e w' => e = .returned (.bool true) ∧ Below w.heap.size w w' := by
 replace HCu := Lib.hid HCu
 replace hKL := Lib.hid hKL
 replace HVa := Lib.hid HVa
 replace hKM := Lib.hid hKM
 replace HVb := Lib.hid HVb
 replace HS1 := Lib.hid HS1
 replace HS2 := Lib.hid HS2
 replace hKT := Lib.hid hKT
 replace HW := Lib.hid HW
 have hL0 : GL w w [] := GL.start w
 have hT : PTs w [] := PTs.nil w
 replace lx := Lib.hid lx
 replace ly := Lib.hid ly
 replace hn1 := Lib.hid hn1
 replace hm2 := Lib.hid hm2
 replace hmin := Lib.hid hmin
 replace hsl := Lib.hid hsl
 replace hml := Lib.hid hml
 replace hpl := Lib.hid hpl
 replace HAd := Lib.hid HAd
 replace HSu := Lib.hid HSu
 replace HMi := Lib.hid HMi
 replace HPa := Lib.hid HPa
 replace HQ := Lib.hid HQ
 replace HI7 := Lib.hid HI7
 replace HI8 := Lib.hid HI8
 replace HI9 := Lib.hid HI9
 replace HI0 := Lib.hid HI0
 replace hT := (hT.new (.cells #[.int .i64 n1, .int .u32 d1] 24))
 replace hL0 := (hL0.new rfl [.int .i64 n1, .int .u32 d1] 24)
 generalize hweq : (w.alloc (.cells #[.int .i64 n1, .int .u32 d1] 24)) = x1 at hL0 hT
 go_enter Tryz.func10, Tryz.ntmps10
 go_wp2_with fail
 with_reducible refine Calls.mono (HCu.out _) ?_
 rintro e x2 ⟨rfl, hb⟩
 replace hL0 := hL0.call hb
 replace hT := hT.call hb
 clear hb hweq
 go_wp2_with fail
 with_reducible refine Calls.mono (HVa.out _ (hKL.out.at (hL0.bl) kKL)) ?_
 rintro e x3 ⟨v0, rfl, q0, hb⟩
 replace hL0 := hL0.call hb
 replace hT := hT.call hb
 clear hb
 obtain ⟨g1, g1c, rfl⟩ := ptn_form q0 lx.out
 replace hT := hT.cons q0
 clear q0
 go_wp2_with fail
 with_reducible refine Calls.mono (HVb.out _ (hKM.out.at (hL0.bl) kKM)) ?_
 rintro e x4 ⟨v0, rfl, q0, hb⟩
 replace hL0 := hL0.call hb
 replace hT := hT.call hb
 clear hb
 obtain ⟨g2, g2c, rfl⟩ := ptn_form q0 ly.out
 replace hT := hT.cons q0
 clear q0
 go_wp2_with fail
 go_loopg [9] 2 (fun gk kv wr => ∃ (k : Nat) (zk : Int), k + gk = 2 ∧ kv = .int .i64 zk ∧ zk = (k : Int) ∧ GL w wr [(w.heap.size, [.int .i64 n1, .int .u32 d1])] ∧ PTs wr [(.slice g2 n g2c, y), (.slice g1 n g1c, x)])
 case atStart => exact ⟨0, 0, Nat.zero_add 2, by first | rfl | go_num, rfl, hL0, hT⟩
 case round =>
  clear hL0 hT
  obtain ⟨k, zk, hkk, rfl, hzk, hLw, hT⟩ := hrel
  obtain ⟨wo, rfl⟩ : ∃ wo, wo = wr := ⟨_, rfl⟩
  rcases Nat.lt_or_ge k 2 with hk2 | hk2
  ·subst hzk
   have k1 : (k : Int) < 2 := by omega
   have k0 : (0 : Int) ≤ (k : Int) := Int.natCast_nonneg _
   have hL0 : GL wo wo [] := GL.start wo
   have hq0 := (hLw.get _ _ List.mem_cons_self).cell 0 (by simp)
   have hq1 := (hLw.get _ _ List.mem_cons_self).cell 1 (by simp)
   simp only [List.getElem_cons_zero, List.getElem_cons_succ] at hq0 hq1
   replace hLw := Lib.hid hLw
   replace hT := Lib.hid hT
   replace hq0 := Lib.hid hq0
   replace hq1 := Lib.hid hq1
   go_wp2_with fail
   with_reducible refine Calls.mono (HAd.out _ _ _ ((hT.out.get (List.mem_cons_of_mem _ List.mem_cons_self)).below hL0.bl) ((hT.out.get List.mem_cons_self).below hL0.bl)) ?_
   rintro e y1 ⟨pv, rfl, hnv, hb⟩
   obtain ⟨ga, rfl, hg9, hd9⟩ := nv_open hnv hsl.out
   have hx0 := hL0
   replace hL0 := hL0.call hb
   replace hL0 := GL.tnew (M := []) hL0 hx0 hd9 hg9 (fun p hp => by cases hp)
   simp only [List.nil_append] at hL0
   clear hx0 hb hd9 hg9 hnv
   have hN := (GL.start y1).new rfl [.slice g1 n g1c] 30
   generalize hweq : y1.alloc (.cells #[.slice g1 n g1c] 30) = y2 at hN
   replace hL0 := hL0.call hN.bl
   have hv : VLs y2 (.slice (some ⟨y1.heap.size, 0, none⟩) 1 1) [x] := vls_one (hN.get _ _ List.mem_cons_self) ((hT.out.get (List.mem_cons_of_mem _ List.mem_cons_self)).below hL0.bl)
   replace hv := Lib.hid hv
   clear hN
   go_wp2_with fail
   with_reducible refine Calls.mono (HSu.out _ _ hv.out) ?_
   rintro e y3 ⟨pv, rfl, hnv, hb⟩
   clear hv hweq
   obtain ⟨gb, rfl, hg9, hd9⟩ := nv_open hnv lx.out
   have hx0 := hL0
   replace hL0 := hL0.call hb
   replace hL0 := GL.tnew (M := []) hL0 hx0 hd9 hg9 (fun p hp => by cases hp)
   simp only [List.nil_append] at hL0
   clear hx0 hb hd9 hg9 hnv
   have hq2 := keepsC hL0.bl hq0.out
   have hq3 := keepsC hL0.bl hq1.out
   go_wp2_with fail
   with_reducible refine Calls.mono (HQ.out _) ?_
   rintro e y4 ⟨rfl, hb⟩
   replace hL0 := hL0.call hb
   clear hb hq2 hq3
   have hN := ((GL.start y4).new rfl [.int .u64 ((zl c.num : Nat) : Int), .string (zh c.num), .bool (zs c.num), .int .u64 ((lo (fe c) : Nat) : Int), .string (hs (fe c))] 38).new (K := y4.heap.size + 1) (szA _ _) [.slice g1 n g1c] 30
   generalize hweq : (y4.alloc (.cells #[.int .u64 ((zl c.num : Nat) : Int), .string (zh c.num), .bool (zs c.num), .int .u64 ((lo (fe c) : Nat) : Int), .string (hs (fe c))] 38)).alloc (.cells #[.slice g1 n g1c] 30) = y5 at hN
   replace hL0 := hL0.call hN.bl
   have hv : VLs y5 (.slice (some ⟨y4.heap.size + 1, 0, none⟩) 1 1) [x] := vls_one (hN.get _ _ List.mem_cons_self) ((hT.out.get (List.mem_cons_of_mem _ List.mem_cons_self)).below hL0.bl)
   have hc : SlQ y5 (.slice (some ⟨y4.heap.size, 0, none⟩) 1 1) [c] := slq_hd (hN.get _ _ (List.mem_cons_of_mem _ List.mem_cons_self)) rfl rfl
   replace hv := Lib.hid hv
   replace hc := Lib.hid hc
   clear hN
   go_wp2_with fail
   with_reducible refine Calls.mono (HMi.out _ _ _ hc.out hv.out) ?_
   rintro e y6 ⟨pv, rfl, hnv, hb⟩
   clear hv hc hweq
   obtain ⟨gm, rfl, hg9, hd9⟩ := nv_open hnv hml.out
   have hx0 := hL0
   replace hL0 := hL0.call hb
   replace hL0 := GL.tnew (M := []) hL0 hx0 hd9 hg9 (fun p hp => by cases hp)
   simp only [List.nil_append] at hL0
   clear hx0 hb hd9 hg9 hnv
   have hN := (GL.start y6).new rfl [.int .i64 0, .int .i64 0] 3
   generalize hweq : y6.alloc (.cells #[.int .i64 0, .int .i64 0] 3) = y7 at hN
   replace hL0 := hL0.call hN.bl
   have hi : ILs y7 (.slice (some ⟨y6.heap.size, 0, none⟩) mm 2) (List.replicate mm 0) := ils_cut (hN.get _ _ List.mem_cons_self) hm2.out
   replace hi := Lib.hid hi
   have hcut := fun W => slice_in y6.heap.size mm hm2.out W
   have hmi := hmin.out
   clear hN
   go_wp2_with fail
   with_reducible refine Calls.mono (HPa.out _ _ _ ((hT.out.get (List.mem_cons_of_mem _ List.mem_cons_self)).below hL0.bl) hi.out) ?_
   rintro e y8 ⟨pv, rfl, hnv, hb⟩
   clear hi hweq hcut hmi
   obtain ⟨gp, rfl, hg9, hd9⟩ := nv_open hnv hpl.out
   have hx0 := hL0
   replace hL0 := hL0.call hb
   replace hL0 := GL.tnew (M := []) hL0 hx0 hd9 hg9 (fun p hp => by cases hp)
   simp only [List.nil_append] at hL0
   clear hx0 hb hd9 hg9 hnv
   go_wp2_with fail
   with_reducible refine Calls.mono (HVa.out _ (hKL.out.at (hLw.out.bl.trans (hL0.bl.mono hLw.out.bl.size)) kKL)) ?_
   rintro e z1 ⟨pv, rfl, hp, hb⟩
   replace hL0 := hL0.call hb
   clear hb
   obtain ⟨ao, co, rfl⟩ := ptn_form hp lx.out
   replace hp := Lib.hid hp
   go_wp2_with fail
   with_reducible refine Calls.mono (HS1.out _ _ _ ((hT.out.get (List.mem_cons_of_mem _ List.mem_cons_self)).below hL0.bl) hp.out) ?_
   rintro e z2 ⟨rfl, hb⟩
   replace hL0 := hL0.call hb
   clear hb hp
   go_wp2_with fail
   with_reducible refine Calls.mono (HVb.out _ (hKM.out.at (hLw.out.bl.trans (hL0.bl.mono hLw.out.bl.size)) kKM)) ?_
   rintro e z3 ⟨pv, rfl, hp, hb⟩
   replace hL0 := hL0.call hb
   clear hb
   obtain ⟨ao, co, rfl⟩ := ptn_form hp ly.out
   replace hp := Lib.hid hp
   go_wp2_with fail
   with_reducible refine Calls.mono (HS2.out _ _ _ ((hT.out.get List.mem_cons_self).below hL0.bl) hp.out) ?_
   rintro e z4 ⟨rfl, hb⟩
   replace hL0 := hL0.call hb
   clear hb hp
   go_wp2_with fail
   with_reducible refine Calls.mono (HS1.out _ _ _ (slq_hd (hL0.get _ _ (List.mem_cons_of_mem _ (List.mem_cons_of_mem _ List.mem_cons_self))) rfl lx.out.symm) ((hT.out.get (List.mem_cons_of_mem _ List.mem_cons_self)).below hL0.bl)) ?_
   rintro e z5 ⟨rfl, hb⟩
   replace hL0 := hL0.call hb
   clear hb
   go_wp2_with fail
   go_loopg [18] n (fun gk iv wr2 => ∃ (i : Nat) (zi : Int) (la lb lc : List Rat), i + gk = n ∧ iv = .int .i64 zi ∧ zi = (i : Int) ∧ la.length = n ∧ lb.length = n ∧ lc.length = n ∧ GL wo wr2 [(gp, frCs pl), (gm, frCs lc), (gb, frCs lb), (ga, frCs la)])
   case atStart => exact ⟨0, 0, sl, x, ml, Nat.zero_add n, by first | rfl | go_num, rfl, hsl.out, lx.out, hml.out, hL0⟩
   case round =>
    clear hL0
    obtain ⟨i, zi, la, lb, lc, hik, rfl, hzi, hla, hlb, hlc, hL0⟩ := hrel
    replace hla := Lib.hid hla
    replace hlb := Lib.hid hlb
    replace hlc := Lib.hid hlc
    rcases Nat.lt_or_ge i n with hin | hin
    ·subst hzi
     have m1 : (i : Int) < (n : Int) := by omega
     have m0 : (0 : Int) ≤ (i : Int) := Int.natCast_nonneg _
     have mb : (i : Int) ≤ 1000 := by have := hn1.out; omega
     go_wp2_with fail
     with_reducible refine Calls.mono (HI7.out _) ?_
     rintro e v1 ⟨rfl, hb⟩
     replace hL0 := hL0.call hb
     clear hb
     have zh := hL0.get _ _ (List.mem_cons_of_mem _ (List.mem_cons_of_mem _ (List.mem_cons_of_mem _ List.mem_cons_self)))
     obtain ⟨z0, z1, z2, z3, z4⟩ := (hd_fs zh).cell i (by have := hla.out; omega)
     have zz := zh.frz
     clear zh
     have hPt := hL0.putF 3 ga la rfl i q7 (by have := hla.out; omega)
     simp only [List.set_cons_zero, List.set_cons_succ] at hPt
     generalize hputr : (((((v1.setCell ⟨ga, i * 5, none⟩ (.int .u64 ((zl q7.num : Nat) : Int))).setCell ⟨ga, i * 5 + 1, none⟩ (.string (zh q7.num))).setCell ⟨ga, i * 5 + 2, none⟩ (.bool (zs q7.num))).setCell ⟨ga, i * 5 + 3, none⟩ (.int .u64 ((lo (fe q7) : Nat) : Int))).setCell ⟨ga, i * 5 + 4, none⟩ (.string (hs (fe q7)))) = v2 at hPt
     clear hL0
     have hL0 := hPt
     clear hPt
     go_wp2_with fail
     with_reducible refine Calls.mono (HI8.out _) ?_
     rintro e v3 ⟨rfl, hb⟩
     replace hL0 := hL0.call hb
     clear hb z0 z1 z2 z3 z4 zz hputr
     have zh := hL0.get _ _ (List.mem_cons_of_mem _ (List.mem_cons_of_mem _ List.mem_cons_self))
     obtain ⟨z0, z1, z2, z3, z4⟩ := (hd_fs zh).cell i (by have := hlb.out; omega)
     have zz := zh.frz
     clear zh
     have hPt := hL0.putF 2 gb lb rfl i q8 (by have := hlb.out; omega)
     simp only [List.set_cons_zero, List.set_cons_succ] at hPt
     generalize hputr : (((((v3.setCell ⟨gb, i * 5, none⟩ (.int .u64 ((zl q8.num : Nat) : Int))).setCell ⟨gb, i * 5 + 1, none⟩ (.string (zh q8.num))).setCell ⟨gb, i * 5 + 2, none⟩ (.bool (zs q8.num))).setCell ⟨gb, i * 5 + 3, none⟩ (.int .u64 ((lo (fe q8) : Nat) : Int))).setCell ⟨gb, i * 5 + 4, none⟩ (.string (hs (fe q8)))) = v4 at hPt
     clear hL0
     have hL0 := hPt
     clear hPt
     go_wp2_with fail
     with_reducible refine Calls.mono (HI9.out _) ?_
     rintro e v5 ⟨rfl, hb⟩
     replace hL0 := hL0.call hb
     clear hb z0 z1 z2 z3 z4 zz hputr
     have zh := hL0.get _ _ (List.mem_cons_of_mem _ List.mem_cons_self)
     obtain ⟨z0, z1, z2, z3, z4⟩ := (hd_fs zh).cell i (by have := hlc.out; omega)
     have zz := zh.frz
     clear zh
     have hPt := hL0.putF 1 gm lc rfl i q9 (by have := hlc.out; omega)
     simp only [List.set_cons_zero, List.set_cons_succ] at hPt
     generalize hputr : (((((v5.setCell ⟨gm, i * 5, none⟩ (.int .u64 ((zl q9.num : Nat) : Int))).setCell ⟨gm, i * 5 + 1, none⟩ (.string (zh q9.num))).setCell ⟨gm, i * 5 + 2, none⟩ (.bool (zs q9.num))).setCell ⟨gm, i * 5 + 3, none⟩ (.int .u64 ((lo (fe q9) : Nat) : Int))).setCell ⟨gm, i * 5 + 4, none⟩ (.string (hs (fe q9)))) = v6 at hPt
     clear hL0
     have hL0 := hPt
     clear hPt
     go_wp2_with fail
     go_roundg (n - (i + 1))
     case measure => omega
     case rel => exact ⟨i + 1, _, la.set i q7, lb.set i q8, lc.set i q9, by omega, by first | rfl | go_num, by omega, by rw [List.length_set]; exact hla.out, by rw [List.length_set]; exact hlb.out, by rw [List.length_set]; exact hlc.out, hL0⟩
    ·obtain rfl : n = i := by omega
     subst hzi
     have m1 : ¬ (n : Int) < (n : Int) := by omega
     go_wp2_with fail
     go_loopg [19] mm (fun gk iv wr3 => ∃ (i : Nat) (zi : Int) (ld : List Rat), i + gk = mm ∧ iv = .int .i64 zi ∧ zi = (i : Int) ∧ ld.length = mm ∧ GL wo wr3 [(gp, frCs ld), (gm, frCs lc), (gb, frCs lb), (ga, frCs la)])
     case atStart => exact ⟨0, 0, pl, Nat.zero_add mm, by first | rfl | go_num, rfl, hpl.out, hL0⟩
     case round =>
      clear hL0 m1
      obtain ⟨i, zi, ld, hik, rfl, hzi, hld, hL0⟩ := hrel
      replace hld := Lib.hid hld
      rcases Nat.lt_or_ge i mm with hin | hin
      ·subst hzi
       have m1 : (i : Int) < (mm : Int) := by omega
       have m0 : (0 : Int) ≤ (i : Int) := Int.natCast_nonneg _
       have mb : (i : Int) ≤ 1000 := by have := hm2.out; omega
       go_wp2_with fail
       with_reducible refine Calls.mono (HI0.out _) ?_
       rintro e v1 ⟨rfl, hb⟩
       replace hL0 := hL0.call hb
       clear hb
       have zh := hL0.get _ _ List.mem_cons_self
       obtain ⟨z0, z1, z2, z3, z4⟩ := (hd_fs zh).cell i (by have := hld.out; omega)
       have zz := zh.frz
       clear zh
       have hPt := hL0.putF 0 gp ld rfl i q0 (by have := hld.out; omega)
       simp only [List.set_cons_zero, List.set_cons_succ] at hPt
       generalize hputr : (((((v1.setCell ⟨gp, i * 5, none⟩ (.int .u64 ((zl q0.num : Nat) : Int))).setCell ⟨gp, i * 5 + 1, none⟩ (.string (zh q0.num))).setCell ⟨gp, i * 5 + 2, none⟩ (.bool (zs q0.num))).setCell ⟨gp, i * 5 + 3, none⟩ (.int .u64 ((lo (fe q0) : Nat) : Int))).setCell ⟨gp, i * 5 + 4, none⟩ (.string (hs (fe q0)))) = v2 at hPt
       clear hL0
       have hL0 := hPt
       clear hPt
       go_wp2_with fail
       go_roundg (mm - (i + 1))
       case measure => omega
       case rel => exact ⟨i + 1, _, ld.set i q0, by omega, by first | rfl | go_num, by omega, by rw [List.length_set]; exact hld.out, hL0⟩
      ·obtain rfl : mm = i := by omega
       subst hzi
       have m1 : ¬ (mm : Int) < (mm : Int) := by omega
       have hL9 := hLw.out.call hL0.bl
       have hS9 := hT.out.call hL0.bl
       clear hL0 hT hLw hq0 hq1
       go_wp2_with fail
       go_roundg (2 - (k + 1))
       case measure => omega
       case rel => exact ⟨k + 1, _, by omega, by first | rfl | go_num, by omega, hL9, hS9⟩
  ·obtain rfl : zk = 2 := by omega
   have hL0 := hLw
   clear hLw
   go_wp2_with fail
   with_reducible refine Calls.mono (HVa.out _ (hKL.out.at (hL0.bl) kKL)) ?_
   rintro e x5 ⟨v0, rfl, q0, hb⟩
   replace hL0 := hL0.call hb
   replace hT := hT.call hb
   clear hb
   obtain ⟨g3, g3c, rfl⟩ := ptn_form q0 lx.out
   replace hT := hT.cons q0
   clear q0
   go_wp2_with fail
   with_reducible refine Calls.mono (HS1.out (.slice g1 n g1c) (.slice g3 n g3c) _ (hT.get (List.mem_cons_of_mem _ (List.mem_cons_of_mem _ List.mem_cons_self))) (hT.get List.mem_cons_self)) ?_
   rintro e x6 ⟨rfl, hb⟩
   replace hL0 := hL0.call hb
   replace hT := hT.call hb
   clear hb
   go_wp2_with fail
   with_reducible refine Calls.mono (HVb.out _ (hKM.out.at (hL0.bl) kKM)) ?_
   rintro e x7 ⟨v0, rfl, q0, hb⟩
   replace hL0 := hL0.call hb
   replace hT := hT.call hb
   clear hb
   obtain ⟨g4, g4c, rfl⟩ := ptn_form q0 ly.out
   replace hT := hT.cons q0
   clear q0
   go_wp2_with fail
   with_reducible refine Calls.mono (HS2.out (.slice g2 n g2c) (.slice g4 n g4c) _ (hT.get (List.mem_cons_of_mem _ (List.mem_cons_of_mem _ List.mem_cons_self))) (hT.get List.mem_cons_self)) ?_
   rintro e x8 ⟨rfl, hb⟩
   replace hL0 := hL0.call hb
   replace hT := hT.call hb
   clear hb
   go_wp2_with fail
   with_reducible refine Calls.mono (HW.out _ (hKT.out.at hL0.bl kKT)) ?_
   rintro e x9 ⟨rfl, hb⟩
   replace hL0 := hL0.call hb
   replace hT := hT.call hb
   clear hb
   go_wp2_with fail
   exact bodyPost_ret (v := .bool true) (by simp [results, Tryz.results10, go_sem]) rfl ⟨rfl, hL0.bl⟩
end Go.Proofs.YtoahpkelajimfaaGreatDoor
namespace Go.Proofs.YtoahpkelajimfaaGreatDoor
open Go.RowKit
attribute [local irreducible] lo hs sm s64 c64 d64 b64 mh ml pd pc qd qc val hiB str cmpI srD lz nb zl zh zs fe qmade
theorem one_all {x : List Rat} {P : List Rat → Prop} (hx : P x) : ∀ l ∈ [x], P l := by
 intro l hl
 rw [List.mem_singleton.1 hl]; exact hx
theorem sum_one {n : Nat} {x : List Rat} (hx : x.length = n) : tabV n (fun i => bsV [x].length (colV [x] i)) = x := by
 refine (gv_ext hx fun i hi => ?_).symm
 show gv x i = 0 + gv x i
 grind
set_option maxHeartbeats 4000000 in
theorem vkeeps_any (l0 : Int × Int) (la lb : List (Int × Int)) (h0 : QR l0) (al am : Option Addr) (nl cl nm cm : Nat) (w : World) (hv0 : QV w (.slice al nl cl) la) (hu : QV w (.slice am nm cm) lb) (ht : Tab w) :
  Calls Tryz.prog 10 #[.agg #[.int .i64 l0.1, .int .u32 l0.2], .slice al nl cl, .slice am nm cm] w fun e w' => e = .returned (.bool true) ∧ Below w.heap.size w w' := by
 by_cases g1 : 12 < nl
 ·exact vkeeps_l1 al am nl cl nm cm 0 0 _ _ Tab Keeps.tab vworks_any (decide_eq_true (by omega)) (decide_eq_true g1) w ht
 by_cases g2 : 12 < nm
 ·exact vkeeps_l2 al am nl cl nm cm 0 0 _ _ Tab Keeps.tab vworks_any (decide_eq_false (by omega)) (decide_eq_false g1) (decide_eq_true (by omega)) (decide_eq_true g2) w ht
 obtain ⟨n, hn⟩ : ∃ n, n = min nl nm := ⟨_, rfl⟩
 obtain ⟨mm, hmm⟩ : ∃ mm, mm = min 2 n := ⟨_, rfl⟩
 have gx := gv_of (take_len (qv_len hv0) (by omega : n ≤ nl)) (take_rg (qv_rg hv0) n)
 have gy := gv_of (take_len (qv_len hu) (by omega : n ≤ nm)) (take_rg (qv_rg hu) n)
 have hA := fun w hv => vVG (la.take n) (by rw [take_len (qv_len hv0) (by omega)]; omega) (.slice al n cl) w hv
 have hB := fun w hv => vVG (lb.take n) (by rw [take_len (qv_len hu) (by omega)]; omega) (.slice am n cm) w hv
 generalize (la.take n).map qm = x at gx hA
 generalize (lb.take n).map qm = y at gy hB
 have sc := qm_sz h0
 have HQ := fun w => qmof h0 w
 generalize qm l0 = c at sc HQ
 have sS : ∀ p w, PT w p x → True := fun _ _ _ => trivial
 refine vkeeps_w al am nl cl nm cm n mm l0.1 l0.2 x y (sumL n x y) (tabV n (mixV [c] [x])) (tabV mm (partV x (List.replicate mm 0))) c ((77 : Int) : Rat) ((78 : Int) : Rat) ((79 : Int) : Rat) ((80 : Int) : Rat)
  (fun w => cut_any hn hv0 hu w) (fun w => QV w (.slice al n cl) (la.take n)) (QV.keeps _ _) hA (fun w => QV w (.slice am n cm) (lb.take n)) (QV.keeps _ _) hB
  (fun p q w h g => sameT gx (by omega) p q w h g) (fun p q w h g => sameT gy (by omega) p q w h g) Tab Keeps.tab vworks_any (decide_eq_false (by omega)) (decide_eq_false g1) (decide_eq_false (by omega)) (decide_eq_false g2)
  gx.len gy.len (by omega) (by omega) (by omega) (tabV_len _ _) (tabV_len _ _) (tabV_len _ _)
  (fun p q w h g => vaddV x y n 1 gx.len gy.len (by omega) (by omega) gx.sz gy.sz p q w h g) (fun p w h => ?_) (fun p q w h g => vmixV [c] [x] n 1 (by simp) rfl (by simp) (one_all gx.len) (by omega) (by omega) (one_all gx.sz) (fun q hq => by rw [List.mem_singleton.1 hq]; exact sc) p q w h g) (fun p q w h g => ?_) HQ
  (fun w => intF 77 (by decide) (by decide) w) (fun w => intF 78 (by decide) (by decide) w) (fun w => intF 79 (by decide) (by decide) w) (fun w => intF 80 (by decide) (by decide) w) w (hv0.take n (by omega)) (hu.take n (by omega)) ht
 ·have := vsumV [x] n 1 (by simp) (by simp) (one_all gx.len) (by omega) (by omega) (one_all gx.sz) p w h
  rwa [sum_one gx.len] at this
 ·exact vpartV x (List.replicate mm 0) n mm gx.len (by omega) (by rw [List.length_replicate]) (by omega) (fun z hz => by
   obtain ⟨h1, rfl⟩ := List.mem_replicate.1 hz
   omega) p q w h (by rw [List.map_replicate]; exact g)
end Go.Proofs.YtoahpkelajimfaaGreatDoor
