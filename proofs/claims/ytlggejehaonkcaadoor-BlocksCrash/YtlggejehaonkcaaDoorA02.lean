import Derived.Test.YtlggejehaonkcaaDoorA01
import Derived.Shelf.Strings.Builder1
import Derived.Shelf.Strings.Builder2
import Derived.Shelf.Strings.BuilderF
import Derived.Shelf.Strconv.Itoa0
import Derived.Shelf.Strconv.Itoa1
import Derived.Shelf.LaysM
import Derived.Shelf.Strconv.Itoa2
import Derived.Shelf.Strconv.Itoa3
import Derived.Shelf.Strings.Prefix
import Derived.Shelf.Bits.Mul64
import Derived.Shelf.Strings.Repeat
import Derived.Shelf.Slices.Turned
import Derived.Ground.SlbCloneProg
import Derived.Shelf.Bytes.SlClone
import Derived.Test.YtlggejehaonkcaaDoorProg
import Derived.Lib.Small
import Derived.WalkSmall
import Derived.Deep.RegionHeld3
/-
 DERIVED: THE SHELF's CONTRACTS AT THIS DUMP, IN PLAIN WORDS (tools/lay-plain.mjs out of 'TrydShelf.lean', which tools/lay-shelf.mjs wrote): THE SAME DECLARATIONS UNDER THE SAME NAMES: 'import', 'namespace', 'open', 'def', 'theorem' AND NOTHING ELSE: no command of the shelf's: FOR A HAND-IN. Each laying: the table of numbers ('.._ren') and one theorem, a field a fact of the dump's own or the kernel's comparison; each contract: ONE APPLICATION.
-/
namespace Go.Proofs
open Go.Shelf
def Tryd.laysM171_ren : Go.Shelf.Ren := ⟨fun | 171 => 45 | 243 => 56 | 246 => 66 | 283 => 73 | 284 => 74 | 285 => 75 | 286 => 76 | 129 => 80 | 317 => 79 | 318 => 81 | 319 => 82 | 320 => 83 | 337 => 84 | 338 => 85 | n => n, fun | 3 => 3 | 9 => 9 | 2 => 2 | 4 => 4 | 171 => 142 | 0 => 0 | 53 => 135 | 37 => 41 | 5 => 5 | 173 => 145 | 212 => 151 | 51 => 110 | 20 => 20 | 213 => 152 | 46 => 119 | 232 => 37 | 233 => 113 | n => n, fun | 17 => 0 | 18 => 2 | 19 => 3 | n => n⟩
theorem Tryd.laysM171 : Go.Proofs.LaysM.n171 Tryd.prog Tryd.laysM171_ren := {
 mixed := by kernel_rfl
 f129 := Tryd.func80.trans (congrArg some (by kernel_rfl))
 f171 := Tryd.func45.trans (congrArg some (by kernel_rfl))
 f243 := Tryd.func56.trans (congrArg some (by kernel_rfl))
 f246 := Tryd.func66.trans (congrArg some (by kernel_rfl))
 f283 := Tryd.func73.trans (congrArg some (by kernel_rfl))
 f284 := Tryd.func74.trans (congrArg some (by kernel_rfl))
 f285 := Tryd.func75.trans (congrArg some (by kernel_rfl))
 f286 := Tryd.func76.trans (congrArg some (by kernel_rfl))
 f317 := Tryd.func79.trans (congrArg some (by kernel_rfl))
 f318 := Tryd.func81.trans (congrArg some (by kernel_rfl))
 f319 := Tryd.func82.trans (congrArg some (by kernel_rfl))
 f320 := Tryd.func83.trans (congrArg some (by kernel_rfl))
 f337 := Tryd.func84.trans (congrArg some (by kernel_rfl))
 f338 := Tryd.func85.trans (congrArg some (by kernel_rfl))
 t0 := Tryd.underlying0
 a0 := Tryd.isAgg0
 z0 := Tryd.sizeOf0
 v0 := Tryd.zeroValue0
 t2 := Tryd.underlying2
 a2 := Tryd.isAgg2
 z2 := Tryd.sizeOf2
 v2 := Tryd.zeroValue2
 t3 := Tryd.underlying3
 a3 := Tryd.isAgg3
 z3 := Tryd.sizeOf3
 v3 := Tryd.zeroValue3
 t4 := Tryd.underlying4
 a4 := Tryd.isAgg4
 z4 := Tryd.sizeOf4
 v4 := Tryd.zeroValue4
 t5 := Tryd.underlying5
 a5 := Tryd.isAgg5
 z5 := Tryd.sizeOf5
 v5 := Tryd.zeroValue5
 t9 := Tryd.underlying9
 a9 := Tryd.isAgg9
 z9 := Tryd.sizeOf9
 v9 := Tryd.zeroValue9
 t20 := Tryd.underlying20
 a20 := Tryd.isAgg20
 z20 := Tryd.sizeOf20
 v20 := Tryd.zeroValue20
 t37 := Tryd.underlying41
 a37 := Tryd.isAgg41
 z37 := Tryd.sizeOf41
 v37 := Tryd.zeroValue41
 t46 := Tryd.underlying119
 a46 := Tryd.isAgg119
 z46 := Tryd.sizeOf119
 v46 := Tryd.zeroValue119
 t51 := Tryd.underlying110
 a51 := Tryd.isAgg110
 z51 := Tryd.sizeOf110
 v51 := Tryd.zeroValue110
 t53 := Tryd.underlying135
 a53 := Tryd.isAgg135
 z53 := Tryd.sizeOf135
 v53 := Tryd.zeroValue135
 t171 := Tryd.underlying142
 a171 := Tryd.isAgg142
 z171 := Tryd.sizeOf142
 v171 := Tryd.zeroValue142
 t173 := Tryd.underlying145
 a173 := Tryd.isAgg145
 z173 := Tryd.sizeOf145
 v173 := Tryd.zeroValue145
 t212 := Tryd.underlying151
 a212 := Tryd.isAgg151
 z212 := Tryd.sizeOf151
 v212 := Tryd.zeroValue151
 t213 := Tryd.underlying152
 a213 := Tryd.isAgg152
 z213 := Tryd.sizeOf152
 t232 := Tryd.underlying37
 a232 := Tryd.isAgg37
 z232 := Tryd.sizeOf37
 v232 := Tryd.zeroValue37
 t233 := Tryd.underlying113
 a233 := Tryd.isAgg113
 z233 := Tryd.sizeOf113
 v233 := Tryd.zeroValue113
 g17 := by kernel_rfl
 g18 := by kernel_rfl
 g19 := by kernel_rfl
 i0 := by kernel_rfl
 i2 := by kernel_rfl
 i3 := by kernel_rfl
 i4 := by kernel_rfl
 i5 := by kernel_rfl
 i9 := by kernel_rfl
 i20 := by kernel_rfl
 i37 := by kernel_rfl
 i46 := by kernel_rfl
 i51 := by kernel_rfl
 i53 := by kernel_rfl
 i171 := by kernel_rfl
 i173 := by kernel_rfl
 i212 := by kernel_rfl
 i232 := by kernel_rfl
 i233 := by kernel_rfl
 m17 := by kernel_rfl
 m18 := by kernel_rfl
 m19 := by kernel_rfl }
open Go.RowKit Go.Sort Go.Lib in
theorem Tryd.strconv_Itoa (n : Int) (h0 : -9223372036854775808 ≤ n) (h1 : n ≤ 9223372036854775807) (w : World) (htab : Lib.TabIs Tryd.prog w "internal/strconv.uint64pow10" .u64 Lib.pow10Tab) :
  Calls Tryd.prog 45 #[.int .i64 n] w fun e w' => e = .returned (.string ⟨(Lib.itoa n).toArray⟩) ∧ ∃ k os, w' = grow (w.drewN k) os := Any.strconv_Itoa Tryd.laysM171 n h0 h1 w htab
def Tryd.lays105_ren : Go.Shelf.Ren := ⟨fun | 105 => 46 | 212 => 57 | 99 => 58 | 165 => 59 | 166 => 60 | 170 => 61 | 169 => 62 | 263 => 67 | 264 => 68 | 206 => 69 | 240 => 70 | 241 => 71 | 276 => 77 | 277 => 78 | n => n, fun | 9 => 9 | 3 => 3 | 4 => 4 | 20 => 20 | 0 => 0 | 46 => 119 | 109 => 120 | 5 => 5 | 72 => 125 | 76 => 128 | 51 => 110 | 146 => 137 | 53 => 135 | 148 => 139 | 70 => 123 | 37 => 41 | 75 => 127 | 127 => 141 | 164 => 147 | 80 => 130 | n => n, fun | n => n⟩
theorem Tryd.lays105 : Go.Proofs.Lays.n105 Tryd.prog Tryd.lays105_ren := {
 mixed := by kernel_rfl
 f99 := Tryd.func58.trans (congrArg some (by kernel_rfl))
 f105 := Tryd.func46.trans (congrArg some (by kernel_rfl))
 f165 := Tryd.func59.trans (congrArg some (by kernel_rfl))
 f166 := Tryd.func60.trans (congrArg some (by kernel_rfl))
 f169 := Tryd.func62.trans (congrArg some (by kernel_rfl))
 f170 := Tryd.func61.trans (congrArg some (by kernel_rfl))
 f206 := Tryd.func69.trans (congrArg some (by kernel_rfl))
 f212 := Tryd.func57.trans (congrArg some (by kernel_rfl))
 f240 := Tryd.func70.trans (congrArg some (by kernel_rfl))
 f241 := Tryd.func71.trans (congrArg some (by kernel_rfl))
 f263 := Tryd.func67.trans (congrArg some (by kernel_rfl))
 f264 := Tryd.func68.trans (congrArg some (by kernel_rfl))
 f276 := Tryd.func77.trans (congrArg some (by kernel_rfl))
 f277 := Tryd.func78.trans (congrArg some (by kernel_rfl))
 t0 := Tryd.underlying0
 a0 := Tryd.isAgg0
 z0 := Tryd.sizeOf0
 v0 := Tryd.zeroValue0
 t3 := Tryd.underlying3
 a3 := Tryd.isAgg3
 z3 := Tryd.sizeOf3
 v3 := Tryd.zeroValue3
 t4 := Tryd.underlying4
 a4 := Tryd.isAgg4
 z4 := Tryd.sizeOf4
 v4 := Tryd.zeroValue4
 t5 := Tryd.underlying5
 a5 := Tryd.isAgg5
 z5 := Tryd.sizeOf5
 v5 := Tryd.zeroValue5
 t9 := Tryd.underlying9
 a9 := Tryd.isAgg9
 z9 := Tryd.sizeOf9
 v9 := Tryd.zeroValue9
 t20 := Tryd.underlying20
 a20 := Tryd.isAgg20
 z20 := Tryd.sizeOf20
 v20 := Tryd.zeroValue20
 t37 := Tryd.underlying41
 a37 := Tryd.isAgg41
 z37 := Tryd.sizeOf41
 v37 := Tryd.zeroValue41
 t46 := Tryd.underlying119
 a46 := Tryd.isAgg119
 z46 := Tryd.sizeOf119
 v46 := Tryd.zeroValue119
 t51 := Tryd.underlying110
 a51 := Tryd.isAgg110
 z51 := Tryd.sizeOf110
 v51 := Tryd.zeroValue110
 t53 := Tryd.underlying135
 a53 := Tryd.isAgg135
 z53 := Tryd.sizeOf135
 v53 := Tryd.zeroValue135
 t70 := Tryd.underlying123
 a70 := Tryd.isAgg123
 z70 := Tryd.sizeOf123
 v70 := Tryd.zeroValue123
 t72 := Tryd.underlying125
 a72 := Tryd.isAgg125
 z72 := Tryd.sizeOf125
 v72 := Tryd.zeroValue125
 t75 := Tryd.underlying127
 a75 := Tryd.isAgg127
 z75 := Tryd.sizeOf127
 v75 := Tryd.zeroValue127
 t76 := Tryd.underlying128
 a76 := Tryd.isAgg128
 z76 := Tryd.sizeOf128
 v76 := Tryd.zeroValue128
 t109 := Tryd.underlying120
 a109 := Tryd.isAgg120
 z109 := Tryd.sizeOf120
 v109 := Tryd.zeroValue120
 t127 := Tryd.underlying141
 a127 := Tryd.isAgg141
 z127 := Tryd.sizeOf141
 v127 := Tryd.zeroValue141
 t146 := Tryd.underlying137
 a146 := Tryd.isAgg137
 z146 := Tryd.sizeOf137
 v146 := Tryd.zeroValue137
 t148 := Tryd.underlying139
 a148 := Tryd.isAgg139
 z148 := Tryd.sizeOf139
 v148 := Tryd.zeroValue139
 t164 := Tryd.underlying147
 a164 := Tryd.isAgg147
 z164 := Tryd.sizeOf147
 v164 := Tryd.zeroValue147 }
theorem Tryd.Builder_Extra_105 : Builder.Extra Tryd.prog Tryd.lays105_ren := {
 sizeBuilder := by kernel_rfl
 liesBuilder := by kernel_rfl
 t5 := Tryd.underlying5
 a5 := Tryd.isAgg5
 z5 := Tryd.sizeOf5
 v5 := Tryd.zeroValue5
 infoByte := by kernel_rfl
 cellsByte := by kernel_rfl
 sizeByte := by kernel_rfl
 neB5 := by decide }
open Go.RowKit Go.Lib in
theorem Tryd.strings_Repeat (s : ByteArray) (c : Nat) (w : World) (hc : c ≤ 9223372036854775807) (hlen : s.size * c ≤ 140737488355328) :
  Calls Tryd.prog 46 #[.string s, .int .i64 c] w fun e w' => e = .returned (.string ⟨(Lib.repeatL s.data.toList c).toArray⟩) ∧ Below w.heap.size w w' := Any.strings_Repeat Tryd.lays105 Tryd.Builder_Extra_105 s c w hc hlen
def Tryd.lays110_ren : Go.Shelf.Ren := ⟨fun | 110 => 37 | 109 => 49 | n => n, fun | 31 => 35 | 9 => 9 | 4 => 4 | 3 => 3 | 0 => 0 | n => n, fun | n => n⟩
theorem Tryd.lays110 : Go.Proofs.Lays.n110 Tryd.prog Tryd.lays110_ren := {
 mixed := by kernel_rfl
 f109 := Tryd.func49.trans (congrArg some (by kernel_rfl))
 f110 := Tryd.func37.trans (congrArg some (by kernel_rfl))
 t0 := Tryd.underlying0
 a0 := Tryd.isAgg0
 z0 := Tryd.sizeOf0
 v0 := Tryd.zeroValue0
 t3 := Tryd.underlying3
 a3 := Tryd.isAgg3
 z3 := Tryd.sizeOf3
 v3 := Tryd.zeroValue3
 t4 := Tryd.underlying4
 a4 := Tryd.isAgg4
 z4 := Tryd.sizeOf4
 v4 := Tryd.zeroValue4
 t9 := Tryd.underlying9
 a9 := Tryd.isAgg9
 z9 := Tryd.sizeOf9
 v9 := Tryd.zeroValue9
 t31 := Tryd.underlying35
 a31 := Tryd.isAgg35
 z31 := Tryd.sizeOf35
 v31 := Tryd.zeroValue35 }
open Go.Lib in
theorem Tryd.slices_Contains_string (b off n c : Nat) (zs : List ByteArray) (x : ByteArray) (w : World) (hz : n ≤ zs.length) (hbig : n ≤ 9223372036854775807) (hc : ∀ j, j < zs.length → w.cell? ⟨b, off + j, none⟩ = some (.string (zs.getD j ByteArray.empty))) :
  Calls Tryd.prog 37 #[.slice (some ⟨b, off, none⟩) n c, .string x] w fun e w' => e = .returned (.bool (Lib.containsS (zs.take n) x)) ∧ w' = w := Any.slices_Contains_string Tryd.lays110 b off n c zs x w hz hbig hc
open Go.Lib in
theorem Tryd.slices_Contains_string_empty (a : Option Addr) (c : Nat) (x : ByteArray) (w : World) :
  Calls Tryd.prog 37 #[.slice a 0 c, .string x] w fun e w' => e = .returned (.bool false) ∧ w' = w := Any.slices_Contains_string_empty Tryd.lays110 a c x w
def Tryd.laysSlK4_ren : Go.Shelf.Ren := ⟨fun | 4 => 21 | n => n, fun | 22 => 41 | 4 => 4 | 5 => 5 | n => n, fun | n => n⟩
theorem Tryd.laysSlK4 : Go.Proofs.SlLaysK.n4 Tryd.prog Tryd.laysSlK4_ren := {
 mixed := by kernel_rfl
 f4 := Tryd.func21.trans (congrArg some (by kernel_rfl))
 t4 := Tryd.underlying4
 a4 := Tryd.isAgg4
 z4 := Tryd.sizeOf4
 v4 := Tryd.zeroValue4
 t22 := Tryd.underlying41
 a22 := Tryd.isAgg41
 z22 := Tryd.sizeOf41
 v22 := Tryd.zeroValue41
 t5 := Tryd.underlying5
 i5 := by kernel_rfl }
open Go.RowKit Go.Lib in
theorem Tryd.bytes_Clone_at (a : Addr) (n c : Nat) (xs : List Int) (w : World) (hx : xs.length = n) (hbig : n ≤ 140737488355328) (hc : ∀ i, i < n → w.cell? (a.add i) = some (.int .u8 (xs.getD i 0))) :
  Calls Tryd.prog 21 #[.slice (some a) n c] w fun e w' => ∃ v', e = .returned v' ∧ w'.ownsRow w.heap.size 5 1 v' n (xs.map (Value.int .u8)) ∧ v' ≠ .slice none 0 0 ∧ Below w.heap.size w w' := Any.bytes_Clone_at Tryd.laysSlK4 a n c xs w hx hbig hc
end Go.Proofs
namespace Go.Proofs.YtlggejehaonkcaaDoor
open Go.RowKit
set_option linter.unusedSimpArgs false
set_option linter.unusedVariables false

theorem Tryd.in31 (w : World) (vs : Array Value) : (callFunc 31 vs).run Tryd.prog w = .ok (.enter 31 vs) w := by kernel_rfl
theorem Tryd.in45 (w : World) (vs : Array Value) : (callFunc 45 vs).run Tryd.prog w = .ok (.enter 45 vs) w := by kernel_rfl
theorem Tryd.in46 (w : World) (vs : Array Value) : (callFunc 46 vs).run Tryd.prog w = .ok (.enter 46 vs) w := by kernel_rfl
theorem Tryd.in47 (w : World) (vs : Array Value) : (callFunc 47 vs).run Tryd.prog w = .ok (.enter 47 vs) w := by kernel_rfl
theorem Tryd.in5 (w : World) (vs : Array Value) : (callFunc 5 vs).run Tryd.prog w = .ok (.enter 5 vs) w := by kernel_rfl
def Tab (w : World) : Prop := Lib.TabIs Tryd.prog w "internal/strconv.uint64pow10" .u64 Lib.pow10Tab
theorem Tryd.gPow : Tryd.prog.globalNamed "internal/strconv.uint64pow10" = some 0 := by kernel_rfl
theorem Tab.below {w w' : World} {B : Nat} (h : Tab w) (hb : Below B w w') (h0 : 0 < B) : Tab w' := var?_below hb Tryd.gPow h0 h
def nmS (k : Nat) : ByteArray := (⟨#[106]⟩ ++ ⟨(Lib.repeatL [48] (4 - (Lib.decDigits k).length)).toArray⟩) ++ ⟨(Lib.decDigits k).toArray⟩
theorem nmS_0 : nmS 0 = ⟨#[106, 48, 48, 48, 48]⟩ := by
 unfold nmS
 rw [Lib.decDigits_one (by decide)]
 rfl
theorem dig_len {k : Nat} (h : k < 10000) : 1 ≤ (Lib.decDigits k).length ∧ (Lib.decDigits k).length ≤ 4 := by
 rw [Lib.decDigits]
 split
 ·simp
 ·rw [List.length_append, Lib.decDigits]
  split
  ·simp
  ·rw [List.length_append, Lib.decDigits]
   split
   ·simp
   ·rw [List.length_append, Lib.decDigits, dif_pos (by omega)]
    simp
theorem dig_size (k : Nat) : (⟨(Lib.decDigits k).toArray⟩ : ByteArray).size = (Lib.decDigits k).length := by simp [ByteArray.size]
theorem below_grow (w : World) (q : Nat) (os : Array Obj) : Below w.heap.size w (Go.Sort.grow (w.drewN q) os) where
 os := rfl
 tape := rfl
 output := rfl
 size := by simp [Go.Sort.grow]
 block i hi := by simp [Go.Sort.grow, Array.getElem?_append, hi]
set_option maxRecDepth 8000 in
theorem name_any (k : Nat) (hk : k < 10000) (w : World) (hT : Tab w) : Calls Tryd.prog 31 #[.int .i64 (k : Int)] w fun e w' => e = .returned (.string (nmS k)) ∧ Below w.heap.size w w' := by
 have HT := Keep.mk hT
 clear hT
 go_enter Tryd.func31, Tryd.ntmps31
 refine wp_seq_k fun K1 hK1 => rgn ?_
 refine VlS (.string { data := #[] }) ?_
 refine WL.nil (hK1 _ _ ?_)
 refine wp_seq_k fun K2 hK2 => rgn ?_
 refine VlS (.int .i64 (k : Int)) ?_
 refine WL.callF (by kernel_rfl) 45 _ _ rfl Tryd.in45 #[.int .i64 (k : Int)] (by simp [Act.eval]) ?_
 refine (Tryd.strconv_Itoa (k : Int) (by omega) (by omega) w HT.out).mono ?_
 rintro e w1 ⟨rfl, q, os, rfl⟩
 refine ⟨_, rfl, ?_⟩
 rw [Lib.itoa_nonneg]
 have B1 : Keep (Below w.heap.size w (Go.Sort.grow (w.drewN q) os)) := ⟨below_grow w q os⟩
 generalize Go.Sort.grow (w.drewN q) os = w1 at *
 obtain ⟨dg, hdg⟩ : ∃ s : ByteArray, Keep (s = ⟨(Lib.decDigits k).toArray⟩) := ⟨_, ⟨rfl⟩⟩
 rw [← hdg.out]
 have hsz : dg.size = (Lib.decDigits k).length := by rw [hdg.out]; exact dig_size k
 have hdl := dig_len hk
 obtain ⟨d, hd⟩ : ∃ d : Nat, Keep (d = (Lib.decDigits k).length) := ⟨_, ⟨rfl⟩⟩
 rw [← hd.out] at hsz hdl
 obtain ⟨z, hz⟩ : ∃ z : Nat, Keep (z = 4 - d) := ⟨_, ⟨rfl⟩⟩
 have hsub : IntKind.i64.wrap (4 - (d : Int)) = (z : Int) := by rw [IntKind.wrap_i64]; have := hz.out; omega
 have hsub2 : IntKind.i64.wrap (4 - (dg.size : Int)) = (z : Int) := by rw [hsz]; exact hsub
 simp only [Act.put, pqA, pqB, pqC]
 refine VlS (.string dg) ?_
 refine WL.nil (hK2 _ _ ?_)
 refine wp_seq_k fun K3 hK3 => rgn ?_
 refine VlS (.string dg) ?_
 refine VlS (.int .i64 (d : Int)) ?_
 refine VlS (.int .i64 (z : Int)) ?_
 have HSZ := Keep.mk hsz
 clear hsub hsub2 hsz
 refine WL.callF (by kernel_rfl) 46 _ _ rfl Tryd.in46 #[.string ⟨#[48]⟩, .int .i64 (z : Int)] (by simp [Act.eval]) ?_
 refine (Tryd.strings_Repeat ⟨#[48]⟩ z w1 (by have := hz.out; omega) (by have := hz.out; show 1 * z ≤ _; omega)).mono ?_
 rintro e w2 ⟨rfl, hb2⟩
 refine ⟨_, rfl, ?_⟩
 have B2 : Keep (Below w.heap.size w w2) := ⟨B1.out.trans (hb2.mono B1.out.size)⟩
 obtain ⟨zs, hzs⟩ : ∃ s : ByteArray, Keep (s = ⟨(Lib.repeatL [48] z).toArray⟩) := ⟨_, ⟨rfl⟩⟩
 change WL _ _ _ _ (Act.put _ _ (.string ⟨(Lib.repeatL [48] z).toArray⟩)) _
 rw [← hzs.out]
 have hzl : zs.size = z := by rw [hzs.out]; simp [ByteArray.size, Lib.repeatL_length]
 have hc1 : 1 + zs.size ≤ 9223372036854775807 := by have := hz.out; omega
 have hc2 : 1 + zs.size + dg.size ≤ 9223372036854775807 := by have := hz.out; have := HSZ.out; omega
 clear hzl
 simp only [Act.put, pqA, pqB, pqC]
 refine VlS (.string (⟨#[106]⟩ ++ zs)) ?_
 refine VlS (.string dg) ?_
 refine VlS (.string ((⟨#[106]⟩ ++ zs) ++ dg)) ?_
 refine VlS (.string ((⟨#[106]⟩ ++ zs) ++ dg)) ?_
 refine WL.nil (hK3 _ _ ?_)
 refine wp_ret ?_
 go_ret
 refine ⟨?_, B2.out⟩
 unfold nmS
 rw [hzs.out, hz.out, hd.out, hdg.out]
 rfl
theorem st_built (r : Int) : Tryd.prog.built 51 [(1, .int .i64 r), (3, .int .i64 (-1))] = some (stA (.slice none 0 0) ⟨[], r, 0, -1, false, 0⟩) := by kernel_rfl
set_option maxRecDepth 8000 in
theorem dnew_any (r : Int) (w : World) : Calls Tryd.prog 5 #[.int .i64 r] w fun e w' => ∃ ps pd ph, e = .returned (.tuple #[ptr pd, ptr ph]) ∧ DskAt w' ps (.slice none 0 0) [] ⟨[], max 0 r, 0, -1, false, 0⟩ ∧ Blk w' pd 53 #[ptr ps] ∧ Blk w' ph 55 #[ptr ps] ∧ w.heap.size ≤ ps ∧ w.heap.size ≤ pd ∧ w.heap.size ≤ ph ∧ Below w.heap.size w w' := by
 go_enter Tryd.func5, Tryd.ntmps5
 refine wp_seq_k fun K1 hK1 => rgn ?_
 refine VlS (.pointer none) ?_
 refine VlS (.pointer none) ?_
 refine WL.nil (hK1 _ _ ?_)
 refine wp_seq_k fun K2 hK2 => rgn ?_
 refine VlS (.int .i64 r) ?_
 refine VlS (.int .i64 (max 0 r)) ?_
 refine WL.bld (by kernel_rfl) 51 _ rfl [(1, .int .i64 (max 0 r)), (3, .int .i64 (-1))] (by simp [Act.eval]) _ (st_built _) ?_
 simp only [Act.put, pqA, pqB, pqC]
 refine WL.box (by kernel_rfl) 51 (.tmp 7) rfl _ rfl ?_
 have HS := Keep.mk (Blk.new w 51 (stA (.slice none 0 0) ⟨[], max 0 r, 0, -1, false, 0⟩))
 have B1 := Keep.mk (below_new w (.cells (stA (.slice none 0 0) ⟨[], max 0 r, 0, -1, false, 0⟩) 51))
 generalize w.alloc (.cells (stA (.slice none 0 0) ⟨[], max 0 r, 0, -1, false, 0⟩) 51) = w1 at *
 obtain ⟨ps, hps⟩ : ∃ g, Keep (g = w.heap.size) := ⟨_, ⟨rfl⟩⟩
 rw [← hps.out] at HS ⊢
 simp only [Act.put, pqA, pqB, pqC]
 refine VlS (.pointer (some ⟨ps, 0, none⟩)) ?_
 refine WL.nil (hK2 _ _ ?_)
 refine wp_seq_k fun K3 hK3 => rgn ?_
 refine VlS (.pointer (some ⟨ps, 0, none⟩)) ?_
 refine WL.bld (by kernel_rfl) 53 _ rfl [(0, ptr ps)] (by simp [Act.eval]) #[ptr ps] (by kernel_rfl) ?_
 simp only [Act.put, pqA, pqB, pqC]
 refine WL.box (by kernel_rfl) 53 (.tmp 10) rfl _ rfl ?_
 have HK := Keep.mk (Blk.new w1 53 #[ptr ps])
 have HS2 := Keep.mk (HS.out.alloc (.cells #[ptr ps] 53))
 have B2 : Keep (Below w.heap.size w (w1.alloc (.cells #[ptr ps] 53))) := ⟨B1.out.trans ((below_new w1 _).mono B1.out.size)⟩
 generalize w1.alloc (.cells #[ptr ps] 53) = w2 at *
 obtain ⟨pd, hpd⟩ : ∃ g, Keep (g = w1.heap.size) := ⟨_, ⟨rfl⟩⟩
 rw [← hpd.out] at HK ⊢
 simp only [Act.put, pqA, pqB, pqC]
 refine VlS (.pointer (some ⟨ps, 0, none⟩)) ?_
 refine WL.bld (by kernel_rfl) 55 _ rfl [(0, ptr ps)] (by simp [Act.eval]) #[ptr ps] (by kernel_rfl) ?_
 simp only [Act.put, pqA, pqB, pqC]
 refine WL.box (by kernel_rfl) 55 (.tmp 13) rfl _ rfl ?_
 have HH := Keep.mk (Blk.new w2 55 #[ptr ps])
 have HS3 := Keep.mk (HS2.out.alloc (.cells #[ptr ps] 55))
 have HK3 := Keep.mk (HK.out.alloc (.cells #[ptr ps] 55))
 have B3 : Keep (Below w.heap.size w (w2.alloc (.cells #[ptr ps] 55))) := ⟨B2.out.trans ((below_new w2 _).mono B2.out.size)⟩
 generalize w2.alloc (.cells #[ptr ps] 55) = w3 at *
 obtain ⟨ph, hph⟩ : ∃ g, Keep (g = w2.heap.size) := ⟨_, ⟨rfl⟩⟩
 rw [← hph.out] at HH ⊢
 simp only [Act.put, pqA, pqB, pqC]
 refine VlS (.pointer (some ⟨pd, 0, none⟩)) ?_
 refine VlS (.pointer (some ⟨ph, 0, none⟩)) ?_
 refine WL.nil (hK3 _ _ ?_)
 refine wp_ret ?_
 go_ret2
 exact ⟨ps, pd, ph, rfl, ⟨HS3.out, ownF_nil _, FcsAt.nil _⟩, HK3.out, HH.out, by rw [hps.out]; exact Nat.le_refl _, by rw [hpd.out]; exact B1.out.size, by rw [hph.out]; exact B2.out.size, B3.out⟩
theorem Tryd.in34 (w : World) (vs : Array Value) : (callFunc 34 vs).run Tryd.prog w = .ok (.enter 34 vs) w := by kernel_rfl
def okC (c : Int) : Bool := (decide (97 ≤ c) && decide (c ≤ 122)) || (decide (48 ≤ c) && decide (c ≤ 57)) || decide (c = 46)
def rgt (n : ByteArray) : Bool := decide (1 ≤ n.size) && decide (n.size ≤ 32) && (lst n).all okC
theorem lst_at (n : ByteArray) (i : Nat) (h : i < n.size) : ((n[i]'h).toNat : Int) = (lst n).getD i 0 := by
 simp [lst, List.getD_eq_getElem?_getD, ByteArray.getElem_eq_getElem_data, h, show i < n.data.size from h]
set_option maxRecDepth 8000 in
set_option maxHeartbeats 2000000 in
theorem right_any (n : ByteArray) (w : World) : Calls Tryd.prog 47 #[.string n] w fun e w' => e = .returned (.bool (rgt n)) ∧ w' = w := by
 go_enter Tryd.func47, Tryd.ntmps47
 refine wp_seq_k fun K1 hK1 => rgn ?_
 refine VlS (.bool false) ?_
 refine WL.nil (hK1 _ _ ?_)
 refine wp_seq_k fun K2 hK2 => ?_
 refine wp_seq_k fun K3 hK3 => rgn ?_
 refine VlS (.string n) ?_
 refine VlS (.int .i64 (n.size : Int)) ?_
 by_cases h1_2 : n.size < 1
 ·have hs1 : (n.size : Int) < 1 := by omega
  refine VlS (.bool true) ?_
  refine VlS (.bool true) ?_
  refine SkS ?_
  refine SkS ?_
  refine SkS ?_
  refine VlS (.bool true) ?_
  refine WL.nil (hK3 _ _ ?_)
  refine wp_cond_true rfl ?_
  refine wp_seq_k fun K4 hK4 => rgn ?_
  refine VlS (.bool false) ?_
  refine WL.nil (hK4 _ _ ?_)
  refine wp_ret ?_
  go_ret
  unfold rgt
  first | (rw [decide_eq_false (by omega : ¬ 1 ≤ n.size)]; exact ⟨rfl, rfl⟩) | (rw [decide_eq_false (by omega : ¬ n.size ≤ 32), Bool.and_false]; exact ⟨rfl, rfl⟩)
 ·have hs1 : ¬ (n.size : Int) < 1 := by omega
  refine VlS (.bool false) ?_
  refine VlS (.bool false) ?_
  refine VlS (.string n) ?_
  refine VlS (.int .i64 (n.size : Int)) ?_
  by_cases h1_6 : 32 < n.size
  ·have hs2 : (32 : Int) < (n.size : Int) := by omega
   refine VlS (.bool true) ?_
   refine VlS (.bool true) ?_
   refine WL.nil (hK3 _ _ ?_)
   refine wp_cond_true rfl ?_
   refine wp_seq_k fun K5 hK5 => rgn ?_
   refine VlS (.bool false) ?_
   refine WL.nil (hK5 _ _ ?_)
   refine wp_ret ?_
   go_ret
   unfold rgt
   first | (rw [decide_eq_false (by omega : ¬ 1 ≤ n.size)]; exact ⟨rfl, rfl⟩) | (rw [decide_eq_false (by omega : ¬ n.size ≤ 32), Bool.and_false]; exact ⟨rfl, rfl⟩)
  ·have hs2 : ¬ (32 : Int) < (n.size : Int) := by omega
   refine VlS (.bool false) ?_
   refine VlS (.bool false) ?_
   refine WL.nil (hK3 _ _ ?_)
   refine wp_cond_false rfl ?_
   refine wp_skip ?_
   refine hK2 _ _ ?_
   refine wp_seq_k fun K6 hK6 => ?_
   refine wp_seq_k fun K7 hK7 => rgn ?_
   refine VlS (.int .i64 0) ?_
   refine WL.nil (hK7 _ _ ?_)
   refine wp_block ?_
   refine wp_loop (fun ac wr => ∃ (t : Nat) (f : Nat → Value), ac = { tmps := #[.string n, undef, f 2, .int .i64 (t : Int), f 4, .string n, .int .i64 (n.size : Int), .bool false, .bool false, .string n, .int .i64 (n.size : Int), .bool false, .bool false, f 13, f 14, f 15, f 16, f 17, f 18, f 19, f 20, f 21, f 22, f 23, f 24, f 25, f 26, f 27, f 28, f 29, f 30, f 31, f 32, f 33, f 34, f 35, f 36, f 37, f 38, f 39], defers := [] } ∧ t ≤ n.size ∧ wr = w ∧ (lst n).all okC = ((lst n).drop t).all okC) (fun a _ => n.size - (intOf (a.tmps.getD 3 undef)).toNat) ⟨0, fun zz => [.string n, undef, .bool false, .int .i64 0, undef, .string n, .int .i64 (n.size : Int), .bool false, .bool false, .string n, .int .i64 (n.size : Int), .bool false, .bool false, undef, undef, undef, undef, undef, undef, undef, undef, undef, undef, undef, undef, undef, undef, undef, undef, undef, undef, undef, undef, undef, undef, undef, undef, undef, undef, undef].getD zz undef, rfl, by omega, rfl, rfl⟩ ?_
   rintro ac wr ⟨t, f, rfl, ht, rfl, hA⟩
   have JA := Keep.mk hA
   clear hA
   by_cases hlt : t < n.size
   ·have hlt' : (t : Int) < (n.size : Int) := by omega
    have hwt : IntKind.i64.wrap ((t : Int) + 1) = (t : Int) + 1 := by rw [IntKind.wrap_i64]; omega
    obtain ⟨c, hc⟩ : ∃ c, Keep (c = (lst n).getD t 0) := ⟨_, ⟨rfl⟩⟩
    have hcv : ((n[t]'hlt).toNat : Int) = c := by rw [hc.out]; exact lst_at n t hlt
    have hnx : Keep (((lst n).drop t).all okC = (okC c && ((lst n).drop (t + 1)).all okC)) := ⟨by rw [List.drop_eq_getElem_cons (by rw [lst_len]; exact hlt), List.all_cons, hc.out, List.getD_eq_getElem?_getD, List.getElem?_eq_getElem (by rw [lst_len]; exact hlt)]; rfl⟩
    refine wp_seq_k fun K8 hK8 => ?_
    refine wp_seq_k fun K9 hK9 => rgn ?_
    refine VlS (.int .i64 (t : Int)) ?_
    refine VlS (.string n) ?_
    refine VlS (.int .i64 (n.size : Int)) ?_
    refine VlS (.bool true) ?_
    refine WL.nil (hK9 _ _ ?_)
    refine wp_cond_true rfl ?_
    refine wp_skip ?_
    refine hK8 _ _ ?_
    refine wp_seq_k fun K10 hK10 => ?_
    refine wp_block ?_
    refine wp_seq_k fun K11 hK11 => rgn ?_
    refine VlS (.string n) ?_
    refine VlS (.int .i64 (t : Int)) ?_
    refine VlS (.int .u8 c) ?_
    refine VlS (.int .u8 c) ?_
    refine WL.nil (hK11 _ _ ?_)
    refine wp_seq_k fun K12 hK12 => rgn ?_
    refine VlS (.int .u8 c) ?_
    by_cases h7_1 : c < 97
    ·skip
     refine VlS (.bool true) ?_
     refine VlS (.bool true) ?_
     refine SkS ?_
     refine SkS ?_
     refine VlS (.bool true) ?_
     refine VlS (.bool true) ?_
     refine VlS (.int .u8 c) ?_
     by_cases h7_8 : c < 48
     ·skip
      refine VlS (.bool true) ?_
      refine VlS (.bool true) ?_
      refine SkS ?_
      refine SkS ?_
      refine VlS (.bool true) ?_
      refine VlS (.bool true) ?_
      refine VlS (.bool true) ?_
      refine VlS (.int .u8 c) ?_
      by_cases h7_16 : c = 46
      ·skip
       refine VlS (.bool false) ?_
       refine VlS (.bool false) ?_
       refine WL.nil (hK12 _ _ ?_)
       refine wp_cond_false rfl ?_
       refine wp_skip ?_
       refine hK10 _ _ ?_
       refine rgn ?_
       refine VlS (.int .i64 (t : Int)) ?_
       refine VlS (.int .i64 ((t : Int) + 1)) ?_
       refine VlS (.int .i64 ((t : Int) + 1)) ?_
       refine WL.nil ?_
       have hk : okC c = true := by unfold okC; simp; omega
       have h := JA.out
       rw [hnx.out, hk, Bool.true_and] at h
       refine ⟨⟨t + 1, fun zz => [.string n, undef, f 2, .int .i64 ((t : Int) + 1), .int .u8 c, .string n, .int .i64 (n.size : Int), .bool false, .bool false, .string n, .int .i64 (n.size : Int), .bool false, .bool false, .int .i64 (t : Int), .string n, .int .i64 (n.size : Int), .bool true, .int .i64 (t : Int), .int .i64 ((t : Int) + 1), .string n, .int .i64 (t : Int), .int .u8 c, .int .u8 c, .bool true, .bool true, undef, undef, .bool true, .bool true, .int .u8 c, .bool true, .bool true, undef, undef, .bool true, .bool true, .bool true, .int .u8 c, .bool false, .bool false].getD zz undef, rfl, by omega, rfl, h⟩, ?_⟩
       simp only [intOf]; show n.size - ((t : Int) + 1).toNat < n.size - ((t : Int)).toNat; omega
      ·skip
       refine VlS (.bool true) ?_
       refine VlS (.bool true) ?_
       refine WL.nil (hK12 _ _ ?_)
       refine wp_cond_true rfl ?_
       refine wp_seq_k fun K13 hK13 => rgn ?_
       refine VlS (.bool false) ?_
       refine WL.nil (hK13 _ _ ?_)
       refine wp_ret ?_
       go_ret
       have hk : okC c = false := by unfold okC; simp; omega
       have h := JA.out
       rw [hnx.out, hk, Bool.false_and] at h
       unfold rgt
       rw [h, Bool.and_false]
       exact ⟨rfl, rfl⟩
     ·skip
      refine VlS (.bool false) ?_
      refine VlS (.bool false) ?_
      refine VlS (.int .u8 c) ?_
      by_cases h7_11 : 57 < c
      ·skip
       refine VlS (.bool true) ?_
       refine VlS (.bool true) ?_
       refine VlS (.bool true) ?_
       refine VlS (.bool true) ?_
       refine VlS (.int .u8 c) ?_
       by_cases h7_16 : c = 46
       ·skip
        refine VlS (.bool false) ?_
        refine VlS (.bool false) ?_
        refine WL.nil (hK12 _ _ ?_)
        refine wp_cond_false rfl ?_
        refine wp_skip ?_
        refine hK10 _ _ ?_
        refine rgn ?_
        refine VlS (.int .i64 (t : Int)) ?_
        refine VlS (.int .i64 ((t : Int) + 1)) ?_
        refine VlS (.int .i64 ((t : Int) + 1)) ?_
        refine WL.nil ?_
        have hk : okC c = true := by unfold okC; simp; omega
        have h := JA.out
        rw [hnx.out, hk, Bool.true_and] at h
        refine ⟨⟨t + 1, fun zz => [.string n, undef, f 2, .int .i64 ((t : Int) + 1), .int .u8 c, .string n, .int .i64 (n.size : Int), .bool false, .bool false, .string n, .int .i64 (n.size : Int), .bool false, .bool false, .int .i64 (t : Int), .string n, .int .i64 (n.size : Int), .bool true, .int .i64 (t : Int), .int .i64 ((t : Int) + 1), .string n, .int .i64 (t : Int), .int .u8 c, .int .u8 c, .bool true, .bool true, undef, undef, .bool true, .bool true, .int .u8 c, .bool false, .bool false, .int .u8 c, .bool true, .bool true, .bool true, .bool true, .int .u8 c, .bool false, .bool false].getD zz undef, rfl, by omega, rfl, h⟩, ?_⟩
        simp only [intOf]; show n.size - ((t : Int) + 1).toNat < n.size - ((t : Int)).toNat; omega
       ·skip
        refine VlS (.bool true) ?_
        refine VlS (.bool true) ?_
        refine WL.nil (hK12 _ _ ?_)
        refine wp_cond_true rfl ?_
        refine wp_seq_k fun K14 hK14 => rgn ?_
        refine VlS (.bool false) ?_
        refine WL.nil (hK14 _ _ ?_)
        refine wp_ret ?_
        go_ret
        have hk : okC c = false := by unfold okC; simp; omega
        have h := JA.out
        rw [hnx.out, hk, Bool.false_and] at h
        unfold rgt
        rw [h, Bool.and_false]
        exact ⟨rfl, rfl⟩
      ·skip
       refine VlS (.bool false) ?_
       refine VlS (.bool false) ?_
       refine VlS (.bool false) ?_
       refine VlS (.bool false) ?_
       refine SkS ?_
       refine SkS ?_
       refine VlS (.bool false) ?_
       refine WL.nil (hK12 _ _ ?_)
       refine wp_cond_false rfl ?_
       refine wp_skip ?_
       refine hK10 _ _ ?_
       refine rgn ?_
       refine VlS (.int .i64 (t : Int)) ?_
       refine VlS (.int .i64 ((t : Int) + 1)) ?_
       refine VlS (.int .i64 ((t : Int) + 1)) ?_
       refine WL.nil ?_
       have hk : okC c = true := by unfold okC; simp; omega
       have h := JA.out
       rw [hnx.out, hk, Bool.true_and] at h
       refine ⟨⟨t + 1, fun zz => [.string n, undef, f 2, .int .i64 ((t : Int) + 1), .int .u8 c, .string n, .int .i64 (n.size : Int), .bool false, .bool false, .string n, .int .i64 (n.size : Int), .bool false, .bool false, .int .i64 (t : Int), .string n, .int .i64 (n.size : Int), .bool true, .int .i64 (t : Int), .int .i64 ((t : Int) + 1), .string n, .int .i64 (t : Int), .int .u8 c, .int .u8 c, .bool true, .bool true, undef, undef, .bool true, .bool true, .int .u8 c, .bool false, .bool false, .int .u8 c, .bool false, .bool false, .bool false, .bool false, undef, undef, .bool false].getD zz undef, rfl, by omega, rfl, h⟩, ?_⟩
       simp only [intOf]; show n.size - ((t : Int) + 1).toNat < n.size - ((t : Int)).toNat; omega
    ·skip
     refine VlS (.bool false) ?_
     refine VlS (.bool false) ?_
     refine VlS (.int .u8 c) ?_
     by_cases h7_4 : 122 < c
     ·skip
      refine VlS (.bool true) ?_
      refine VlS (.bool true) ?_
      refine VlS (.bool true) ?_
      refine VlS (.int .u8 c) ?_
      by_cases h7_8 : c < 48
      ·skip
       refine VlS (.bool true) ?_
       refine VlS (.bool true) ?_
       refine SkS ?_
       refine SkS ?_
       refine VlS (.bool true) ?_
       refine VlS (.bool true) ?_
       refine VlS (.bool true) ?_
       refine VlS (.int .u8 c) ?_
       by_cases h7_16 : c = 46
       ·skip
        refine VlS (.bool false) ?_
        refine VlS (.bool false) ?_
        refine WL.nil (hK12 _ _ ?_)
        refine wp_cond_false rfl ?_
        refine wp_skip ?_
        refine hK10 _ _ ?_
        refine rgn ?_
        refine VlS (.int .i64 (t : Int)) ?_
        refine VlS (.int .i64 ((t : Int) + 1)) ?_
        refine VlS (.int .i64 ((t : Int) + 1)) ?_
        refine WL.nil ?_
        have hk : okC c = true := by unfold okC; simp; omega
        have h := JA.out
        rw [hnx.out, hk, Bool.true_and] at h
        refine ⟨⟨t + 1, fun zz => [.string n, undef, f 2, .int .i64 ((t : Int) + 1), .int .u8 c, .string n, .int .i64 (n.size : Int), .bool false, .bool false, .string n, .int .i64 (n.size : Int), .bool false, .bool false, .int .i64 (t : Int), .string n, .int .i64 (n.size : Int), .bool true, .int .i64 (t : Int), .int .i64 ((t : Int) + 1), .string n, .int .i64 (t : Int), .int .u8 c, .int .u8 c, .bool false, .bool false, .int .u8 c, .bool true, .bool true, .bool true, .int .u8 c, .bool true, .bool true, undef, undef, .bool true, .bool true, .bool true, .int .u8 c, .bool false, .bool false].getD zz undef, rfl, by omega, rfl, h⟩, ?_⟩
        simp only [intOf]; show n.size - ((t : Int) + 1).toNat < n.size - ((t : Int)).toNat; omega
       ·skip
        refine VlS (.bool true) ?_
        refine VlS (.bool true) ?_
        refine WL.nil (hK12 _ _ ?_)
        refine wp_cond_true rfl ?_
        refine wp_seq_k fun K15 hK15 => rgn ?_
        refine VlS (.bool false) ?_
        refine WL.nil (hK15 _ _ ?_)
        refine wp_ret ?_
        go_ret
        have hk : okC c = false := by unfold okC; simp; omega
        have h := JA.out
        rw [hnx.out, hk, Bool.false_and] at h
        unfold rgt
        rw [h, Bool.and_false]
        exact ⟨rfl, rfl⟩
      ·skip
       refine VlS (.bool false) ?_
       refine VlS (.bool false) ?_
       refine VlS (.int .u8 c) ?_
       by_cases h7_11 : 57 < c
       ·skip
        refine VlS (.bool true) ?_
        refine VlS (.bool true) ?_
        refine VlS (.bool true) ?_
        refine VlS (.bool true) ?_
        refine VlS (.int .u8 c) ?_
        by_cases h7_16 : c = 46
        ·skip
         refine VlS (.bool false) ?_
         refine VlS (.bool false) ?_
         refine WL.nil (hK12 _ _ ?_)
         refine wp_cond_false rfl ?_
         refine wp_skip ?_
         refine hK10 _ _ ?_
         refine rgn ?_
         refine VlS (.int .i64 (t : Int)) ?_
         refine VlS (.int .i64 ((t : Int) + 1)) ?_
         refine VlS (.int .i64 ((t : Int) + 1)) ?_
         refine WL.nil ?_
         have hk : okC c = true := by unfold okC; simp; omega
         have h := JA.out
         rw [hnx.out, hk, Bool.true_and] at h
         refine ⟨⟨t + 1, fun zz => [.string n, undef, f 2, .int .i64 ((t : Int) + 1), .int .u8 c, .string n, .int .i64 (n.size : Int), .bool false, .bool false, .string n, .int .i64 (n.size : Int), .bool false, .bool false, .int .i64 (t : Int), .string n, .int .i64 (n.size : Int), .bool true, .int .i64 (t : Int), .int .i64 ((t : Int) + 1), .string n, .int .i64 (t : Int), .int .u8 c, .int .u8 c, .bool false, .bool false, .int .u8 c, .bool true, .bool true, .bool true, .int .u8 c, .bool false, .bool false, .int .u8 c, .bool true, .bool true, .bool true, .bool true, .int .u8 c, .bool false, .bool false].getD zz undef, rfl, by omega, rfl, h⟩, ?_⟩
         simp only [intOf]; show n.size - ((t : Int) + 1).toNat < n.size - ((t : Int)).toNat; omega
        ·skip
         refine VlS (.bool true) ?_
         refine VlS (.bool true) ?_
         refine WL.nil (hK12 _ _ ?_)
         refine wp_cond_true rfl ?_
         refine wp_seq_k fun K16 hK16 => rgn ?_
         refine VlS (.bool false) ?_
         refine WL.nil (hK16 _ _ ?_)
         refine wp_ret ?_
         go_ret
         have hk : okC c = false := by unfold okC; simp; omega
         have h := JA.out
         rw [hnx.out, hk, Bool.false_and] at h
         unfold rgt
         rw [h, Bool.and_false]
         exact ⟨rfl, rfl⟩
       ·skip
        refine VlS (.bool false) ?_
        refine VlS (.bool false) ?_
        refine VlS (.bool false) ?_
        refine VlS (.bool false) ?_
        refine SkS ?_
        refine SkS ?_
        refine VlS (.bool false) ?_
        refine WL.nil (hK12 _ _ ?_)
        refine wp_cond_false rfl ?_
        refine wp_skip ?_
        refine hK10 _ _ ?_
        refine rgn ?_
        refine VlS (.int .i64 (t : Int)) ?_
        refine VlS (.int .i64 ((t : Int) + 1)) ?_
        refine VlS (.int .i64 ((t : Int) + 1)) ?_
        refine WL.nil ?_
        have hk : okC c = true := by unfold okC; simp; omega
        have h := JA.out
        rw [hnx.out, hk, Bool.true_and] at h
        refine ⟨⟨t + 1, fun zz => [.string n, undef, f 2, .int .i64 ((t : Int) + 1), .int .u8 c, .string n, .int .i64 (n.size : Int), .bool false, .bool false, .string n, .int .i64 (n.size : Int), .bool false, .bool false, .int .i64 (t : Int), .string n, .int .i64 (n.size : Int), .bool true, .int .i64 (t : Int), .int .i64 ((t : Int) + 1), .string n, .int .i64 (t : Int), .int .u8 c, .int .u8 c, .bool false, .bool false, .int .u8 c, .bool true, .bool true, .bool true, .int .u8 c, .bool false, .bool false, .int .u8 c, .bool false, .bool false, .bool false, .bool false, undef, undef, .bool false].getD zz undef, rfl, by omega, rfl, h⟩, ?_⟩
        simp only [intOf]; show n.size - ((t : Int) + 1).toNat < n.size - ((t : Int)).toNat; omega
     ·skip
      refine VlS (.bool false) ?_
      refine VlS (.bool false) ?_
      refine VlS (.bool false) ?_
      refine SkS ?_
      refine SkS ?_
      refine SkS ?_
      refine SkS ?_
      refine SkS ?_
      refine SkS ?_
      refine VlS (.bool false) ?_
      refine VlS (.bool false) ?_
      refine SkS ?_
      refine SkS ?_
      refine VlS (.bool false) ?_
      refine WL.nil (hK12 _ _ ?_)
      refine wp_cond_false rfl ?_
      refine wp_skip ?_
      refine hK10 _ _ ?_
      refine rgn ?_
      refine VlS (.int .i64 (t : Int)) ?_
      refine VlS (.int .i64 ((t : Int) + 1)) ?_
      refine VlS (.int .i64 ((t : Int) + 1)) ?_
      refine WL.nil ?_
      have hk : okC c = true := by unfold okC; simp; omega
      have h := JA.out
      rw [hnx.out, hk, Bool.true_and] at h
      refine ⟨⟨t + 1, fun zz => [.string n, undef, f 2, .int .i64 ((t : Int) + 1), .int .u8 c, .string n, .int .i64 (n.size : Int), .bool false, .bool false, .string n, .int .i64 (n.size : Int), .bool false, .bool false, .int .i64 (t : Int), .string n, .int .i64 (n.size : Int), .bool true, .int .i64 (t : Int), .int .i64 ((t : Int) + 1), .string n, .int .i64 (t : Int), .int .u8 c, .int .u8 c, .bool false, .bool false, .int .u8 c, .bool false, .bool false, .bool false, undef, undef, undef, undef, undef, undef, .bool false, .bool false, undef, undef, .bool false].getD zz undef, rfl, by omega, rfl, h⟩, ?_⟩
      simp only [intOf]; show n.size - ((t : Int) + 1).toNat < n.size - ((t : Int)).toNat; omega
   ·have hlt' : ¬ (t : Int) < (n.size : Int) := by omega
    refine wp_seq_k fun K17 hK17 => ?_
    refine wp_seq_k fun K18 hK18 => rgn ?_
    refine VlS (.int .i64 (t : Int)) ?_
    refine VlS (.string n) ?_
    refine VlS (.int .i64 (n.size : Int)) ?_
    refine VlS (.bool false) ?_
    refine WL.nil (hK18 _ _ ?_)
    refine wp_cond_false rfl ?_
    refine wp_exit ?_
    refine hK6 _ _ ?_
    refine wp_seq_k fun K19 hK19 => rgn ?_
    refine VlS (.bool true) ?_
    refine WL.nil (hK19 _ _ ?_)
    refine wp_ret ?_
    go_ret
    have h := JA.out
    rw [List.drop_eq_nil_of_le (by rw [lst_len]; omega)] at h
    unfold rgt
    rw [h, decide_eq_true (by omega), decide_eq_true (by omega)]
    exact ⟨rfl, rfl⟩
def PF.sync (f : PF) : PF := { f with sf := (f.bs.length : Int) }
def DV.sync (D : DV) (i : Nat) : DV := { D with fs := D.fs.modify i PF.sync }
theorem FcsAt.sync {w w' : World} {cs : List FC} {fs : List PF} (h : FcsAt w cs fs) {i : Nat} {x : FC} {f : PF} (hx : cs[i]? = some x) (hf : fs[i]? = some f) (hg : ∀ y l, Own w y l → Own w' y l) : FcsAt w' (cs.set i { x with sf := (f.bs.length : Int) }) (fs.modify i PF.sync) := by
 have hi := (List.getElem?_eq_some_iff.1 hx).1
 refine ⟨by rw [List.length_set, List.length_modify]; exact h.len, fun j y g hy hg' => ?_, fun j k y z hy hz hne b hb => ?_⟩
 ·rw [List.getElem?_modify] at hg'
  by_cases hij : i = j
  ·subst hij
   rw [List.getElem?_set_self hi] at hy
   rw [hf] at hg'
   simp at hy hg'
   subst hy hg'
   have := h.each i x f hx hf
   exact ⟨this.1, rfl, hg _ _ this.2.2⟩
  ·rw [List.getElem?_set_ne hij] at hy
   simp only [if_neg hij] at hg'
   simp at hg'
   have := h.each j y g hy hg'
   exact ⟨this.1, this.2.1, hg _ _ this.2.2⟩
 ·have hs : ∀ (m : Nat) (u : FC), (cs.set i { x with sf := (f.bs.length : Int) })[m]? = some u → ∃ u', cs[m]? = some u' ∧ u'.b = u.b := fun m u hu => by
   by_cases hm : i = m
   ·subst hm
    rw [List.getElem?_set_self hi] at hu
    simp at hu
    exact ⟨x, hx, by rw [← hu]⟩
   ·rw [List.getElem?_set_ne hm] at hu
    exact ⟨u, hu, rfl⟩
  obtain ⟨y', h1, h2⟩ := hs j y hy
  obtain ⟨z', h3, h4⟩ := hs k z hz
  rw [← h4]
  exact h.apart j k y' z' h1 h3 hne b (by rw [h2]; exact hb)
theorem fnd_at (n : ByteArray) : ∀ (l : List PF) (i : Nat), (fnd n l i).2 = true → ∃ j f, (fnd n l i).1 = i + j ∧ l[j]? = some f
 | [], i, h => by simp [fnd] at h
 | f :: r, i, h => by
  unfold fnd at h ⊢
  split at h
  ·rename_i hc
   rw [if_pos hc]
   obtain ⟨j, g, h1, h2⟩ := fnd_at n r (i + 1) h
   exact ⟨j + 1, g, by rw [h1]; omega, by simpa using h2⟩
  ·rename_i hc
   rw [if_neg hc]
   exact ⟨0, f, rfl, rfl⟩
theorem Tryd.in29 (w : World) (vs : Array Value) : (callFunc 29 vs).run Tryd.prog w = .ok (.enter 29 vs) w := by kernel_rfl
theorem Tryd.in13 (w : World) (vs : Array Value) : (callFunc 13 vs).run Tryd.prog w = .ok (.enter 13 vs) w := by kernel_rfl
theorem Tryd.in33 (w : World) (vs : Array Value) : (callFunc 33 vs).run Tryd.prog w = .ok (.enter 33 vs) w := by kernel_rfl
theorem Tryd.in25 (w : World) (vs : Array Value) : (callFunc 25 vs).run Tryd.prog w = .ok (.enter 25 vs) w := by kernel_rfl
theorem Tryd.in27 (w : World) (vs : Array Value) : (callFunc 27 vs).run Tryd.prog w = .ok (.enter 27 vs) w := by kernel_rfl
theorem Tryd.in26 (w : World) (vs : Array Value) : (callFunc 26 vs).run Tryd.prog w = .ok (.enter 26 vs) w := by kernel_rfl
theorem Tryd.in14 (w : World) (vs : Array Value) : (callFunc 14 vs).run Tryd.prog w = .ok (.enter 14 vs) w := by kernel_rfl
theorem Tryd.in37 (w : World) (vs : Array Value) : (callFunc 37 vs).run Tryd.prog w = .ok (.enter 37 vs) w := by kernel_rfl
def jA (d : Nat) (vf : Value) (pr sz : Int) (la de : Bool) : Array Value := #[ptr d, vf, .int .i64 pr, .int .i64 sz, .bool la, .bool de]
theorem bsRE (w : World) : (Instr.buildSlice 22 0 #[]).run Tryd.prog w = .ok (.slice (some ⟨w.heap.size, 0, none⟩) 0 0) (w.alloc (.cells #[] 41)) := by kernel_rfl
theorem j_built (d : Nat) : Tryd.prog.built 81 [(0, ptr d), (2, .int .i64 (-1))] = some (jA d (.slice none 0 0) (-1) 0 false false) := by kernel_rfl
set_option maxRecDepth 8000 in
theorem told_ok (g : Nat) (e : Int) (he : ¬ e = 7) (w : World) : Calls Tryd.prog 29 #[ptr g, .int .i64 e] w fun r w' => r = .returned (.int .i64 e) ∧ w' = w := by
 go_enter Tryd.func29, Tryd.ntmps29
 refine wp_seq_k fun K1 hK1 => rgn ?_
 refine VlS (.int .i64 0) ?_
 refine WL.nil (hK1 _ _ ?_)
 refine wp_seq_k fun K2 hK2 => ?_
 refine wp_seq_k fun K3 hK3 => rgn ?_
 refine VlS (.int .i64 e) ?_
 refine VlS (.bool false) ?_
 refine WL.nil (hK3 _ _ ?_)
 refine wp_cond_false rfl ?_
 refine wp_skip ?_
 refine hK2 _ _ ?_
 refine wp_seq_k fun K4 hK4 => rgn ?_
 refine VlS (.int .i64 e) ?_
 refine VlS (.int .i64 e) ?_
 refine WL.nil (hK4 _ _ ?_)
 refine wp_ret ?_
 go_ret
 exact ⟨rfl, rfl⟩
end Go.Proofs.YtlggejehaonkcaaDoor
