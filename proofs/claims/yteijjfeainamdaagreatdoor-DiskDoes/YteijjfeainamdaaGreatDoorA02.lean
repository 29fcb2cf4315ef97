import Derived.Test.YteijjfeainamdaaGreatDoorA01
import Derived.Shelf.Strings.Builder1
import Derived.Shelf.Strings.Builder2
import Derived.Shelf.Strings.BuilderF
import Derived.Shelf.Strconv.Itoa0
import Derived.Shelf.Strconv.Itoa1
import Derived.Shelf.LaysM
import Derived.Shelf.Strconv.Itoa2
import Derived.Shelf.Strconv.Itoa3
import Derived.Shelf.Strings.Prefix
import Derived.Shelf.Bits.Mul64
import Derived.Shelf.Strings.Repeat
import Derived.Shelf.Slices.Turned
import Derived.Ground.SlbCloneProg
import Derived.Shelf.Bytes.SlClone
import Derived.Test.YteijjfeainamdaaGreatDoorProg
import Derived.Lib.Small
import Derived.WalkSmall
import Derived.Deep.RegionHeld3
import Derived.Laws.OwnMore
/-
 DERIVED: THE SHELF's CONTRACTS AT THIS DUMP, IN PLAIN WORDS (tools/lay-plain.mjs out of 'TryzShelf.lean', which tools/lay-shelf.mjs wrote): THE SAME DECLARATIONS UNDER THE SAME NAMES: 'import', 'namespace', 'open', 'def', 'theorem' AND NOTHING ELSE: no command of the shelf's: FOR A HAND-IN. Each laying: the table of numbers ('.._ren') and one theorem, a field a fact of the dump's own or the kernel's comparison; each contract: ONE APPLICATION.
-/
namespace Go.Proofs
open Go.Shelf
def Tryz.laysM171_ren : Go.Shelf.Ren := ⟨fun | 171 => 64 | 243 => 68 | 246 => 76 | 283 => 83 | 284 => 84 | 285 => 85 | 286 => 86 | 129 => 93 | 317 => 92 | 318 => 94 | 319 => 95 | 320 => 96 | 337 => 101 | 338 => 102 | n => n, fun | 3 => 3 | 9 => 9 | 2 => 2 | 4 => 4 | 171 => 139 | 0 => 0 | 53 => 134 | 37 => 40 | 5 => 5 | 173 => 142 | 212 => 152 | 51 => 115 | 20 => 20 | 213 => 153 | 46 => 116 | 232 => 128 | 233 => 158 | n => n, fun | 17 => 0 | 18 => 2 | 19 => 3 | n => n⟩
theorem Tryz.laysM171 : Go.Proofs.LaysM.n171 Tryz.prog Tryz.laysM171_ren := {
 mixed := by kernel_rfl
 f129 := Tryz.func93.trans (congrArg some (by kernel_rfl))
 f171 := Tryz.func64.trans (congrArg some (by kernel_rfl))
 f243 := Tryz.func68.trans (congrArg some (by kernel_rfl))
 f246 := Tryz.func76.trans (congrArg some (by kernel_rfl))
 f283 := Tryz.func83.trans (congrArg some (by kernel_rfl))
 f284 := Tryz.func84.trans (congrArg some (by kernel_rfl))
 f285 := Tryz.func85.trans (congrArg some (by kernel_rfl))
 f286 := Tryz.func86.trans (congrArg some (by kernel_rfl))
 f317 := Tryz.func92.trans (congrArg some (by kernel_rfl))
 f318 := Tryz.func94.trans (congrArg some (by kernel_rfl))
 f319 := Tryz.func95.trans (congrArg some (by kernel_rfl))
 f320 := Tryz.func96.trans (congrArg some (by kernel_rfl))
 f337 := Tryz.func101.trans (congrArg some (by kernel_rfl))
 f338 := Tryz.func102.trans (congrArg some (by kernel_rfl))
 t0 := Tryz.underlying0
 a0 := Tryz.isAgg0
 z0 := Tryz.sizeOf0
 v0 := Tryz.zeroValue0
 t2 := Tryz.underlying2
 a2 := Tryz.isAgg2
 z2 := Tryz.sizeOf2
 v2 := Tryz.zeroValue2
 t3 := Tryz.underlying3
 a3 := Tryz.isAgg3
 z3 := Tryz.sizeOf3
 v3 := Tryz.zeroValue3
 t4 := Tryz.underlying4
 a4 := Tryz.isAgg4
 z4 := Tryz.sizeOf4
 v4 := Tryz.zeroValue4
 t5 := Tryz.underlying5
 a5 := Tryz.isAgg5
 z5 := Tryz.sizeOf5
 v5 := Tryz.zeroValue5
 t9 := Tryz.underlying9
 a9 := Tryz.isAgg9
 z9 := Tryz.sizeOf9
 v9 := Tryz.zeroValue9
 t20 := Tryz.underlying20
 a20 := Tryz.isAgg20
 z20 := Tryz.sizeOf20
 v20 := Tryz.zeroValue20
 t37 := Tryz.underlying40
 a37 := Tryz.isAgg40
 z37 := Tryz.sizeOf40
 v37 := Tryz.zeroValue40
 t46 := Tryz.underlying116
 a46 := Tryz.isAgg116
 z46 := Tryz.sizeOf116
 v46 := Tryz.zeroValue116
 t51 := Tryz.underlying115
 a51 := Tryz.isAgg115
 z51 := Tryz.sizeOf115
 v51 := Tryz.zeroValue115
 t53 := Tryz.underlying134
 a53 := Tryz.isAgg134
 z53 := Tryz.sizeOf134
 v53 := Tryz.zeroValue134
 t171 := Tryz.underlying139
 a171 := Tryz.isAgg139
 z171 := Tryz.sizeOf139
 v171 := Tryz.zeroValue139
 t173 := Tryz.underlying142
 a173 := Tryz.isAgg142
 z173 := Tryz.sizeOf142
 v173 := Tryz.zeroValue142
 t212 := Tryz.underlying152
 a212 := Tryz.isAgg152
 z212 := Tryz.sizeOf152
 v212 := Tryz.zeroValue152
 t213 := Tryz.underlying153
 a213 := Tryz.isAgg153
 z213 := Tryz.sizeOf153
 t232 := Tryz.underlying128
 a232 := Tryz.isAgg128
 z232 := Tryz.sizeOf128
 v232 := Tryz.zeroValue128
 t233 := Tryz.underlying158
 a233 := Tryz.isAgg158
 z233 := Tryz.sizeOf158
 v233 := Tryz.zeroValue158
 g17 := by kernel_rfl
 g18 := by kernel_rfl
 g19 := by kernel_rfl
 i0 := by kernel_rfl
 i2 := by kernel_rfl
 i3 := by kernel_rfl
 i4 := by kernel_rfl
 i5 := by kernel_rfl
 i9 := by kernel_rfl
 i20 := by kernel_rfl
 i37 := by kernel_rfl
 i46 := by kernel_rfl
 i51 := by kernel_rfl
 i53 := by kernel_rfl
 i171 := by kernel_rfl
 i173 := by kernel_rfl
 i212 := by kernel_rfl
 i232 := by kernel_rfl
 i233 := by kernel_rfl
 m17 := by kernel_rfl
 m18 := by kernel_rfl
 m19 := by kernel_rfl }
open Go.RowKit Go.Sort Go.Lib in
theorem Tryz.strconv_Itoa (n : Int) (h0 : -9223372036854775808 ≤ n) (h1 : n ≤ 9223372036854775807) (w : World) (htab : Lib.TabIs Tryz.prog w "internal/strconv.uint64pow10" .u64 Lib.pow10Tab) :
  Calls Tryz.prog 64 #[.int .i64 n] w fun e w' => e = .returned (.string ⟨(Lib.itoa n).toArray⟩) ∧ ∃ k os, w' = grow (w.drewN k) os := Any.strconv_Itoa Tryz.laysM171 n h0 h1 w htab
def Tryz.lays105_ren : Go.Shelf.Ren := ⟨fun | 105 => 65 | 212 => 69 | 99 => 70 | 165 => 71 | 166 => 72 | 170 => 73 | 169 => 74 | 263 => 77 | 264 => 78 | 206 => 79 | 240 => 80 | 241 => 81 | 276 => 87 | 277 => 88 | n => n, fun | 9 => 9 | 3 => 3 | 4 => 4 | 20 => 20 | 0 => 0 | 46 => 116 | 109 => 117 | 5 => 5 | 72 => 122 | 76 => 125 | 51 => 115 | 146 => 132 | 53 => 134 | 148 => 135 | 70 => 120 | 37 => 40 | 75 => 124 | 127 => 137 | 164 => 144 | 80 => 127 | n => n, fun | n => n⟩
theorem Tryz.lays105 : Go.Proofs.Lays.n105 Tryz.prog Tryz.lays105_ren := {
 mixed := by kernel_rfl
 f99 := Tryz.func70.trans (congrArg some (by kernel_rfl))
 f105 := Tryz.func65.trans (congrArg some (by kernel_rfl))
 f165 := Tryz.func71.trans (congrArg some (by kernel_rfl))
 f166 := Tryz.func72.trans (congrArg some (by kernel_rfl))
 f169 := Tryz.func74.trans (congrArg some (by kernel_rfl))
 f170 := Tryz.func73.trans (congrArg some (by kernel_rfl))
 f206 := Tryz.func79.trans (congrArg some (by kernel_rfl))
 f212 := Tryz.func69.trans (congrArg some (by kernel_rfl))
 f240 := Tryz.func80.trans (congrArg some (by kernel_rfl))
 f241 := Tryz.func81.trans (congrArg some (by kernel_rfl))
 f263 := Tryz.func77.trans (congrArg some (by kernel_rfl))
 f264 := Tryz.func78.trans (congrArg some (by kernel_rfl))
 f276 := Tryz.func87.trans (congrArg some (by kernel_rfl))
 f277 := Tryz.func88.trans (congrArg some (by kernel_rfl))
 t0 := Tryz.underlying0
 a0 := Tryz.isAgg0
 z0 := Tryz.sizeOf0
 v0 := Tryz.zeroValue0
 t3 := Tryz.underlying3
 a3 := Tryz.isAgg3
 z3 := Tryz.sizeOf3
 v3 := Tryz.zeroValue3
 t4 := Tryz.underlying4
 a4 := Tryz.isAgg4
 z4 := Tryz.sizeOf4
 v4 := Tryz.zeroValue4
 t5 := Tryz.underlying5
 a5 := Tryz.isAgg5
 z5 := Tryz.sizeOf5
 v5 := Tryz.zeroValue5
 t9 := Tryz.underlying9
 a9 := Tryz.isAgg9
 z9 := Tryz.sizeOf9
 v9 := Tryz.zeroValue9
 t20 := Tryz.underlying20
 a20 := Tryz.isAgg20
 z20 := Tryz.sizeOf20
 v20 := Tryz.zeroValue20
 t37 := Tryz.underlying40
 a37 := Tryz.isAgg40
 z37 := Tryz.sizeOf40
 v37 := Tryz.zeroValue40
 t46 := Tryz.underlying116
 a46 := Tryz.isAgg116
 z46 := Tryz.sizeOf116
 v46 := Tryz.zeroValue116
 t51 := Tryz.underlying115
 a51 := Tryz.isAgg115
 z51 := Tryz.sizeOf115
 v51 := Tryz.zeroValue115
 t53 := Tryz.underlying134
 a53 := Tryz.isAgg134
 z53 := Tryz.sizeOf134
 v53 := Tryz.zeroValue134
 t70 := Tryz.underlying120
 a70 := Tryz.isAgg120
 z70 := Tryz.sizeOf120
 v70 := Tryz.zeroValue120
 t72 := Tryz.underlying122
 a72 := Tryz.isAgg122
 z72 := Tryz.sizeOf122
 v72 := Tryz.zeroValue122
 t75 := Tryz.underlying124
 a75 := Tryz.isAgg124
 z75 := Tryz.sizeOf124
 v75 := Tryz.zeroValue124
 t76 := Tryz.underlying125
 a76 := Tryz.isAgg125
 z76 := Tryz.sizeOf125
 v76 := Tryz.zeroValue125
 t109 := Tryz.underlying117
 a109 := Tryz.isAgg117
 z109 := Tryz.sizeOf117
 v109 := Tryz.zeroValue117
 t127 := Tryz.underlying137
 a127 := Tryz.isAgg137
 z127 := Tryz.sizeOf137
 v127 := Tryz.zeroValue137
 t146 := Tryz.underlying132
 a146 := Tryz.isAgg132
 z146 := Tryz.sizeOf132
 v146 := Tryz.zeroValue132
 t148 := Tryz.underlying135
 a148 := Tryz.isAgg135
 z148 := Tryz.sizeOf135
 v148 := Tryz.zeroValue135
 t164 := Tryz.underlying144
 a164 := Tryz.isAgg144
 z164 := Tryz.sizeOf144
 v164 := Tryz.zeroValue144 }
theorem Tryz.Builder_Extra_105 : Builder.Extra Tryz.prog Tryz.lays105_ren := {
 sizeBuilder := by kernel_rfl
 liesBuilder := by kernel_rfl
 t5 := Tryz.underlying5
 a5 := Tryz.isAgg5
 z5 := Tryz.sizeOf5
 v5 := Tryz.zeroValue5
 infoByte := by kernel_rfl
 cellsByte := by kernel_rfl
 sizeByte := by kernel_rfl
 neB5 := by decide }
open Go.RowKit Go.Lib in
theorem Tryz.strings_Repeat (s : ByteArray) (c : Nat) (w : World) (hc : c ≤ 9223372036854775807) (hlen : s.size * c ≤ 140737488355328) :
  Calls Tryz.prog 65 #[.string s, .int .i64 c] w fun e w' => e = .returned (.string ⟨(Lib.repeatL s.data.toList c).toArray⟩) ∧ Below w.heap.size w w' := Any.strings_Repeat Tryz.lays105 Tryz.Builder_Extra_105 s c w hc hlen
def Tryz.lays110_ren : Go.Shelf.Ren := ⟨fun | 110 => 60 | 109 => 67 | n => n, fun | 31 => 85 | 9 => 9 | 4 => 4 | 3 => 3 | 0 => 0 | n => n, fun | n => n⟩
theorem Tryz.lays110 : Go.Proofs.Lays.n110 Tryz.prog Tryz.lays110_ren := {
 mixed := by kernel_rfl
 f109 := Tryz.func67.trans (congrArg some (by kernel_rfl))
 f110 := Tryz.func60.trans (congrArg some (by kernel_rfl))
 t0 := Tryz.underlying0
 a0 := Tryz.isAgg0
 z0 := Tryz.sizeOf0
 v0 := Tryz.zeroValue0
 t3 := Tryz.underlying3
 a3 := Tryz.isAgg3
 z3 := Tryz.sizeOf3
 v3 := Tryz.zeroValue3
 t4 := Tryz.underlying4
 a4 := Tryz.isAgg4
 z4 := Tryz.sizeOf4
 v4 := Tryz.zeroValue4
 t9 := Tryz.underlying9
 a9 := Tryz.isAgg9
 z9 := Tryz.sizeOf9
 v9 := Tryz.zeroValue9
 t31 := Tryz.underlying85
 a31 := Tryz.isAgg85
 z31 := Tryz.sizeOf85
 v31 := Tryz.zeroValue85 }
open Go.Lib in
theorem Tryz.slices_Contains_string_empty (a : Option Addr) (c : Nat) (x : ByteArray) (w : World) :
  Calls Tryz.prog 60 #[.slice a 0 c, .string x] w fun e w' => e = .returned (.bool false) ∧ w' = w := Any.slices_Contains_string_empty Tryz.lays110 a c x w
end Go.Proofs
namespace Go.Proofs.YteijjfeainamdaaGreatDoor
open Go.RowKit
set_option linter.unusedSimpArgs false
set_option linter.unusedVariables false

theorem Tryz.in55 (w : World) (vs : Array Value) : (callFunc 55 vs).run Tryz.prog w = .ok (.enter 55 vs) w := by kernel_rfl
theorem Tryz.in64 (w : World) (vs : Array Value) : (callFunc 64 vs).run Tryz.prog w = .ok (.enter 64 vs) w := by kernel_rfl
theorem Tryz.in65 (w : World) (vs : Array Value) : (callFunc 65 vs).run Tryz.prog w = .ok (.enter 65 vs) w := by kernel_rfl
theorem Tryz.in26 (w : World) (vs : Array Value) : (callFunc 26 vs).run Tryz.prog w = .ok (.enter 26 vs) w := by kernel_rfl
theorem Tryz.in14 (w : World) (vs : Array Value) : (callFunc 14 vs).run Tryz.prog w = .ok (.enter 14 vs) w := by kernel_rfl
def Tab (w : World) : Prop := Lib.TabIs Tryz.prog w "internal/strconv.uint64pow10" .u64 Lib.pow10Tab
theorem Tryz.gPow : Tryz.prog.globalNamed "internal/strconv.uint64pow10" = some 0 := by kernel_rfl
theorem Tab.below {w w' : World} {B : Nat} (h : Tab w) (hb : Below B w w') (h0 : 0 < B) : Tab w' := var?_below hb Tryz.gPow h0 h
def nmS (k : Nat) : ByteArray := (⟨#[106]⟩ ++ ⟨(Lib.repeatL [48] (4 - (Lib.decDigits k).length)).toArray⟩) ++ ⟨(Lib.decDigits k).toArray⟩
theorem nmS_0 : nmS 0 = ⟨#[106, 48, 48, 48, 48]⟩ := by
 unfold nmS
 rw [Lib.decDigits_one (by decide)]
 rfl
theorem dig_len {k : Nat} (h : k < 10000) : 1 ≤ (Lib.decDigits k).length ∧ (Lib.decDigits k).length ≤ 4 := by
 rw [Lib.decDigits]
 split
 ·simp
 ·rw [List.length_append, Lib.decDigits]
  split
  ·simp
  ·rw [List.length_append, Lib.decDigits]
   split
   ·simp
   ·rw [List.length_append, Lib.decDigits, dif_pos (by omega)]
    simp
theorem dig_size (k : Nat) : (⟨(Lib.decDigits k).toArray⟩ : ByteArray).size = (Lib.decDigits k).length := by simp [ByteArray.size]
theorem below_grow (w : World) (q : Nat) (os : Array Obj) : Below w.heap.size w (Go.Sort.grow (w.drewN q) os) where
 os := rfl
 tape := rfl
 output := rfl
 size := by simp [Go.Sort.grow]
 block i hi := by simp [Go.Sort.grow, Array.getElem?_append, hi]
set_option maxRecDepth 8000 in
theorem name_any (k : Nat) (hk : k < 10000) (w : World) (hT : Tab w) : Calls Tryz.prog 55 #[.int .i64 (k : Int)] w fun e w' => e = .returned (.string (nmS k)) ∧ Below w.heap.size w w' := by
 have HT := Keep.mk hT
 clear hT
 go_enter Tryz.func55, Tryz.ntmps55
 refine wp_seq_k fun K1 hK1 => rgn ?_
 refine VlS (.string { data := #[] }) ?_
 refine WL.nil (hK1 _ _ ?_)
 refine wp_seq_k fun K2 hK2 => rgn ?_
 refine VlS (.int .i64 (k : Int)) ?_
 refine WL.callF (by kernel_rfl) 64 _ _ rfl Tryz.in64 #[.int .i64 (k : Int)] (by simp [Act.eval]) ?_
 refine (Tryz.strconv_Itoa (k : Int) (by omega) (by omega) w HT.out).mono ?_
 rintro e w1 ⟨rfl, q, os, rfl⟩
 refine ⟨_, rfl, ?_⟩
 rw [Lib.itoa_nonneg]
 have B1 : Keep (Below w.heap.size w (Go.Sort.grow (w.drewN q) os)) := ⟨below_grow w q os⟩
 generalize Go.Sort.grow (w.drewN q) os = w1 at *
 obtain ⟨dg, hdg⟩ : ∃ s : ByteArray, Keep (s = ⟨(Lib.decDigits k).toArray⟩) := ⟨_, ⟨rfl⟩⟩
 rw [← hdg.out]
 have hsz : dg.size = (Lib.decDigits k).length := by rw [hdg.out]; exact dig_size k
 have hdl := dig_len hk
 obtain ⟨d, hd⟩ : ∃ d : Nat, Keep (d = (Lib.decDigits k).length) := ⟨_, ⟨rfl⟩⟩
 rw [← hd.out] at hsz hdl
 obtain ⟨z, hz⟩ : ∃ z : Nat, Keep (z = 4 - d) := ⟨_, ⟨rfl⟩⟩
 have hsub : IntKind.i64.wrap (4 - (d : Int)) = (z : Int) := by rw [IntKind.wrap_i64]; have := hz.out; omega
 have hsub2 : IntKind.i64.wrap (4 - (dg.size : Int)) = (z : Int) := by rw [hsz]; exact hsub
 simp only [Act.put, pqA, pqB, pqC]
 refine VlS (.string dg) ?_
 refine WL.nil (hK2 _ _ ?_)
 refine wp_seq_k fun K3 hK3 => rgn ?_
 refine VlS (.string dg) ?_
 refine VlS (.int .i64 (d : Int)) ?_
 refine VlS (.int .i64 (z : Int)) ?_
 have HSZ := Keep.mk hsz
 clear hsub hsub2 hsz
 refine WL.callF (by kernel_rfl) 65 _ _ rfl Tryz.in65 #[.string ⟨#[48]⟩, .int .i64 (z : Int)] (by simp [Act.eval]) ?_
 refine (Tryz.strings_Repeat ⟨#[48]⟩ z w1 (by have := hz.out; omega) (by have := hz.out; show 1 * z ≤ _; omega)).mono ?_
 rintro e w2 ⟨rfl, hb2⟩
 refine ⟨_, rfl, ?_⟩
 have B2 : Keep (Below w.heap.size w w2) := ⟨B1.out.trans (hb2.mono B1.out.size)⟩
 obtain ⟨zs, hzs⟩ : ∃ s : ByteArray, Keep (s = ⟨(Lib.repeatL [48] z).toArray⟩) := ⟨_, ⟨rfl⟩⟩
 change WL _ _ _ _ (Act.put _ _ (.string ⟨(Lib.repeatL [48] z).toArray⟩)) _
 rw [← hzs.out]
 have hzl : zs.size = z := by rw [hzs.out]; simp [ByteArray.size, Lib.repeatL_length]
 have hc1 : 1 + zs.size ≤ 9223372036854775807 := by have := hz.out; omega
 have hc2 : 1 + zs.size + dg.size ≤ 9223372036854775807 := by have := hz.out; have := HSZ.out; omega
 clear hzl
 simp only [Act.put, pqA, pqB, pqC]
 refine VlS (.string (⟨#[106]⟩ ++ zs)) ?_
 refine VlS (.string dg) ?_
 refine VlS (.string ((⟨#[106]⟩ ++ zs) ++ dg)) ?_
 refine VlS (.string ((⟨#[106]⟩ ++ zs) ++ dg)) ?_
 refine WL.nil (hK3 _ _ ?_)
 refine wp_ret ?_
 go_ret
 refine ⟨?_, B2.out⟩
 unfold nmS
 rw [hzs.out, hz.out, hd.out, hdg.out]
 rfl
theorem st_built (r : Int) : Tryz.prog.built 71 [(1, .int .i64 r), (3, .int .i64 (-1))] = some (stA (.slice none 0 0) ⟨[], r, 0, -1, false, 0⟩) := by kernel_rfl
set_option maxRecDepth 8000 in
theorem dnew_any (r : Int) (w : World) : Calls Tryz.prog 14 #[.int .i64 r] w fun e w' => ∃ ps pd ph, e = .returned (.tuple #[ptr pd, ptr ph]) ∧ DskAt w' ps (.slice none 0 0) [] ⟨[], max 0 r, 0, -1, false, 0⟩ ∧ Blk w' pd 67 #[ptr ps] ∧ Blk w' ph 73 #[ptr ps] ∧ w.heap.size ≤ ps ∧ w.heap.size ≤ pd ∧ w.heap.size ≤ ph ∧ Below w.heap.size w w' := by
 go_enter Tryz.func14, Tryz.ntmps14
 refine wp_seq_k fun K1 hK1 => rgn ?_
 refine VlS (.pointer none) ?_
 refine VlS (.pointer none) ?_
 refine WL.nil (hK1 _ _ ?_)
 refine wp_seq_k fun K2 hK2 => rgn ?_
 refine VlS (.int .i64 r) ?_
 refine VlS (.int .i64 (max 0 r)) ?_
 refine WL.bld (by kernel_rfl) 71 _ rfl [(1, .int .i64 (max 0 r)), (3, .int .i64 (-1))] (by simp [Act.eval]) _ (st_built _) ?_
 simp only [Act.put, pqA, pqB, pqC]
 refine WL.box (by kernel_rfl) 71 (.tmp 7) rfl _ rfl ?_
 have HS := Keep.mk (Blk.new w 71 (stA (.slice none 0 0) ⟨[], max 0 r, 0, -1, false, 0⟩))
 have B1 := Keep.mk (below_new w (.cells (stA (.slice none 0 0) ⟨[], max 0 r, 0, -1, false, 0⟩) 71))
 generalize w.alloc (.cells (stA (.slice none 0 0) ⟨[], max 0 r, 0, -1, false, 0⟩) 71) = w1 at *
 obtain ⟨ps, hps⟩ : ∃ g, Keep (g = w.heap.size) := ⟨_, ⟨rfl⟩⟩
 rw [← hps.out] at HS ⊢
 simp only [Act.put, pqA, pqB, pqC]
 refine VlS (.pointer (some ⟨ps, 0, none⟩)) ?_
 refine WL.nil (hK2 _ _ ?_)
 refine wp_seq_k fun K3 hK3 => rgn ?_
 refine VlS (.pointer (some ⟨ps, 0, none⟩)) ?_
 refine WL.bld (by kernel_rfl) 67 _ rfl [(0, ptr ps)] (by simp [Act.eval]) #[ptr ps] (by kernel_rfl) ?_
 simp only [Act.put, pqA, pqB, pqC]
 refine WL.box (by kernel_rfl) 67 (.tmp 10) rfl _ rfl ?_
 have HK := Keep.mk (Blk.new w1 67 #[ptr ps])
 have HS2 := Keep.mk (HS.out.alloc (.cells #[ptr ps] 67))
 have B2 : Keep (Below w.heap.size w (w1.alloc (.cells #[ptr ps] 67))) := ⟨B1.out.trans ((below_new w1 _).mono B1.out.size)⟩
 generalize w1.alloc (.cells #[ptr ps] 67) = w2 at *
 obtain ⟨pd, hpd⟩ : ∃ g, Keep (g = w1.heap.size) := ⟨_, ⟨rfl⟩⟩
 rw [← hpd.out] at HK ⊢
 simp only [Act.put, pqA, pqB, pqC]
 refine VlS (.pointer (some ⟨ps, 0, none⟩)) ?_
 refine WL.bld (by kernel_rfl) 73 _ rfl [(0, ptr ps)] (by simp [Act.eval]) #[ptr ps] (by kernel_rfl) ?_
 simp only [Act.put, pqA, pqB, pqC]
 refine WL.box (by kernel_rfl) 73 (.tmp 13) rfl _ rfl ?_
 have HH := Keep.mk (Blk.new w2 73 #[ptr ps])
 have HS3 := Keep.mk (HS2.out.alloc (.cells #[ptr ps] 73))
 have HK3 := Keep.mk (HK.out.alloc (.cells #[ptr ps] 73))
 have B3 : Keep (Below w.heap.size w (w2.alloc (.cells #[ptr ps] 73))) := ⟨B2.out.trans ((below_new w2 _).mono B2.out.size)⟩
 generalize w2.alloc (.cells #[ptr ps] 73) = w3 at *
 obtain ⟨ph, hph⟩ : ∃ g, Keep (g = w2.heap.size) := ⟨_, ⟨rfl⟩⟩
 rw [← hph.out] at HH ⊢
 simp only [Act.put, pqA, pqB, pqC]
 refine VlS (.pointer (some ⟨pd, 0, none⟩)) ?_
 refine VlS (.pointer (some ⟨ph, 0, none⟩)) ?_
 refine WL.nil (hK3 _ _ ?_)
 refine wp_ret ?_
 go_ret2
 exact ⟨ps, pd, ph, rfl, ⟨HS3.out, ownF_nil _, FcsAt.nil _⟩, HK3.out, HH.out, by rw [hps.out]; exact Nat.le_refl _, by rw [hpd.out]; exact B1.out.size, by rw [hph.out]; exact B2.out.size, B3.out⟩
theorem Tryz.in30 (w : World) (vs : Array Value) : (callFunc 30 vs).run Tryz.prog w = .ok (.enter 30 vs) w := by kernel_rfl
def okC (c : Int) : Bool := (decide (97 ≤ c) && decide (c ≤ 122)) || (decide (48 ≤ c) && decide (c ≤ 57)) || decide (c = 46)
def rgt (n : ByteArray) : Bool := decide (1 ≤ n.size) && decide (n.size ≤ 32) && (lst n).all okC
theorem lst_at (n : ByteArray) (i : Nat) (h : i < n.size) : ((n[i]'h).toNat : Int) = (lst n).getD i 0 := by
 simp [lst, List.getD_eq_getElem?_getD, ByteArray.getElem_eq_getElem_data, h, show i < n.data.size from h]
set_option maxRecDepth 8000 in
set_option maxHeartbeats 2000000 in
theorem right_any (n : ByteArray) (w : World) : Calls Tryz.prog 26 #[.string n] w fun e w' => e = .returned (.bool (rgt n)) ∧ w' = w := by
 go_enter Tryz.func26, Tryz.ntmps26
 refine wp_seq_k fun K1 hK1 => rgn ?_
 refine VbF ?_
 refine WL.nil (hK1 _ _ ?_)
 refine wp_seq_k fun K2 hK2 => ?_
 refine wp_seq_k fun K3 hK3 => rgn ?_
 refine VlS (.string n) ?_
 refine VlS (.int .i64 (n.size : Int)) ?_
 by_cases h1_2 : n.size < 1
 ·have hs1 : (n.size : Int) < 1 := by omega
  refine VbT ?_
  refine VbT ?_
  refine SkS ?_
  refine SkS ?_
  refine SkS ?_
  refine VbT ?_
  refine WL.nil (hK3 _ _ ?_)
  refine wp_cond_true rfl ?_
  refine wp_seq_k fun K4 hK4 => rgn ?_
  refine VbF ?_
  refine WL.nil (hK4 _ _ ?_)
  refine wp_ret ?_
  go_ret
  unfold rgt
  first | (rw [decide_eq_false (by omega : ¬ 1 ≤ n.size)]; exact ⟨rfl, rfl⟩) | (rw [decide_eq_false (by omega : ¬ n.size ≤ 32), Bool.and_false]; exact ⟨rfl, rfl⟩)
 ·have hs1 : ¬ (n.size : Int) < 1 := by omega
  refine VbF ?_
  refine VbF ?_
  refine VlS (.string n) ?_
  refine VlS (.int .i64 (n.size : Int)) ?_
  by_cases h1_6 : 32 < n.size
  ·have hs2 : (32 : Int) < (n.size : Int) := by omega
   refine VbT ?_
   refine VbT ?_
   refine WL.nil (hK3 _ _ ?_)
   refine wp_cond_true rfl ?_
   refine wp_seq_k fun K5 hK5 => rgn ?_
   refine VbF ?_
   refine WL.nil (hK5 _ _ ?_)
   refine wp_ret ?_
   go_ret
   unfold rgt
   first | (rw [decide_eq_false (by omega : ¬ 1 ≤ n.size)]; exact ⟨rfl, rfl⟩) | (rw [decide_eq_false (by omega : ¬ n.size ≤ 32), Bool.and_false]; exact ⟨rfl, rfl⟩)
  ·have hs2 : ¬ (32 : Int) < (n.size : Int) := by omega
   refine VbF ?_
   refine VbF ?_
   refine WL.nil (hK3 _ _ ?_)
   refine wp_cond_false rfl ?_
   refine wp_skip ?_
   refine hK2 _ _ ?_
   refine wp_seq_k fun K6 hK6 => ?_
   refine wp_seq_k fun K7 hK7 => rgn ?_
   refine VlS (.int .i64 0) ?_
   refine WL.nil (hK7 _ _ ?_)
   refine wp_block ?_
   refine wp_loop (fun ac wr => ∃ (t : Nat), ac = apF (fun f => { tmps := #[.string n, undef, f 2, .int .i64 (t : Int), f 4, .string n, .int .i64 (n.size : Int), .bool false, .bool false, .string n, .int .i64 (n.size : Int), .bool false, .bool false, f 13, f 14, f 15, f 16, f 17, f 18, f 19, f 20, f 21, f 22, f 23, f 24, f 25, f 26, f 27, f 28, f 29, f 30, f 31, f 32, f 33, f 34, f 35, f 36, f 37, f 38, f 39], defers := [] }) ac ∧ t ≤ n.size ∧ wr = w ∧ (lst n).all okC = ((lst n).drop t).all okC) (fun a _ => n.size - (intOf (a.tmps.getD 3 undef)).toNat) ⟨0, rfl, by omega, rfl, rfl⟩ ?_
   rintro ac wr ⟨t, hac, ht, rfl, hA⟩
   obtain ⟨f, rfl⟩ := unF hac
   have JA := Keep.mk hA
   clear hA
   by_cases hlt : t < n.size
   ·have hlt' : (t : Int) < (n.size : Int) := by omega
    have hwt : IntKind.i64.wrap ((t : Int) + 1) = (t : Int) + 1 := by rw [IntKind.wrap_i64]; omega
    obtain ⟨c, hc⟩ : ∃ c, Keep (c = (lst n).getD t 0) := ⟨_, ⟨rfl⟩⟩
    have hcv : ((n[t]'hlt).toNat : Int) = c := by rw [hc.out]; exact lst_at n t hlt
    have hnx : Keep (((lst n).drop t).all okC = (okC c && ((lst n).drop (t + 1)).all okC)) := ⟨by rw [List.drop_eq_getElem_cons (by rw [lst_len]; exact hlt), List.all_cons, hc.out, List.getD_eq_getElem?_getD, List.getElem?_eq_getElem (by rw [lst_len]; exact hlt)]; rfl⟩
    refine wp_seq_k fun K8 hK8 => ?_
    refine wp_seq_k fun K9 hK9 => rgn ?_
    refine VlS (.int .i64 (t : Int)) ?_
    refine VlS (.string n) ?_
    refine VlS (.int .i64 (n.size : Int)) ?_
    refine VbT ?_
    refine WL.nil (hK9 _ _ ?_)
    refine wp_cond_true rfl ?_
    refine wp_skip ?_
    refine hK8 _ _ ?_
    refine wp_seq_k fun K10 hK10 => ?_
    refine wp_block ?_
    refine wp_seq_k fun K11 hK11 => rgn ?_
    refine VlS (.string n) ?_
    refine VlS (.int .i64 (t : Int)) ?_
    refine VlS (.int .u8 c) ?_
    refine VlS (.int .u8 c) ?_
    refine WL.nil (hK11 _ _ ?_)
    refine wp_seq_k fun K12 hK12 => rgn ?_
    refine VlS (.int .u8 c) ?_
    by_cases h7_1 : c < 97
    ·skip
     refine VbT ?_
     refine VbT ?_
     refine SkS ?_
     refine SkS ?_
     refine VbT ?_
     refine VbT ?_
     refine VlS (.int .u8 c) ?_
     by_cases h7_8 : c < 48
     ·skip
      refine VbT ?_
      refine VbT ?_
      refine SkS ?_
      refine SkS ?_
      refine VbT ?_
      refine VbT ?_
      refine VbT ?_
      refine VlS (.int .u8 c) ?_
      by_cases h7_16 : c = 46
      ·skip
       refine VbF ?_
       refine VbF ?_
       refine WL.nil (hK12 _ _ ?_)
       refine wp_cond_false rfl ?_
       refine wp_skip ?_
       refine hK10 _ _ ?_
       refine rgn ?_
       refine VlS (.int .i64 (t : Int)) ?_
       refine VlS (.int .i64 ((t : Int) + 1)) ?_
       refine VlS (.int .i64 ((t : Int) + 1)) ?_
       refine WL.nil ?_
       have hk : okC c = true := by unfold okC; simp; omega
       have h := JA.out
       rw [hnx.out, hk, Bool.true_and] at h
       refine ⟨⟨t + 1, rfl, by omega, rfl, h⟩, ?_⟩
       simp only [intOf]; show n.size - ((t : Int) + 1).toNat < n.size - ((t : Int)).toNat; omega
      ·skip
       refine VbT ?_
       refine VbT ?_
       refine WL.nil (hK12 _ _ ?_)
       refine wp_cond_true rfl ?_
       refine wp_seq_k fun K13 hK13 => rgn ?_
       refine VbF ?_
       refine WL.nil (hK13 _ _ ?_)
       refine wp_ret ?_
       go_ret
       have hk : okC c = false := by unfold okC; simp; omega
       have h := JA.out
       rw [hnx.out, hk, Bool.false_and] at h
       unfold rgt
       rw [h, Bool.and_false]
       exact ⟨rfl, rfl⟩
     ·skip
      refine VbF ?_
      refine VbF ?_
      refine VlS (.int .u8 c) ?_
      by_cases h7_11 : 57 < c
      ·skip
       refine VbT ?_
       refine VbT ?_
       refine VbT ?_
       refine VbT ?_
       refine VlS (.int .u8 c) ?_
       by_cases h7_16 : c = 46
       ·skip
        refine VbF ?_
        refine VbF ?_
        refine WL.nil (hK12 _ _ ?_)
        refine wp_cond_false rfl ?_
        refine wp_skip ?_
        refine hK10 _ _ ?_
        refine rgn ?_
        refine VlS (.int .i64 (t : Int)) ?_
        refine VlS (.int .i64 ((t : Int) + 1)) ?_
        refine VlS (.int .i64 ((t : Int) + 1)) ?_
        refine WL.nil ?_
        have hk : okC c = true := by unfold okC; simp; omega
        have h := JA.out
        rw [hnx.out, hk, Bool.true_and] at h
        refine ⟨⟨t + 1, rfl, by omega, rfl, h⟩, ?_⟩
        simp only [intOf]; show n.size - ((t : Int) + 1).toNat < n.size - ((t : Int)).toNat; omega
       ·skip
        refine VbT ?_
        refine VbT ?_
        refine WL.nil (hK12 _ _ ?_)
        refine wp_cond_true rfl ?_
        refine wp_seq_k fun K14 hK14 => rgn ?_
        refine VbF ?_
        refine WL.nil (hK14 _ _ ?_)
        refine wp_ret ?_
        go_ret
        have hk : okC c = false := by unfold okC; simp; omega
        have h := JA.out
        rw [hnx.out, hk, Bool.false_and] at h
        unfold rgt
        rw [h, Bool.and_false]
        exact ⟨rfl, rfl⟩
      ·skip
       refine VbF ?_
       refine VbF ?_
       refine VbF ?_
       refine VbF ?_
       refine SkS ?_
       refine SkS ?_
       refine VbF ?_
       refine WL.nil (hK12 _ _ ?_)
       refine wp_cond_false rfl ?_
       refine wp_skip ?_
       refine hK10 _ _ ?_
       refine rgn ?_
       refine VlS (.int .i64 (t : Int)) ?_
       refine VlS (.int .i64 ((t : Int) + 1)) ?_
       refine VlS (.int .i64 ((t : Int) + 1)) ?_
       refine WL.nil ?_
       have hk : okC c = true := by unfold okC; simp; omega
       have h := JA.out
       rw [hnx.out, hk, Bool.true_and] at h
       refine ⟨⟨t + 1, rfl, by omega, rfl, h⟩, ?_⟩
       simp only [intOf]; show n.size - ((t : Int) + 1).toNat < n.size - ((t : Int)).toNat; omega
    ·skip
     refine VbF ?_
     refine VbF ?_
     refine VlS (.int .u8 c) ?_
     by_cases h7_4 : 122 < c
     ·skip
      refine VbT ?_
      refine VbT ?_
      refine VbT ?_
      refine VlS (.int .u8 c) ?_
      by_cases h7_8 : c < 48
      ·skip
       refine VbT ?_
       refine VbT ?_
       refine SkS ?_
       refine SkS ?_
       refine VbT ?_
       refine VbT ?_
       refine VbT ?_
       refine VlS (.int .u8 c) ?_
       by_cases h7_16 : c = 46
       ·skip
        refine VbF ?_
        refine VbF ?_
        refine WL.nil (hK12 _ _ ?_)
        refine wp_cond_false rfl ?_
        refine wp_skip ?_
        refine hK10 _ _ ?_
        refine rgn ?_
        refine VlS (.int .i64 (t : Int)) ?_
        refine VlS (.int .i64 ((t : Int) + 1)) ?_
        refine VlS (.int .i64 ((t : Int) + 1)) ?_
        refine WL.nil ?_
        have hk : okC c = true := by unfold okC; simp; omega
        have h := JA.out
        rw [hnx.out, hk, Bool.true_and] at h
        refine ⟨⟨t + 1, rfl, by omega, rfl, h⟩, ?_⟩
        simp only [intOf]; show n.size - ((t : Int) + 1).toNat < n.size - ((t : Int)).toNat; omega
       ·skip
        refine VbT ?_
        refine VbT ?_
        refine WL.nil (hK12 _ _ ?_)
        refine wp_cond_true rfl ?_
        refine wp_seq_k fun K15 hK15 => rgn ?_
        refine VbF ?_
        refine WL.nil (hK15 _ _ ?_)
        refine wp_ret ?_
        go_ret
        have hk : okC c = false := by unfold okC; simp; omega
        have h := JA.out
        rw [hnx.out, hk, Bool.false_and] at h
        unfold rgt
        rw [h, Bool.and_false]
        exact ⟨rfl, rfl⟩
      ·skip
       refine VbF ?_
       refine VbF ?_
       refine VlS (.int .u8 c) ?_
       by_cases h7_11 : 57 < c
       ·skip
        refine VbT ?_
        refine VbT ?_
        refine VbT ?_
        refine VbT ?_
        refine VlS (.int .u8 c) ?_
        by_cases h7_16 : c = 46
        ·skip
         refine VbF ?_
         refine VbF ?_
         refine WL.nil (hK12 _ _ ?_)
         refine wp_cond_false rfl ?_
         refine wp_skip ?_
         refine hK10 _ _ ?_
         refine rgn ?_
         refine VlS (.int .i64 (t : Int)) ?_
         refine VlS (.int .i64 ((t : Int) + 1)) ?_
         refine VlS (.int .i64 ((t : Int) + 1)) ?_
         refine WL.nil ?_
         have hk : okC c = true := by unfold okC; simp; omega
         have h := JA.out
         rw [hnx.out, hk, Bool.true_and] at h
         refine ⟨⟨t + 1, rfl, by omega, rfl, h⟩, ?_⟩
         simp only [intOf]; show n.size - ((t : Int) + 1).toNat < n.size - ((t : Int)).toNat; omega
        ·skip
         refine VbT ?_
         refine VbT ?_
         refine WL.nil (hK12 _ _ ?_)
         refine wp_cond_true rfl ?_
         refine wp_seq_k fun K16 hK16 => rgn ?_
         refine VbF ?_
         refine WL.nil (hK16 _ _ ?_)
         refine wp_ret ?_
         go_ret
         have hk : okC c = false := by unfold okC; simp; omega
         have h := JA.out
         rw [hnx.out, hk, Bool.false_and] at h
         unfold rgt
         rw [h, Bool.and_false]
         exact ⟨rfl, rfl⟩
       ·skip
        refine VbF ?_
        refine VbF ?_
        refine VbF ?_
        refine VbF ?_
        refine SkS ?_
        refine SkS ?_
        refine VbF ?_
        refine WL.nil (hK12 _ _ ?_)
        refine wp_cond_false rfl ?_
        refine wp_skip ?_
        refine hK10 _ _ ?_
        refine rgn ?_
        refine VlS (.int .i64 (t : Int)) ?_
        refine VlS (.int .i64 ((t : Int) + 1)) ?_
        refine VlS (.int .i64 ((t : Int) + 1)) ?_
        refine WL.nil ?_
        have hk : okC c = true := by unfold okC; simp; omega
        have h := JA.out
        rw [hnx.out, hk, Bool.true_and] at h
        refine ⟨⟨t + 1, rfl, by omega, rfl, h⟩, ?_⟩
        simp only [intOf]; show n.size - ((t : Int) + 1).toNat < n.size - ((t : Int)).toNat; omega
     ·skip
      refine VbF ?_
      refine VbF ?_
      refine VbF ?_
      refine SkS ?_
      refine SkS ?_
      refine SkS ?_
      refine SkS ?_
      refine SkS ?_
      refine SkS ?_
      refine VbF ?_
      refine VbF ?_
      refine SkS ?_
      refine SkS ?_
      refine VbF ?_
      refine WL.nil (hK12 _ _ ?_)
      refine wp_cond_false rfl ?_
      refine wp_skip ?_
      refine hK10 _ _ ?_
      refine rgn ?_
      refine VlS (.int .i64 (t : Int)) ?_
      refine VlS (.int .i64 ((t : Int) + 1)) ?_
      refine VlS (.int .i64 ((t : Int) + 1)) ?_
      refine WL.nil ?_
      have hk : okC c = true := by unfold okC; simp; omega
      have h := JA.out
      rw [hnx.out, hk, Bool.true_and] at h
      refine ⟨⟨t + 1, rfl, by omega, rfl, h⟩, ?_⟩
      simp only [intOf]; show n.size - ((t : Int) + 1).toNat < n.size - ((t : Int)).toNat; omega
   ·have hlt' : ¬ (t : Int) < (n.size : Int) := by omega
    refine wp_seq_k fun K17 hK17 => ?_
    refine wp_seq_k fun K18 hK18 => rgn ?_
    refine VlS (.int .i64 (t : Int)) ?_
    refine VlS (.string n) ?_
    refine VlS (.int .i64 (n.size : Int)) ?_
    refine VbF ?_
    refine WL.nil (hK18 _ _ ?_)
    refine wp_cond_false rfl ?_
    refine wp_exit ?_
    refine hK6 _ _ ?_
    refine wp_seq_k fun K19 hK19 => rgn ?_
    refine VbT ?_
    refine WL.nil (hK19 _ _ ?_)
    refine wp_ret ?_
    go_ret
    have h := JA.out
    rw [List.drop_eq_nil_of_le (by rw [lst_len]; omega)] at h
    unfold rgt
    rw [h, decide_eq_true (by omega), decide_eq_true (by omega)]
    exact ⟨rfl, rfl⟩
def PF.sync (f : PF) : PF := { f with sf := (f.bs.length : Int) }
def DV.sync (D : DV) (i : Nat) : DV := { D with fs := D.fs.modify i PF.sync }
theorem FcsAt.sync {w w' : World} {cs : List FC} {fs : List PF} (h : FcsAt w cs fs) {i : Nat} {x : FC} {f : PF} (hx : cs[i]? = some x) (hf : fs[i]? = some f) (hg : ∀ y l, Own w y l → Own w' y l) : FcsAt w' (cs.set i { x with sf := (f.bs.length : Int) }) (fs.modify i PF.sync) := by
 have hi := (List.getElem?_eq_some_iff.1 hx).1
 refine ⟨by rw [List.length_set, List.length_modify]; exact h.len, fun j y g hy hg' => ?_, fun j k y z hy hz hne b hb => ?_⟩
 ·rw [List.getElem?_modify] at hg'
  by_cases hij : i = j
  ·subst hij
   rw [List.getElem?_set_self hi] at hy
   rw [hf] at hg'
   simp at hy hg'
   subst hy hg'
   have := h.each i x f hx hf
   exact ⟨this.1, rfl, hg _ _ this.2.2⟩
  ·rw [List.getElem?_set_ne hij] at hy
   simp only [if_neg hij] at hg'
   simp at hg'
   have := h.each j y g hy hg'
   exact ⟨this.1, this.2.1, hg _ _ this.2.2⟩
 ·have hs : ∀ (m : Nat) (u : FC), (cs.set i { x with sf := (f.bs.length : Int) })[m]? = some u → ∃ u', cs[m]? = some u' ∧ u'.b = u.b := fun m u hu => by
   by_cases hm : i = m
   ·subst hm
    rw [List.getElem?_set_self hi] at hu
    simp at hu
    exact ⟨x, hx, by rw [← hu]⟩
   ·rw [List.getElem?_set_ne hm] at hu
    exact ⟨u, hu, rfl⟩
  obtain ⟨y', h1, h2⟩ := hs j y hy
  obtain ⟨z', h3, h4⟩ := hs k z hz
  rw [← h4]
  exact h.apart j k y' z' h1 h3 hne b (by rw [h2]; exact hb)
theorem fnd_at (n : ByteArray) : ∀ (l : List PF) (i : Nat), (fnd n l i).2 = true → ∃ j f, (fnd n l i).1 = i + j ∧ l[j]? = some f
 | [], i, h => by simp [fnd] at h
 | f :: r, i, h => by
  unfold fnd at h ⊢
  split at h
  ·rename_i hc
   rw [if_pos hc]
   obtain ⟨j, g, h1, h2⟩ := fnd_at n r (i + 1) h
   exact ⟨j + 1, g, by rw [h1]; omega, by simpa using h2⟩
  ·rename_i hc
   rw [if_neg hc]
   exact ⟨0, f, rfl, rfl⟩
theorem OwnF.cells {w : World} {g n c : Nat} {l : List FC} (h : OwnF w (.slice (some ⟨g, 0, none⟩) n c) l) {j : Nat} {u : Value} (hj : (fL l)[j]? = some u) : w.cell? ⟨g, j, none⟩ = some u := by
 rcases h.form with ⟨e, _⟩ | ⟨g', cap, cur, e, hb, h3, h4, h5, h6⟩
 ·cases e
 ·injection e with e1 e2 e3
  injection e1 with e1
  injection e1 with e1
  subst e1 e2 e3
  rw [hb.cell]
  rw [← h6, List.getElem?_take] at hj
  split at hj
  ·rw [← hj]; simp
  ·cases hj
def SrcF (w : World) (v : Value) (m : List FC) : Prop :=
 (v = .slice none 0 0 ∧ m = []) ∨ ∃ g off c, v = .slice (some ⟨g, off, none⟩) m.length c ∧ ∀ j u, (fL m)[j]? = some u → w.cell? ⟨g, off + j, none⟩ = some u
theorem Tryz.elemFs : Tryz.prog.elem 22 = 49 := by kernel_rfl
theorem Tryz.sizeOfF (w : World) : (sizeOf 49).run Tryz.prog w = .ok 3 w := by kernel_rfl
theorem slF_hi {w : World} {a : Option Addr} {n c : Nat} {l : List FC} (h : OwnF w (.slice a n c) l) (i : Nat) (hi : i ≤ l.length) : ∃ vs, (∀ wx : World, (Instr.sliceAt 22 (.slice a n c) none (some (.int .i64 (i : Int))) none).run Tryz.prog wx = .ok vs wx) ∧ ∀ wx, OwnF wx (.slice a n c) l → SrcF wx vs (l.take i) := by
 have hu : Tryz.prog.underlying 22 = some (.slice (Tryz.prog.elem 22)) := by rw [Tryz.elemFs]; exact Tryz.underlying22
 have hc : i ≤ c := by
  rcases h.form with ⟨e, hl⟩ | ⟨g', cap, cur, e, hb, h3, h4, h5, h6⟩
  ·subst hl; simp at hi; omega
  ·injection e with e1 e2 e3; subst e3; omega
 refine ⟨sliced a 0 i c 3, fun wx => ?_, fun wx hx => ?_⟩
 ·have h1 := run_slice_h (P := Tryz.prog) (w := wx) 22 a n c hu .i64 (i : Int) (by omega) (by omega)
  rw [run_sliceAt_slice (P := Tryz.prog) (w := wx) 22 (.slice a n c) none (some (.int .i64 (i : Int))) none hu, h1, Tryz.elemFs]
  refine (congrArg (fun z => Result.andThen z fun s w => Result.ok (sliced a 0 (i : Int).toNat c s) w) (Tryz.sizeOfF wx)).trans ?_
  show Result.ok (sliced a 0 (i : Int).toNat c 3) wx = _
  rw [Int.toNat_natCast]
 ·rcases hx.form with ⟨e, hl⟩ | ⟨g', cap, cur, e, hb, h3, h4, h5, h6⟩
  ·injection e with e1 e2 e3
   subst e1 e2 e3 hl
   obtain rfl : i = 0 := by simpa using hi
   exact .inl ⟨rfl, by simp⟩
  ·injection e with e1 e2 e3
   subst e1 e2 e3
   refine .inr ⟨g', 0, c, ?_, fun j u hj => ?_⟩
   ·unfold sliced
    rw [List.length_take, Nat.min_eq_left hi]
    split <;> simp [Addr.add]
   ·rw [fL_take, List.getElem?_take] at hj
    split at hj
    ·rw [Nat.zero_add]; exact hx.cells hj
    ·cases hj
theorem slF_lo {w : World} {a : Option Addr} {n c : Nat} {l : List FC} (h : OwnF w (.slice a n c) l) (i : Nat) (hi : i ≤ l.length) : ∃ vs, (∀ wx : World, (Instr.sliceAt 22 (.slice a n c) (some (.int .i64 (i : Int))) none none).run Tryz.prog wx = .ok vs wx) ∧ ∀ wx, OwnF wx (.slice a n c) l → SrcF wx vs (l.drop i) := by
 have hu : Tryz.prog.underlying 22 = some (.slice (Tryz.prog.elem 22)) := by rw [Tryz.elemFs]; exact Tryz.underlying22
 have hc : i ≤ n ∧ n = l.length := by
  rcases h.form with ⟨e, hl⟩ | ⟨g', cap, cur, e, hb, h3, h4, h5, h6⟩
  ·injection e with e1 e2 e3; subst hl e2; simp at hi; subst hi; exact ⟨Nat.le_refl _, rfl⟩
  ·injection e with e1 e2 e3; subst e2; exact ⟨hi, rfl⟩
 refine ⟨sliced a i n c 3, fun wx => ?_, fun wx hx => ?_⟩
 ·have h1 := run_slice_l (P := Tryz.prog) (w := wx) 22 a n c hu .i64 (i : Int) (by omega) (by omega)
  rw [run_sliceAt_slice (P := Tryz.prog) (w := wx) 22 (.slice a n c) (some (.int .i64 (i : Int))) none none hu, h1, Tryz.elemFs]
  refine (congrArg (fun z => Result.andThen z fun s w => Result.ok (sliced a (i : Int).toNat n c s) w) (Tryz.sizeOfF wx)).trans ?_
  show Result.ok (sliced a (i : Int).toNat n c 3) wx = _
  rw [Int.toNat_natCast]
 ·rcases hx.form with ⟨e, hl⟩ | ⟨g', cap, cur, e, hb, h3, h4, h5, h6⟩
  ·injection e with e1 e2 e3
   subst e1 e2 e3 hl
   obtain rfl : i = 0 := by simpa using hi
   exact .inl ⟨rfl, by simp⟩
  ·injection e with e1 e2 e3
   subst e1 e2 e3
   unfold sliced
   by_cases hci : c = i
   ·have hd : l.drop i = [] := List.drop_eq_nil_of_le (by omega)
    rw [if_pos hci, hd]
    refine .inr ⟨g', 0, c - i, ?_, fun j u hj => by simp [fL] at hj⟩
    rw [show l.length - i = 0 by omega]; rfl
   ·rw [if_neg hci]
    refine .inr ⟨g', i * 3, c - i, ?_, fun j u hj => ?_⟩
    ·rw [List.length_drop]; simp [Addr.add]; try omega
    ·rw [fL_drop, List.getElem?_drop] at hj
     exact hx.cells hj
theorem run_appS (w : World) (ty : TypeId) (v vs : Value) (l m : List FC) (hown : OwnF w v l) (hm : ∀ x ∈ m, SlF x) (hs : SrcF w vs m) (hb : l.length + m.length ≤ 1000000000000) :
  ∃ v' w', (Builtin.append_ #[22, 22] ty #[v, vs]).run Tryz.prog w = .ok v' w' ∧ OwnF w' v' (l ++ m) ∧ (Grown w w' fun k => v.ownBlock = some k) ∧ Moved w v v' := by
 rcases hs with ⟨rfl, rfl⟩ | ⟨g, off, c, rfl, hg⟩
 ·obtain ⟨i, hi, _⟩ := Option.map_eq_some_iff.1 Tryz.infoF
  exact ⟨v, w, run_append_owned_none (P := Tryz.prog) (w := w) 0 22 ty 49 i 3 Tryz.underlying22 hi v l.length (fL l) hown, by rw [List.append_nil]; exact hown, Grown.refl _ _, Moved.refl _ _⟩
 ·exact run_appF w ty v l hown g off c m hm hg hb
theorem WL.appS {ops : Array Oper} {rest : List Oper} {o : Oper} {a : Act} {w : World} {Q : Exit → Act → World → Prop} (hw : Region.wanted o (yielded ops a.tmps) = true) (s x : Operand)
  (ho : o.op = .call { callee := .builtin .append, args := #[s, x], argTypes := #[22, 22] }) (v vs : Value) (l m : List FC) (hm : ∀ x ∈ m, SlF x)
  (hs : a.eval s = v) (hx : a.eval x = vs) (hown : OwnF w v l) (hsrc : SrcF w vs m) (hb : l.length + m.length ≤ 1000000000000)
  (h : ∀ v' w', OwnF w' v' (l ++ m) → (Grown w w' fun k => v.ownBlock = some k) → Moved w v v' → WL Tryz.prog ops Q rest (a.put o.dst v') w') : WL Tryz.prog ops Q (o :: rest) a w :=
 ⟨wpList_wanted hw fun K hK => by
  obtain ⟨v', w', hr, h1, h2, h3⟩ := run_appS w o.type v vs l m hown hm hsrc hb
  unfold Oper.wp execOp
  simp only [ho, resolve, invoke, builtin, Sem.run_bind, Sem.run_pure, Result.andThen_ok, List.map_toArray, List.map_cons, List.map_nil, hs, hx, hr]
  exact hK _ _ (h v' w' h1 h2 h3).out⟩
theorem WL.slHi {ops : Array Oper} {rest : List Oper} {o : Oper} {a : Act} {w : World} {Q : Exit → Act → World → Prop} (hw : Region.wanted o (yielded ops a.tmps) = true) (x hi : Operand) (ho : o.op = .slice 22 x none (some hi) none)
  (vx vh vs : Value) (hx : a.eval x = vx) (hh : a.eval hi = vh) (hr : (Instr.sliceAt 22 vx none (some vh) none).run Tryz.prog w = .ok vs w) (h : WL Tryz.prog ops Q rest (a.put o.dst vs) w) : WL Tryz.prog ops Q (o :: rest) a w :=
 WL.val hw vs (by unfold execOp; simp only [ho, hx, hh, Option.map_some, Option.map_none, Sem.run_bind, hr, Result.andThen_ok, Sem.run_pure]) h
theorem WL.slLo {ops : Array Oper} {rest : List Oper} {o : Oper} {a : Act} {w : World} {Q : Exit → Act → World → Prop} (hw : Region.wanted o (yielded ops a.tmps) = true) (x lo : Operand) (ho : o.op = .slice 22 x (some lo) none none)
  (vx vh vs : Value) (hx : a.eval x = vx) (hh : a.eval lo = vh) (hr : (Instr.sliceAt 22 vx (some vh) none none).run Tryz.prog w = .ok vs w) (h : WL Tryz.prog ops Q rest (a.put o.dst vs) w) : WL Tryz.prog ops Q (o :: rest) a w :=
 WL.val hw vs (by unfold execOp; simp only [ho, hx, hh, Option.map_some, Option.map_none, Sem.run_bind, hr, Result.andThen_ok, Sem.run_pure]) h
theorem ins_get {α : Type} (l : List α) (x : α) (i j : Nat) (hi : i ≤ l.length) : (l.take i ++ [x] ++ l.drop i)[j]? = if j < i then l[j]? else if j = i then some x else l[j - 1]? := by
 rw [List.append_assoc, List.getElem?_append, List.length_take, Nat.min_eq_left hi]
 by_cases h : j < i
 ·rw [if_pos h, if_pos h, List.getElem?_take, if_pos h]
 ·rw [if_neg h, if_neg h]
  by_cases h2 : j = i
  ·subst h2; simp
  ·rw [if_neg h2, List.singleton_append, show j - i = (j - 1 - i) + 1 by omega, List.getElem?_cons_succ, List.getElem?_drop, show i + (j - 1 - i) = j - 1 by omega]
theorem FcsAt.ins {w : World} {cs : List FC} {fs : List PF} (h : FcsAt w cs fs) (i : Nat) (hi : i ≤ cs.length) (n : ByteArray) : FcsAt w (cs.take i ++ [⟨n, .slice none 0 0, 0⟩] ++ cs.drop i) (fs.take i ++ [⟨n, [], 0⟩] ++ fs.drop i) := by
 have hl := h.len
 refine ⟨by simp; omega, fun j x f hx hf => ?_, fun j k x y hx hy hne b hb => ?_⟩
 ·rw [ins_get _ _ _ _ hi] at hx
  rw [ins_get _ _ _ _ (by omega)] at hf
  by_cases h1 : j < i
  ·rw [if_pos h1] at hx hf; exact h.each j x f hx hf
  ·rw [if_neg h1] at hx hf
   by_cases h2 : j = i
   ·rw [if_pos h2] at hx hf
    injection hx with hx; injection hf with hf; subst hx hf
    exact ⟨rfl, rfl, own_nil w⟩
   ·rw [if_neg h2] at hx hf; exact h.each _ x f hx hf
 ·have hold : ∀ m z, (cs.take i ++ [⟨n, .slice none 0 0, 0⟩] ++ cs.drop i)[m]? = some z → (∃ q, z.b.ownBlock = some q) → m ≠ i ∧ cs[if m < i then m else m - 1]? = some z := fun m z hz ⟨q, hq⟩ => by
   rw [ins_get _ _ _ _ hi] at hz
   by_cases h1 : m < i
   ·rw [if_pos h1] at hz ⊢; exact ⟨by omega, hz⟩
   ·rw [if_neg h1] at hz ⊢
    by_cases h2 : m = i
    ·rw [if_pos h2] at hz; injection hz with hz; subst hz; cases hq
    ·rw [if_neg h2] at hz; exact ⟨h2, hz⟩
  intro hyb
  obtain ⟨n1, h1⟩ := hold j x hx ⟨b, hb⟩
  obtain ⟨n2, h2⟩ := hold k y hy ⟨b, hyb⟩
  refine h.apart _ _ x y h1 h2 ?_ b hb hyb
  split <;> split <;> omega
theorem ins_set {α : Type} (l : List α) (x y : α) (i : Nat) (hi : i ≤ l.length) : (l.take i ++ [x] ++ l.drop i).set i y = l.take i ++ [y] ++ l.drop i := by
 rw [List.append_assoc, List.set_append, List.length_take, Nat.min_eq_left hi, if_neg (Nat.lt_irrefl i), Nat.sub_self, List.append_assoc]
 rfl
theorem FcsAt.set {w w' : World} {cs : List FC} {fs : List PF} (h : FcsAt w cs fs) {i : Nat} {x : FC} {f : PF} (hi : i < cs.length) (hnew : FcAt w' x f)
  (hold : ∀ (j : Nat) (y : FC) (g : PF), j ≠ i → cs[j]? = some y → fs[j]? = some g → FcAt w' y g) (hap : ∀ (j : Nat) (y : FC) (k : Nat), j ≠ i → cs[j]? = some y → x.b.ownBlock = some k → y.b.ownBlock ≠ some k) : FcsAt w' (cs.set i x) (fs.set i f) := by
 have hl := h.len
 have hg : ∀ (m : Nat) (z : FC), (cs.set i x)[m]? = some z → (m = i ∧ z = x) ∨ (m ≠ i ∧ cs[m]? = some z) := fun m z hz => by
  by_cases e : i = m
  ·subst e; rw [List.getElem?_set_self hi] at hz; injection hz with hz; exact .inl ⟨rfl, hz.symm⟩
  ·rw [List.getElem?_set_ne e] at hz; exact .inr ⟨fun e' => e e'.symm, hz⟩
 refine ⟨by simp; exact hl, fun j y g hy hg' => ?_, fun j k y z hy hz hne b hb hzb => ?_⟩
 ·rcases hg j y hy with ⟨rfl, rfl⟩ | ⟨hn, hy⟩
  ·rw [List.getElem?_set_self (by omega)] at hg'; injection hg' with hg'; subst hg'; exact hnew
  ·rw [List.getElem?_set_ne (fun e => hn e.symm)] at hg'; exact hold j y g hn hy hg'
 ·rcases hg j y hy with ⟨e1, e2⟩ | ⟨hn, hy2⟩
  ·rcases hg k z hz with ⟨e3, e4⟩ | ⟨hn2, hz2⟩
   ·exact hne (e1.trans e3.symm)
   ·rw [e2] at hb; exact hap k z b hn2 hz2 hb hzb
  ·rcases hg k z hz with ⟨e3, e4⟩ | ⟨hn2, hz2⟩
   ·rw [e4] at hzb; exact hap j y b hn hy2 hzb hb
   ·exact h.apart j k y z hy2 hz2 hne b hb hzb
def DskS (p : Nat) (vf : Value) (cs : List FC) (k : Nat) : Prop := k = p ∨ vf.ownBlock = some k ∨ ∃ (i : Nat) (x : FC), cs[i]? = some x ∧ x.b.ownBlock = some k
theorem DskAt.sTyp {w : World} {p : Nat} {vf : Value} {cs : List FC} {D : DV} (h : DskAt w p vf cs D) {k : Nat} (hk : DskS p vf cs k) : Typ w k 5 ∨ Typ w k 49 ∨ Typ w k 71 := by
 rcases hk with rfl | hk | ⟨i, x, hi, hk⟩
 ·exact .inr (.inr h.blk.typ)
 ·exact .inr (.inl (h.own.typ hk))
 ·have hl := (List.getElem?_eq_some_iff.1 hi).1
  rw [h.fcs.len] at hl
  exact .inl ((h.fcs.each i x _ hi (List.getElem?_eq_getElem hl)).2.2.typ hk)
end Go.Proofs.YteijjfeainamdaaGreatDoor
