import Derived.Test.YtlggejehaonkcaaDoorA15
import Derived.Test.YtlggejehaonkcaaDoorRows
import Derived.Deep.RegionHeld3
import Derived.Deep.MidRow
import Derived.Lib.Small
import Derived.Lib.ConvBytes
import Derived.ProofKit
import Derived.OpenShut
import Derived.ChangeOld
import Derived.Below
import Derived.SizedLaws
import Derived.Deep.Slices
namespace Go.Proofs.YtlggejehaonkcaaDoor
open Go.RowKit
set_option linter.unusedSimpArgs false
set_option linter.unusedVariables false

set_option maxRecDepth 8000 in
set_option maxHeartbeats 4000000 in
theorem sync17 {w wq : World} {s g m d h p r8 b14 pc t sure bc0 : Nat} {pa ba0 : Option Addr} {bs : List Bool} {ee : Int} {D : DV} {V : JV} {la : Bool} {U : Nat → Prop} {QQ : Exit → Act → World → Prop} {x0 x2 x3 x4 x5 x6 x7 x8 x9 x10 x11 x13 x14 x17 x18 x20 x21 x22 x23 x24 x25 x26 x27 x28 x29 x30 x31 x32 x33 x34 x35 x36 x37 x38 x39 x40 x41 x42 x43 x44 x45 x46 x47 x48 x49 x50 x51 x52 x53 x54 x55 x56 x57 x58 x59 x60 x61 x62 x63 x64 x65 x66 x67 x68 x69 x70 x71 x72 x73 x74 x75 x76 x77 x78 x79 x80 x81 x82 x83 x84 x85 x86 x87 x88 x89 x90 x91 x92 x93 x94 x95 x96 x97 x98 x99 x100 x101 x102 x103 x104 x105 x106 x107 x108 x109 x110 x111 x112 x113 x114 x115 x116 x117 x118 x119 x120 x121 x122 x123 x124 x125 x126 x127 x128 x129 x130 x131 x132 x133 x134 x135 x136 x137 x138 x139 x140 x141 x142 x143 x144 x145 x146 x147 x148 x149 x150 x151 x152 x153 x154 x155 x156 x157 x158 x159 x160 x161 : Value}
  (hne : ¬ ee = 7) (hC : LC w wq d h p r8 b14 pa pc V.ps U) (hS : SD wq s g m d p D V la U) (hX : JX D V la sure) (hA : D.acts ≤ 4611686018427380000) (hBs : BolsAt w (.slice ba0 bs.length bc0) bs)
  (hnorm : ∀ (z20 z88 z89 z90 z91 z92 z93 z94 z95 z96 z97 z98 z99 z100 z101 z102 z103 z104 z105 z106 z107 : Value) (w' : World) (sure' : Nat) (D' : DV) (la' : Bool) (U' : Nat → Prop), LC w w' d h p r8 b14 pa pc V.ps U' → SD w' s g m d p D' V la' U' → JX D' V la' sure' → D'.acts ≤ D.acts + 300 → QQ .normal { tmps := #[x0, .slice ba0 bs.length bc0, x2, x3, x4, x5, x6, x7, x8, x9, x10, x11, .pointer (some ⟨s, 0, none⟩), x13, x14, .int .i64 (sure' : Int), .int .i64 (t : Int), x17, x18, .int .i64 ee, z20, x21, x22, x23, x24, x25, x26, x27, x28, x29, x30, x31, x32, x33, x34, x35, x36, x37, x38, x39, x40, x41, x42, x43, x44, x45, x46, x47, x48, x49, x50, x51, x52, x53, x54, x55, x56, x57, x58, x59, x60, x61, x62, x63, x64, x65, x66, x67, x68, x69, x70, x71, x72, x73, x74, x75, x76, x77, x78, x79, x80, x81, x82, x83, x84, x85, x86, x87, z88, z89, z90, z91, z92, z93, z94, z95, z96, z97, z98, z99, z100, z101, z102, z103, z104, z105, z106, z107, x108, x109, x110, x111, x112, x113, x114, x115, x116, x117, x118, x119, x120, x121, x122, x123, x124, x125, x126, x127, x128, x129, x130, x131, x132, x133, x134, x135, x136, x137, x138, x139, x140, x141, x142, x143, x144, x145, x146, x147, x148, x149, x150, x151, x152, x153, x154, x155, x156, x157, x158, x159, x160, x161], defers := [] } w')
  (hexit : ∀ (z20 z88 z89 z90 z91 z92 z93 z94 z95 z96 z97 z98 z99 z100 z101 z102 z103 z104 z105 z106 z107 : Value) (w' : World) (D' : DV) (U' : Nat → Prop), LC w w' d h p r8 b14 pa pc V.ps U' → DskN w' d p D' U' → CR D' V.ps sure → D'.acts ≤ D.acts + 300 → DisK V.ps → V.ps.length ≤ 285216768 → QQ (.exit 0) { tmps := #[x0, .slice ba0 bs.length bc0, x2, x3, x4, x5, x6, x7, x8, x9, x10, x11, .pointer (some ⟨s, 0, none⟩), x13, x14, .int .i64 (sure : Int), .int .i64 (t : Int), x17, x18, .int .i64 ee, z20, x21, x22, x23, x24, x25, x26, x27, x28, x29, x30, x31, x32, x33, x34, x35, x36, x37, x38, x39, x40, x41, x42, x43, x44, x45, x46, x47, x48, x49, x50, x51, x52, x53, x54, x55, x56, x57, x58, x59, x60, x61, x62, x63, x64, x65, x66, x67, x68, x69, x70, x71, x72, x73, x74, x75, x76, x77, x78, x79, x80, x81, x82, x83, x84, x85, x86, x87, z88, z89, z90, z91, z92, z93, z94, z95, z96, z97, z98, z99, z100, z101, z102, z103, z104, z105, z106, z107, x108, x109, x110, x111, x112, x113, x114, x115, x116, x117, x118, x119, x120, x121, x122, x123, x124, x125, x126, x127, x128, x129, x130, x131, x132, x133, x134, x135, x136, x137, x138, x139, x140, x141, x142, x143, x144, x145, x146, x147, x148, x149, x150, x151, x152, x153, x154, x155, x156, x157, x158, x159, x160, x161], defers := [] } w') :
  Code.wp Tryd.prog (sndS (sndS (sndS (blkS (fstS (sndS (lopS (blkS (sndS (fstS (sndS (sndS (sndS (sndS (sndS (sndS (sndS (sndS (bodyC Tryd.f3))))))))))))))))))) QQ { tmps := #[x0, .slice ba0 bs.length bc0, x2, x3, x4, x5, x6, x7, x8, x9, x10, x11, .pointer (some ⟨s, 0, none⟩), x13, x14, .int .i64 (sure : Int), .int .i64 (t : Int), x17, x18, .int .i64 ee, x20, x21, x22, x23, x24, x25, x26, x27, x28, x29, x30, x31, x32, x33, x34, x35, x36, x37, x38, x39, x40, x41, x42, x43, x44, x45, x46, x47, x48, x49, x50, x51, x52, x53, x54, x55, x56, x57, x58, x59, x60, x61, x62, x63, x64, x65, x66, x67, x68, x69, x70, x71, x72, x73, x74, x75, x76, x77, x78, x79, x80, x81, x82, x83, x84, x85, x86, x87, x88, x89, x90, x91, x92, x93, x94, x95, x96, x97, x98, x99, x100, x101, x102, x103, x104, x105, x106, x107, x108, x109, x110, x111, x112, x113, x114, x115, x116, x117, x118, x119, x120, x121, x122, x123, x124, x125, x126, x127, x128, x129, x130, x131, x132, x133, x134, x135, x136, x137, x138, x139, x140, x141, x142, x143, x144, x145, x146, x147, x148, x149, x150, x151, x152, x153, x154, x155, x156, x157, x158, x159, x160, x161], defers := [] } wq := by
 have CQ := Keep.mk hC
 have SQ := Keep.mk hS
 have XQ := Keep.mk hX
 have HAc := Keep.mk hA
 have HBs := Keep.mk hBs
 clear hC hS hX hA hBs
 unfold Tryd.f3
 simp only [bodyC, sndS, fstS, blkS, lopS, thnS]
 refine wp_seq_k fun K1 hK1 => ?_
 refine wp_seq_k fun K2 hK2 => rgn ?_
 refine VlS (.int .i64 ee) ?_
 refine VlS (.bool false) ?_
 refine WL.nil (hK2 _ _ ?_)
 refine wp_cond_false rfl ?_
 refine wp_skip ?_
 refine hK1 _ _ ?_
 refine wp_seq_k fun K3 hK3 => ?_
 by_cases hbl : t < bs.length
 ·have hbl' : (t : Int) < (bs.length : Int) := by omega
  have ht0 : (0 : Int) ≤ (t : Int) := by omega
  obtain ⟨bq, bo, hbq, hbc⟩ := HBs.out.at CQ.out.bel (List.getElem?_eq_getElem hbl)
  subst hbq
  obtain ⟨bb, hbb⟩ : ∃ z, Keep (z = bs[t]) := ⟨_, ⟨rfl⟩⟩
  rw [← hbb.out] at hbc
  rcases Bool.eq_false_or_eq_true bb with hb | hb
  ·subst hb
   refine rgn ?_
   refine VlS (.int .i64 (t : Int)) ?_
   refine VlS (.slice (some ⟨bq, bo, none⟩) bs.length bc0) ?_
   refine VlS (.int .i64 (bs.length : Int)) ?_
   refine VlS (.bool true) ?_
   refine VlS (.bool true) ?_
   refine VlS (.slice (some ⟨bq, bo, none⟩) bs.length bc0) ?_
   refine VlS (.int .i64 (t : Int)) ?_
   refine VlS (.pointer (some ⟨bq, bo + t, none⟩)) ?_
   refine VlS (.bool true) ?_
   refine VlS (.bool true) ?_
   refine WL.nil (hK3 _ _ ?_)
   refine wp_cond_true rfl ?_
   refine wp_seq_k fun K4 hK4 => rgn ?_
   refine VlS (.pointer (some ⟨s, 0, none⟩)) ?_
   clear hbc
   refine WL.callF (by kernel_rfl) 10 _ _ rfl Tryd.in10 #[ptr s] (by simp [Act.eval]) ?_
   refine (bsync_any s g m d p D V la sure U wq CQ.out.tab SQ.out (fun k hk => (CQ.out.u k hk).2.1) (fun e => by have := (CQ.out.u 0 e).1; have := CQ.out.pos; omega) (fun e => (CQ.out.u d e).2.2.2.2.1 rfl) XQ.out HAc.out).mono ?_
   rintro e w12 ⟨e2, rfl, g1, g2⟩
   have C12 := Keep.mk (CQ.out.step g1)
   have Z12 := Keep.mk g2
   have Hdis : Keep (DisK V.ps) := ⟨by obtain ⟨_, _, _, _, _, _, _, _, hd⟩ := SQ.out; exact hd⟩
   have Hfew : Keep (V.ps.length ≤ 285216768) := ⟨XQ.out.ji.few.1⟩
   clear g1 g2 SQ CQ XQ
   generalize JN2 U wq.heap.size w12.heap.size = U12 at *
   refine ⟨_, rfl, ?_⟩
   simp only [Act.put, pqA, pqB, pqC]
   refine VlS (.int .i64 e2) ?_
   refine WL.nil (hK4 _ _ ?_)
   refine wp_seq_k fun K5 hK5 => ?_
   refine wp_seq_k fun K6 hK6 => ?_
   rcases Z12.out with ⟨rfl, D12, la12, k1, k2, k3⟩ | ⟨rfl, D12, k1, k2, k3⟩
   ·have S12 := Keep.mk k1
    have X12 := Keep.mk k2
    have A12 := Keep.mk k3
    clear k1 k2 k3 Z12
    obtain ⟨nn, hnn⟩ : ∃ z, Keep (z = V.ps.length) := ⟨_, ⟨rfl⟩⟩
    refine rgn ?_
    refine VlS (.int .i64 0) ?_
    refine VlS (.bool false) ?_
    refine WL.nil (hK6 _ _ ?_)
    refine wp_cond_false rfl ?_
    refine wp_skip ?_
    refine hK5 _ _ ?_
    refine wp_seq_k fun K7 hK7 => ?_
    refine wp_seq_k fun K8 hK8 => rgn ?_
    refine VlS (.int .i64 0) ?_
    refine VlS (.bool false) ?_
    refine WL.nil (hK8 _ _ ?_)
    refine wp_cond_false rfl ?_
    refine wp_skip ?_
    refine hK7 _ _ ?_
    refine rgn ?_
    refine VlS (.pointer (some ⟨s, 0, none⟩)) ?_
    refine WL.callF (by kernel_rfl) 8 _ _ rfl Tryd.in8 #[ptr s] (by simp [Act.eval]) ?_
    refine (slen_sd s g m d p D12 V la12 U12 w12 S12.out).mono ?_
    rintro e wz ⟨rfl, hw⟩
    refine ⟨_, rfl, ?_⟩
    obtain rfl : w12 = wz := hw.symm
    clear hw
    rw [← hnn.out]
    simp only [Act.put, pqA, pqB, pqC]
    refine VlS (.int .i64 (nn : Int)) ?_
    refine WL.nil ?_
    exact hnorm _ _ _ _ _ _ _ _ _ _ _ _ _ _ _ _ _ _ _ _ _ _ nn D12 la12 U12 C12.out S12.out (by rw [hnn.out]; exact X12.out) (by exact A12.out)
   ·refine rgn ?_
    refine VlS (.int .i64 7) ?_
    refine VlS (.bool true) ?_
    refine WL.nil (hK6 _ _ ?_)
    refine wp_cond_true rfl ?_
    refine wp_exit ?_
    show QQ (.exit 0) _ _
    exact hexit _ _ _ _ _ _ _ _ _ _ _ _ _ _ _ _ _ _ _ _ _ _ D12 U12 C12.out k1 k2 k3 Hdis.out Hfew.out
  ·subst hb
   refine rgn ?_
   refine VlS (.int .i64 (t : Int)) ?_
   refine VlS (.slice (some ⟨bq, bo, none⟩) bs.length bc0) ?_
   refine VlS (.int .i64 (bs.length : Int)) ?_
   refine VlS (.bool true) ?_
   refine VlS (.bool true) ?_
   refine VlS (.slice (some ⟨bq, bo, none⟩) bs.length bc0) ?_
   refine VlS (.int .i64 (t : Int)) ?_
   refine VlS (.pointer (some ⟨bq, bo + t, none⟩)) ?_
   refine VlS (.bool false) ?_
   refine VlS (.bool false) ?_
   refine WL.nil (hK3 _ _ ?_)
   refine wp_cond_false rfl ?_
   refine wp_skip ?_
   exact hnorm _ _ _ _ _ _ _ _ _ _ _ _ _ _ _ _ _ _ _ _ _ _ sure D la U CQ.out SQ.out XQ.out (by omega)
 ·have hbl' : ¬ (t : Int) < (bs.length : Int) := by omega
  refine rgn ?_
  refine VlS (.int .i64 (t : Int)) ?_
  refine VlS (.slice ba0 bs.length bc0) ?_
  refine VlS (.int .i64 (bs.length : Int)) ?_
  refine VlS (.bool false) ?_
  refine VlS (.bool false) ?_
  refine SkS ?_
  refine SkS ?_
  refine SkS ?_
  refine SkS ?_
  refine VlS (.bool false) ?_
  refine WL.nil (hK3 _ _ ?_)
  refine wp_cond_false rfl ?_
  refine wp_skip ?_
  exact hnorm _ _ _ _ _ _ _ _ _ _ _ _ _ _ _ _ _ _ _ _ _ _ sure D la U CQ.out SQ.out XQ.out (by omega)
set_option maxRecDepth 8000 in
set_option maxHeartbeats 4000000 in
theorem loop9 {w wi : World} {s g m d h p r8 b14 lc bc0 : Nat} {la0 ba0 : Option Addr} {ls : List (List Int)} {bs : List Bool} {fu : Int} {U : Nat → Prop} {KK : Act → World → Prop} {QQ : Exit → Act → World → Prop} {x2 x3 x4 x5 x6 x7 x8 x9 x10 x11 x13 x16 x17 x18 x19 x20 x21 x22 x23 x24 x25 x26 x27 x28 x29 x30 x31 x32 x33 x34 x35 x36 x37 x38 x39 x40 x41 x42 x43 x44 x45 x46 x47 x48 x49 x50 x51 x52 x53 x54 x55 x56 x57 x58 x59 x60 x61 x62 x63 x64 x65 x66 x67 x68 x69 x70 x71 x72 x73 x74 x75 x76 x77 x78 x79 x80 x81 x82 x83 x84 x85 x86 x87 x88 x89 x90 x91 x92 x93 x94 x95 x96 x97 x98 x99 x100 x101 x102 x103 x104 x105 x106 x107 x108 x109 x110 x111 x112 x113 x114 x115 x116 x117 x118 x119 x120 x121 x122 x123 x124 x125 x126 x127 x128 x129 x130 x131 x132 x133 x134 x135 x136 x137 x138 x139 x140 x141 x142 x143 x144 x145 x146 x147 x148 x149 x150 x151 x152 x153 x154 x155 x156 x157 x158 x159 x160 x161 : Value}
  (hC : LC w wi d h p r8 b14 none 0 [] U) (hS : SD wi s g m d p (Dfu fu) JV.nil false U) (hfu : fu ≤ 9223372036854775807) (hLs : RwsAt w (.slice la0 ls.length lc) ls) (hBy : ∀ l ∈ ls, Byts l ∧ l.length ≤ 140737488355328) (hll : ls.length ≤ 140737488355328) (hBs : BolsAt w (.slice ba0 bs.length bc0) bs)
  (hk : ∀ (z16 z17 z18 z19 z20 z51 z52 z53 z54 z55 z56 z57 z58 z59 z60 z61 z62 z63 z64 z65 z66 z67 z68 z69 z70 z71 z72 z73 z74 z75 z76 z77 z78 z79 z80 z81 z82 z83 z84 z85 z86 z87 z88 z89 z90 z91 z92 z93 z94 z95 z96 z97 z98 z99 z100 z101 z102 z103 z104 z105 z106 z107 : Value) (wz : World) (sure : Nat) (pa : Option Addr) (pc : Nat) (all : List (List Int)) (D : DV) (U : Nat → Prop), LC w wz d h p r8 b14 pa pc all U → DskN wz d p D U → CR D all sure → DisK all → all.length ≤ 300000000 → D.acts ≤ 4611686018427370000 → KK { tmps := #[.slice la0 ls.length lc, .slice ba0 bs.length bc0, x2, x3, x4, x5, x6, x7, x8, x9, x10, x11, .pointer (some ⟨s, 0, none⟩), x13, .pointer (some ⟨b14, 0, none⟩), .int .i64 (sure : Int), z16, z17, z18, z19, z20, x21, x22, x23, x24, x25, x26, x27, x28, x29, x30, x31, x32, x33, x34, x35, x36, x37, x38, x39, x40, x41, x42, x43, x44, x45, x46, x47, x48, x49, x50, z51, z52, z53, z54, z55, z56, z57, z58, z59, z60, z61, z62, z63, z64, z65, z66, z67, z68, z69, z70, z71, z72, z73, z74, z75, z76, z77, z78, z79, z80, z81, z82, z83, z84, z85, z86, z87, z88, z89, z90, z91, z92, z93, z94, z95, z96, z97, z98, z99, z100, z101, z102, z103, z104, z105, z106, z107, x108, x109, x110, x111, x112, x113, x114, x115, x116, x117, x118, x119, x120, x121, x122, x123, x124, x125, x126, x127, x128, x129, x130, x131, x132, x133, x134, x135, x136, x137, x138, x139, x140, x141, x142, x143, x144, x145, x146, x147, x148, x149, x150, x151, x152, x153, x154, x155, x156, x157, x158, x159, x160, x161], defers := [] } wz) :
  Code.wp Tryd.prog (fstS (sndS (sndS (sndS (sndS (sndS (sndS (sndS (sndS (bodyC Tryd.f3)))))))))) (Exit.then KK QQ) { tmps := #[.slice la0 ls.length lc, .slice ba0 bs.length bc0, x2, x3, x4, x5, x6, x7, x8, x9, x10, x11, .pointer (some ⟨s, 0, none⟩), x13, .pointer (some ⟨b14, 0, none⟩), .int .i64 0, x16, x17, x18, x19, x20, x21, x22, x23, x24, x25, x26, x27, x28, x29, x30, x31, x32, x33, x34, x35, x36, x37, x38, x39, x40, x41, x42, x43, x44, x45, x46, x47, x48, x49, x50, x51, x52, x53, x54, x55, x56, x57, x58, x59, x60, x61, x62, x63, x64, x65, x66, x67, x68, x69, x70, x71, x72, x73, x74, x75, x76, x77, x78, x79, x80, x81, x82, x83, x84, x85, x86, x87, x88, x89, x90, x91, x92, x93, x94, x95, x96, x97, x98, x99, x100, x101, x102, x103, x104, x105, x106, x107, x108, x109, x110, x111, x112, x113, x114, x115, x116, x117, x118, x119, x120, x121, x122, x123, x124, x125, x126, x127, x128, x129, x130, x131, x132, x133, x134, x135, x136, x137, x138, x139, x140, x141, x142, x143, x144, x145, x146, x147, x148, x149, x150, x151, x152, x153, x154, x155, x156, x157, x158, x159, x160, x161], defers := [] } wi := by
 have C6 : Keep (LC w wi d h p r8 b14 none 0 JV.nil.ps U) := ⟨hC⟩
 have S6 := Keep.mk hS
 have Hfu := Keep.mk hfu
 have HLs := Keep.mk hLs
 have HBy := Keep.mk hBy
 have Hll := Keep.mk hll
 have HBs := Keep.mk hBs
 clear hC hS hfu hLs hBy hll hBs
 generalize hg : Exit.then KK QQ = QX
 unfold Tryd.f3
 simp only [bodyC, sndS, fstS, blkS, lopS, thnS]
 subst hg
 refine wp_seq_k fun K1 hK1 => rgn ?_
 refine VlS (.int .i64 0) ?_
 refine WL.nil (hK1 _ _ ?_)
 refine wp_block ?_
 refine wp_loop (fun acx wr => ∃ (t : Nat) (y17 y18 y19 y20 y51 y52 y53 y54 y55 y56 y57 y58 y59 y60 y61 y62 y63 y64 y65 y66 y67 y68 y69 y70 y71 y72 y73 y74 y75 y76 y77 y78 y79 y80 y81 y82 y83 y84 y85 y86 y87 y88 y89 y90 y91 y92 y93 y94 y95 y96 y97 y98 y99 y100 y101 y102 y103 y104 y105 y106 y107 : Value) (sure : Nat) (pa : Option Addr) (pc : Nat) (D : DV) (V : JV) (la : Bool) (U : Nat → Prop), acx = { tmps := #[.slice la0 ls.length lc, .slice ba0 bs.length bc0, x2, x3, x4, x5, x6, x7, x8, x9, x10, x11, .pointer (some ⟨s, 0, none⟩), x13, .pointer (some ⟨b14, 0, none⟩), .int .i64 (sure : Int), .int .i64 (t : Int), y17, y18, y19, y20, x21, x22, x23, x24, x25, x26, x27, x28, x29, x30, x31, x32, x33, x34, x35, x36, x37, x38, x39, x40, x41, x42, x43, x44, x45, x46, x47, x48, x49, x50, y51, y52, y53, y54, y55, y56, y57, y58, y59, y60, y61, y62, y63, y64, y65, y66, y67, y68, y69, y70, y71, y72, y73, y74, y75, y76, y77, y78, y79, y80, y81, y82, y83, y84, y85, y86, y87, y88, y89, y90, y91, y92, y93, y94, y95, y96, y97, y98, y99, y100, y101, y102, y103, y104, y105, y106, y107, x108, x109, x110, x111, x112, x113, x114, x115, x116, x117, x118, x119, x120, x121, x122, x123, x124, x125, x126, x127, x128, x129, x130, x131, x132, x133, x134, x135, x136, x137, x138, x139, x140, x141, x142, x143, x144, x145, x146, x147, x148, x149, x150, x151, x152, x153, x154, x155, x156, x157, x158, x159, x160, x161], defers := [] } ∧ t ≤ ls.length ∧ LC w wr d h p r8 b14 pa pc V.ps U ∧ SD wr s g m d p D V la U ∧ JX D V la sure ∧ D.acts ≤ 700 * (t : Int)) (fun acx _ => ls.length - (intOf (acx.tmps.getD 16 undef)).toNat) ⟨0, x17, x18, x19, x20, x51, x52, x53, x54, x55, x56, x57, x58, x59, x60, x61, x62, x63, x64, x65, x66, x67, x68, x69, x70, x71, x72, x73, x74, x75, x76, x77, x78, x79, x80, x81, x82, x83, x84, x85, x86, x87, x88, x89, x90, x91, x92, x93, x94, x95, x96, x97, x98, x99, x100, x101, x102, x103, x104, x105, x106, x107, 0, none, 0, Dfu fu, JV.nil, false, U, rfl, Nat.zero_le _, C6.out, S6.out, jx_new fu Hfu.out, by show (0 : Int) ≤ _; omega⟩ ?_
 clear C6 S6
 clear U
 rintro acx wr ⟨t, y17, y18, y19, y20, y51, y52, y53, y54, y55, y56, y57, y58, y59, y60, y61, y62, y63, y64, y65, y66, y67, y68, y69, y70, y71, y72, y73, y74, y75, y76, y77, y78, y79, y80, y81, y82, y83, y84, y85, y86, y87, y88, y89, y90, y91, y92, y93, y94, y95, y96, y97, y98, y99, y100, y101, y102, y103, y104, y105, y106, y107, sure, pa, pc, D, V, la, U, rfl, ht, h1, h2, h3, h4⟩
 have CR0 := Keep.mk h1
 have SR := Keep.mk h2
 have XR := Keep.mk h3
 have AR := Keep.mk h4
 clear h1 h2 h3 h4
 obtain ⟨n, hn⟩ : ∃ z, Keep (z = V.ps.length) := ⟨_, ⟨rfl⟩⟩
 by_cases hlt : t < ls.length
 ·have hlt' : (t : Int) < (ls.length : Int) := by omega
  have hwt : IntKind.i64.wrap ((t : Int) + 1) = (t : Int) + 1 := by rw [IntKind.wrap_i64]; have := Hll.out; omega
  obtain ⟨lq, lo, ra, rc, hq, -, y1, y2⟩ := HLs.out.at t hlt
  subst hq
  have hbl := CR0.out.bel
  have ly := cell_lt y1
  obtain ⟨qq, hqq⟩ : ∃ z, Keep (z = ls.getD t []) := ⟨_, ⟨rfl⟩⟩
  rw [← hqq.out] at y1 y2
  obtain ⟨rn, hrn⟩ : ∃ z, Keep (z = qq.length) := ⟨_, ⟨rfl⟩⟩
  rw [← hrn.out] at y1 y2
  have Y1 : Keep (w.cell? ⟨lq, lo + t, none⟩ = some (.slice ra rn rc)) := ⟨y1⟩
  have Y2 : Keep (RowAt w (.slice ra rn rc) qq) := ⟨y2⟩
  have Hl0 : Keep (lq < w.heap.size) := ⟨ly⟩
  have HQl : Keep (Byts qq ∧ qq.length ≤ 140737488355328) := ⟨HBy.out qq (by rw [hqq.out, List.getD_eq_getElem?_getD, List.getElem?_eq_getElem hlt]; exact List.getElem_mem _)⟩
  have HRb : Keep (qq ≠ [] → ∀ k, (.slice ra rn rc : Value).ownBlock = some k → k < w.heap.size) := ⟨fun hne => row_lt y2 hne⟩
  have HLc : Keep (∀ wx : World, Below w.heap.size w wx → wx.cell? ⟨lq, lo + t, none⟩ = some (.slice ra rn rc) ∧ RowAt wx (.slice ra rn rc) qq) := ⟨fun wx hb => ⟨by rw [hb.cell (p := ⟨lq, lo + t, none⟩) Hl0.out]; exact Y1.out, Y2.out.below hb⟩⟩
  clear y1 y2 ly hbl
  have cl := (HLc.out wr CR0.out.bel).1
  refine wp_seq_k fun K2 hK2 => ?_
  refine wp_seq_k fun K3 hK3 => rgn ?_
  refine VlS (.int .i64 (t : Int)) ?_
  refine VlS (.slice (some ⟨lq, lo, none⟩) ls.length lc) ?_
  refine VlS (.int .i64 (ls.length : Int)) ?_
  refine VlS (.bool true) ?_
  refine WL.nil (hK3 _ _ ?_)
  refine wp_cond_true rfl ?_
  refine wp_skip ?_
  refine hK2 _ _ ?_
  refine wp_seq_k fun K4 hK4 => ?_
  refine wp_block ?_
  refine wp_seq_k fun K5 hK5 => rgn ?_
  refine VlS (.pointer (some ⟨s, 0, none⟩)) ?_
  refine WL.callF (by kernel_rfl) 8 _ _ rfl Tryd.in8 #[ptr s] (by simp [Act.eval]) ?_
  refine (slen_sd s g m d p D V la U wr SR.out).mono ?_
  rintro e wz ⟨rfl, hw⟩
  refine ⟨_, rfl, ?_⟩
  obtain rfl : wr = wz := hw.symm
  clear hw
  rw [← hn.out]
  simp only [Act.put, pqA, pqB, pqC]
  refine VlS (.int .i64 (n : Int)) ?_
  refine WL.nil (hK5 _ _ ?_)
  refine wp_seq_k fun K6 hK6 => rgn ?_
  refine VlS (.pointer (some ⟨s, 0, none⟩)) ?_
  refine VlS (.slice (some ⟨lq, lo, none⟩) ls.length lc) ?_
  refine VlS (.int .i64 (t : Int)) ?_
  refine VlS (.pointer (some ⟨lq, lo + t, none⟩)) ?_
  refine VlS (.slice ra rn rc) ?_
  clear cl
  refine WL.callF (by kernel_rfl) 9 _ _ rfl Tryd.in9 #[ptr s, .slice ra rn rc] (by simp [Act.eval]) ?_
  refine (put_any s g m d p (.slice ra rn rc) qq D V la sure U wr CR0.out.tab SR.out (fun k hk => (CR0.out.u k hk).2.1) (fun e => by have := (CR0.out.u 0 e).1; have := CR0.out.pos; omega) (fun e => (CR0.out.u d e).2.2.2.2.1 rfl) XR.out (by have := AR.out; have := Hll.out; omega) (HLc.out wr CR0.out.bel).2 (fun hne k hk e => by have := HRb.out hne k hk; have := (CR0.out.u k e).1; omega) HQl.out.1 HQl.out.2).mono ?_
  rintro e w4 ⟨c4, ee, rfl, g1, g2⟩
  have C4 := Keep.mk (CR0.out.step g1)
  have Z4 := Keep.mk g2
  have Hdis : Keep (DisK V.ps) := ⟨by obtain ⟨_, _, _, _, _, _, _, _, hd⟩ := SR.out; exact hd⟩
  have Hfew : Keep (n ≤ 285216768) := ⟨by have := XR.out.ji.few.1; rw [hn.out]; exact this⟩
  clear g1 g2 SR CR0 XR
  generalize JN2 U wr.heap.size w4.heap.size = U4 at *
  refine ⟨_, rfl, ?_⟩
  simp only [Act.put, pqA, pqB, pqC]
  refine VlS (.tuple #[.agg (bytesA 32 c4), .int .i64 ee]) ?_
  refine VlS (.agg (bytesA 32 c4)) ?_
  refine VlS (.int .i64 ee) ?_
  refine WL.new (by kernel_rfl) 38 rfl _ Tryd.newHb ?_
  have N5 := Keep.mk (below_new w4 (.cells (bytesA 32 fun _ => 0) 38))
  have Q5 := Keep.mk (Blk.new w4 38 (bytesA 32 fun _ => 0))
  change WL _ _ _ _ _ (w4.alloc (.cells (bytesA 32 fun _ => 0) 38))
  generalize w4.alloc (.cells (bytesA 32 fun _ => 0) 38) = w5 at *
  obtain ⟨q5, hq5⟩ : ∃ z, Keep (z = w4.heap.size) := ⟨_, ⟨rfl⟩⟩
  rw [← hq5.out] at Q5 ⊢
  simp only [Act.put, pqA, pqB, pqC]
  refine WL.storeR (by kernel_rfl) 38 (.tmp 18) (.tmp 66) rfl q5 (bytesA 32 c4) rfl rfl 38 (bytesA 32 fun _ => 0) Q5.out (Tryd.size38B _) (bytesA_sizes _ _ _) (bytesA_one _ _) ?_
  have hbs : Below w4.heap.size w4 (w5.setRow q5 (bytesA 32 c4)) := below_setRow N5.out (by rw [hq5.out]; exact Nat.le_refl _) _
  clear N5 Q5 hq5
  generalize w5.setRow q5 (bytesA 32 c4) = w6 at *
  have C6 := Keep.mk (C4.out.below hbs)
  have B6 := Keep.mk hbs
  clear hbs C4
  simp only [Act.put]
  refine VlS (.int .i64 ee) ?_
  refine WL.nil (hK6 _ _ ?_)
  refine wp_seq_k fun K7 hK7 => ?_
  refine wp_seq_k fun K8 hK8 => ?_
  have rest : ∀ (z68 z69 z70 z71 z72 z73 z74 z75 z76 z77 z78 z79 z80 z81 z82 z83 z84 z85 z86 z87 : Value) (wq : World) (pa : Option Addr) (pc : Nat) (D : DV) (V : JV) (la : Bool) (U : Nat → Prop), ¬ ee = 7 → LC w wq d h p r8 b14 pa pc V.ps U → SD wq s g m d p D V la U → JX D V la sure → D.acts ≤ 700 * (t : Int) + 300 → K7 { tmps := #[.slice (some ⟨lq, lo, none⟩) ls.length lc, .slice ba0 bs.length bc0, x2, x3, x4, x5, x6, x7, x8, x9, x10, x11, .pointer (some ⟨s, 0, none⟩), x13, .pointer (some ⟨b14, 0, none⟩), .int .i64 (sure : Int), .int .i64 (t : Int), .int .i64 (n : Int), .pointer (some ⟨q5, 0, none⟩), .int .i64 ee, y20, x21, x22, x23, x24, x25, x26, x27, x28, x29, x30, x31, x32, x33, x34, x35, x36, x37, x38, x39, x40, x41, x42, x43, x44, x45, x46, x47, x48, x49, x50, .int .i64 (t : Int), .slice (some ⟨lq, lo, none⟩) ls.length lc, .int .i64 (ls.length : Int), .bool true, y55, y56, .pointer (some ⟨s, 0, none⟩), .int .i64 (n : Int), .tuple #[.agg (bytesA 32 c4), .int .i64 ee], .pointer (some ⟨s, 0, none⟩), .slice (some ⟨lq, lo, none⟩) ls.length lc, .int .i64 (t : Int), .pointer (some ⟨lq, lo + t, none⟩), .slice ra rn rc, .tuple #[.agg (bytesA 32 c4), .int .i64 ee], .agg (bytesA 32 c4), .int .i64 ee, z68, z69, z70, z71, z72, z73, z74, z75, z76, z77, z78, z79, z80, z81, z82, z83, z84, z85, z86, z87, y88, y89, y90, y91, y92, y93, y94, y95, y96, y97, y98, y99, y100, y101, y102, y103, y104, y105, y106, y107, x108, x109, x110, x111, x112, x113, x114, x115, x116, x117, x118, x119, x120, x121, x122, x123, x124, x125, x126, x127, x128, x129, x130, x131, x132, x133, x134, x135, x136, x137, x138, x139, x140, x141, x142, x143, x144, x145, x146, x147, x148, x149, x150, x151, x152, x153, x154, x155, x156, x157, x158, x159, x160, x161], defers := [] } wq := by
   clear Z4 C6 B6 Hdis Hfew AR
   intro z68 z69 z70 z71 z72 z73 z74 z75 z76 z77 z78 z79 z80 z81 z82 z83 z84 z85 z86 z87 wq pa pc D V la U hne h1 h2 h3 h4
   have AQ := Keep.mk h4
   refine hK7 _ _ ?_
   refine sync17 (w := w) hne h1 h2 h3 (by have := Hll.out; omega) HBs.out ?_ ?_
   clear h1 h2 h3 h4
   ·intro u20 u88 u89 u90 u91 u92 u93 u94 u95 u96 u97 u98 u99 u100 u101 u102 u103 u104 u105 u106 u107 w' sure' D' la' U' k1 k2 k3 k4
    refine hK4 _ _ ?_
    refine rgn ?_
    refine VlS (.int .i64 (t : Int)) ?_
    refine VlS (.int .i64 ((t : Int) + 1)) ?_
    refine VlS (.int .i64 ((t : Int) + 1)) ?_
    refine WL.nil ?_
    refine ⟨⟨t + 1, .int .i64 (n : Int), .pointer (some ⟨q5, 0, none⟩), .int .i64 ee, u20, .int .i64 (t : Int), .slice (some ⟨lq, lo, none⟩) ls.length lc, .int .i64 (ls.length : Int), .bool true, .int .i64 (t : Int), .int .i64 ((t : Int) + 1), .pointer (some ⟨s, 0, none⟩), .int .i64 (n : Int), .tuple #[.agg (bytesA 32 c4), .int .i64 ee], .pointer (some ⟨s, 0, none⟩), .slice (some ⟨lq, lo, none⟩) ls.length lc, .int .i64 (t : Int), .pointer (some ⟨lq, lo + t, none⟩), .slice ra rn rc, .tuple #[.agg (bytesA 32 c4), .int .i64 ee], .agg (bytesA 32 c4), .int .i64 ee, z68, z69, z70, z71, z72, z73, z74, z75, z76, z77, z78, z79, z80, z81, z82, z83, z84, z85, z86, z87, u88, u89, u90, u91, u92, u93, u94, u95, u96, u97, u98, u99, u100, u101, u102, u103, u104, u105, u106, u107, sure', pa, pc, D', V, la', U', rfl, by omega, k1, k2, k3, by have := AQ.out; push_cast; omega⟩, by simp only [intOf]; show ls.length - ((t : Int) + 1).toNat < ls.length - ((t : Int)).toNat; omega⟩
   ·intro u20 u88 u89 u90 u91 u92 u93 u94 u95 u96 u97 u98 u99 u100 u101 u102 u103 u104 u105 u106 u107 w' D' U' k1 k2 k3 k4 k5 k6
    exact hk _ _ _ _ _ _ _ _ _ _ _ _ _ _ _ _ _ _ _ _ _ _ _ _ _ _ _ _ _ _ _ _ _ _ _ _ _ _ _ _ _ _ _ _ _ _ _ _ _ _ _ _ _ _ _ _ _ _ _ _ _ _ w' sure pa pc V.ps D' U' k1 k2 k3 k5 (by omega) (by have := AQ.out; have := Hll.out; omega)
  rcases Z4.out with ⟨hne, D4, V4, la4, k1, k2, k3, k4, -⟩ | ⟨rfl, k0, D4, k1, k2, k3⟩
  ·rcases k4 with ⟨k4, -⟩ | ⟨rfl, k4, -⟩
   ·have S6 := Keep.mk (k1.below B6.out)
    rcases Decidable.em (ee = 0) with he0 | he0
    ·subst he0
     refine rgn ?_
     refine VlS (.int .i64 0) ?_
     refine VlS (.bool true) ?_
     refine VlS (.bool true) ?_
     refine VlS (.pointer (some ⟨s, 0, none⟩)) ?_
     refine WL.callF (by kernel_rfl) 8 _ _ rfl Tryd.in8 #[ptr s] (by simp [Act.eval]) ?_
     refine (slen_sd s g m d p D4 V4 la4 U4 w6 S6.out).mono ?_
     rintro e wz ⟨rfl, hw⟩
     refine ⟨_, rfl, ?_⟩
     obtain rfl : w6 = wz := hw.symm
     clear hw
     rw [k4, ← hn.out]
     have hnn : ¬ (n : Int) < (n : Int) := by omega
     simp only [Act.put, pqA, pqB, pqC]
     refine VlS (.int .i64 (n : Int)) ?_
     refine VlS (.bool false) ?_
     refine VlS (.bool false) ?_
     refine VlS (.bool false) ?_
     refine VlS (.int .i64 0) ?_
     refine VlS (.bool false) ?_
     refine VlS (.bool false) ?_
     refine WL.nil (hK8 _ _ ?_)
     refine wp_cond_false rfl ?_
     refine wp_skip ?_
     exact rest _ _ _ _ _ _ _ _ _ _ _ _ _ _ _ _ _ _ _ _ _ pa pc D4 V4 la4 U4 hne (by rw [k4]; exact C6.out) S6.out k2 (by have := AR.out; have := k3; omega)
    ·refine rgn ?_
     refine VlS (.int .i64 ee) ?_
     refine VlS (.bool false) ?_
     refine VlS (.bool false) ?_
     refine SkS ?_
     refine SkS ?_
     refine SkS ?_
     refine SkS ?_
     refine VlS (.bool false) ?_
     refine VlS (.bool false) ?_
     refine VlS (.int .i64 ee) ?_
     refine VlS (.bool false) ?_
     refine VlS (.bool false) ?_
     refine WL.nil (hK8 _ _ ?_)
     refine wp_cond_false rfl ?_
     refine wp_skip ?_
     exact rest _ _ _ _ _ _ _ _ _ _ _ _ _ _ _ _ _ _ _ _ _ pa pc D4 V4 la4 U4 hne (by rw [k4]; exact C6.out) S6.out k2 (by have := AR.out; have := k3; omega)
   ·have S6 := Keep.mk (k1.below B6.out)
    refine rgn ?_
    refine VlS (.int .i64 0) ?_
    refine VlS (.bool true) ?_
    refine VlS (.bool true) ?_
    refine VlS (.pointer (some ⟨s, 0, none⟩)) ?_
    refine WL.callF (by kernel_rfl) 8 _ _ rfl Tryd.in8 #[ptr s] (by simp [Act.eval]) ?_
    refine (slen_sd s g m d p D4 V4 la4 U4 w6 S6.out).mono ?_
    rintro e wz ⟨rfl, hw⟩
    refine ⟨_, rfl, ?_⟩
    obtain rfl : w6 = wz := hw.symm
    clear hw
    rw [show (V4.ps.length : Int) = (n : Int) + 1 by rw [k4, List.length_append, ← hn.out]; rfl]
    have hnn : (n : Int) < (n : Int) + 1 := by omega
    simp only [Act.put, pqA, pqB, pqC]
    refine VlS (.int .i64 (n : Int)) ?_
    refine VlS (.bool true) ?_
    refine VlS (.bool true) ?_
    refine VlS (.bool true) ?_
    refine SkS ?_
    refine SkS ?_
    refine VlS (.bool true) ?_
    refine WL.nil (hK8 _ _ ?_)
    refine wp_cond_true rfl ?_
    refine wp_mono (put15 (w := w) (KK := K7) C6.out hn.out Hfew.out hlt HLc.out ?_) (fun e a w h => by cases e <;> first | exact h | exact h.elim)
    intro z80 z81 z82 z83 z84 z85 z86 z87 w10 xa xc c1 g1
    have C10 := Keep.mk c1
    have GT := Keep.mk g1
    clear c1 g1
    exact rest _ _ _ _ _ _ _ _ _ _ _ _ _ _ _ _ _ _ _ _ _ xa xc D4 V4 la4 U4 hne (by rw [k4]; exact C10.out) (S6.out.grown GT.out (fun e => by rcases e with e | e; exact absurd ((C6.out.os.typ (by rw [← hn.out]; exact e)).one C6.out.dk.typ) (by decide); exact absurd (C6.out.dk.typ.one (e ▸ C6.out.pb.typ)) (by decide)) (fun k hk e => by rcases e with e | e; exact (C6.out.u k hk).2.2.2.2.2.2 (by rw [← hn.out]; exact e); exact (C6.out.u k hk).2.2.2.1 e)) k2 (by have := AR.out; have := k3; omega)
  ·clear rest
   refine rgn ?_
   refine VlS (.int .i64 7) ?_
   refine VlS (.bool false) ?_
   refine VlS (.bool false) ?_
   refine SkS ?_
   refine SkS ?_
   refine SkS ?_
   refine SkS ?_
   refine VlS (.bool false) ?_
   refine VlS (.bool false) ?_
   refine VlS (.int .i64 7) ?_
   refine VlS (.bool true) ?_
   refine VlS (.bool true) ?_
   refine WL.nil (hK8 _ _ ?_)
   refine wp_cond_true rfl ?_
   refine wp_mono (put15 (w := w) (KK := K7) C6.out hn.out Hfew.out hlt HLc.out ?_) (fun e a w h => by cases e <;> first | exact h | exact h.elim)
   intro z80 z81 z82 z83 z84 z85 z86 z87 w10 xa xc c1 g1
   have C10 := Keep.mk c1
   have GT := Keep.mk g1
   clear c1 g1
   have hd6 : DskN w6 d p D4 U4 := k1.below B6.out
   have hd10 : DskN w10 d p D4 U4 := hd6.grown GT.out (fun e => by rcases e with e | e; exact absurd ((C6.out.os.typ (by rw [← hn.out]; exact e)).one C6.out.dk.typ) (by decide); exact absurd (C6.out.dk.typ.one (e ▸ C6.out.pb.typ)) (by decide)) (fun k _ hk e => by rcases e with e | e; exact (C6.out.u k hk).2.2.2.2.2.2 (by rw [← hn.out]; exact e); exact (C6.out.u k hk).2.2.2.1 e)
   refine hK7 _ _ ?_
   refine wp_seq_k fun K9 hK9 => ?_
   refine wp_seq_k fun K10 hK10 => rgn ?_
   refine VlS (.int .i64 7) ?_
   refine VlS (.bool true) ?_
   refine WL.nil (hK10 _ _ ?_)
   refine wp_cond_true rfl ?_
   refine wp_exit ?_
   exact hk _ _ _ _ _ _ _ _ _ _ _ _ _ _ _ _ _ _ _ _ _ _ _ _ _ _ _ _ _ _ _ _ _ _ _ _ _ _ _ _ _ _ _ _ _ _ _ _ _ _ _ _ _ _ _ _ _ _ _ _ _ _ w10 sure xa xc (V.ps ++ [qq]) D4 U4 C10.out hd10 k2 (Hdis.out.snoc k0) (by rw [List.length_append, List.length_singleton, ← hn.out]; have := Hfew.out; omega) (by have := AR.out; have := Hll.out; omega)
 ·have htl' : ¬ (t : Int) < (ls.length : Int) := by omega
  have Hdis : Keep (DisK V.ps) := ⟨by obtain ⟨_, _, _, _, _, _, _, _, hd⟩ := SR.out; exact hd⟩
  have hdn : DskN wr d p D U := by
   obtain ⟨_, _, N, _, _, hj, hN, _⟩ := SR.out
   exact hj.dsk fun k hk => (hN k hk).1
  refine wp_seq_k fun K11 hK11 => ?_
  refine wp_seq_k fun K12 hK12 => rgn ?_
  refine VlS (.int .i64 (t : Int)) ?_
  refine VlS (.slice la0 ls.length lc) ?_
  refine VlS (.int .i64 (ls.length : Int)) ?_
  refine VlS (.bool false) ?_
  refine WL.nil (hK12 _ _ ?_)
  refine wp_cond_false rfl ?_
  refine wp_exit ?_
  exact hk _ _ _ _ _ _ _ _ _ _ _ _ _ _ _ _ _ _ _ _ _ _ _ _ _ _ _ _ _ _ _ _ _ _ _ _ _ _ _ _ _ _ _ _ _ _ _ _ _ _ _ _ _ _ _ _ _ _ _ _ _ _ wr sure pa pc V.ps D U CR0.out hdn (XR.out.ji.cr XR.out.su) Hdis.out (by have := XR.out.ji.few.1; omega) (by have := AR.out; have := Hll.out; omega)
set_option maxRecDepth 8000 in
set_option maxHeartbeats 4000000 in
theorem crash_law (vl vb vk : Value) (fu : Int) (ls : List (List Int)) (bs : List Bool) (kp : List Int) (w : World) (hT : Tab w) (hZ : 0 < w.heap.size) (hLs : RwsAt w vl ls) (hBy : ∀ l ∈ ls, Byts l ∧ l.length ≤ 140737488355328) (hll : ls.length ≤ 140737488355328) (hBs : BolsAt w vb bs) (hfu : fu ≤ 9223372036854775807) (hK : IntsAt w vk kp) (hKb : kp ≠ [] → ∀ k, vk.ownBlock = some k → k < w.heap.size) :
  Calls Tryd.prog 3 #[vl, vb, .int .i64 fu, vk] w (fun e w' => e = .returned (.bool true) ∧ Below w.heap.size w w') := by
 obtain ⟨la0, lc, rfl⟩ := hLs.form
 obtain ⟨ba0, bc0, rfl⟩ := hBs.form
 have HT := Keep.mk hT
 have HZ := Keep.mk hZ
 have HLs := Keep.mk hLs
 have HBy := Keep.mk hBy
 have Hll := Keep.mk hll
 have HBs := Keep.mk hBs
 have Hfu := Keep.mk hfu
 have HK := Keep.mk hK
 have HKb := Keep.mk hKb
 clear hT hZ hLs hBy hll hBs hfu hK hKb
 refine (callsIn_wide (n := 3)).1 ?_
 refine callsIn_of_wp_marks Tryd.func3 rfl trivial ?_ rfl
 refine wpIn_wide.2 ?_
 simp only [Tryd.ntmps3, List.size_toArray, List.length_cons, List.length_nil, Nat.reduceAdd, Nat.reduceSub, Array.replicate_succ, Array.replicate_zero, List.push_toArray, List.append_toArray, List.nil_append, List.cons_append]
 refine wp_seq_k fun K1 hK1 => rgn ?_
 refine WL.new (by kernel_rfl) 4 rfl _ Tryd.newBool ?_
 have R1 := Keep.mk (Blk.new w 4 #[.bool false])
 have B1 := Keep.mk (below_new w (.cells #[.bool false] 4))
 change WL _ _ _ _ _ (w.alloc (.cells #[.bool false] 4))
 generalize w.alloc (.cells #[.bool false] 4) = w1 at *
 obtain ⟨r8, hr8⟩ : ∃ z, Keep (z = w.heap.size) := ⟨_, ⟨rfl⟩⟩
 rw [← hr8.out] at R1 ⊢
 simp only [Act.put, pqA, pqB, pqC]
 refine WL.nil (hK1 _ _ ?_)
 refine wp_seq_k fun K2 hK2 => rgn ?_
 refine WL.callF (by kernel_rfl) 4 _ _ rfl Tryd.in4 #[] (by simp) ?_
 refine (bfixed_any w1 (HT.out.below B1.out HZ.out) (by have := B1.out.size; have := HZ.out; omega)).mono ?_
 rintro e w2 ⟨rfl, h2⟩
 refine ⟨_, rfl, ?_⟩
 have R2 := Keep.mk (R1.out.below h2 R1.out.lt)
 have B2 : Keep (Below w.heap.size w w2) := ⟨B1.out.trans (h2.mono B1.out.size)⟩
 clear h2 R1 B1
 simp only [Act.put, pqA, pqB, pqC]
 refine VlS (.bool true) ?_
 refine WL.nil (hK2 _ _ ?_)
 refine wp_seq_k fun K3 hK3 => rgn ?_
 refine WL.callF (by kernel_rfl) 5 _ _ rfl Tryd.in5 #[.int .i64 1073741824] (by simp [Act.eval]) ?_
 refine (dnew_any 1073741824 w2).mono ?_
 rintro e w3 ⟨p, d, h, rfl, h1, h2, h3, h4, h5, h6, h7⟩
 refine ⟨_, rfl, ?_⟩
 have E3 : Keep (DskAt w3 p (.slice none 0 0) [] (Dnew 1073741824)) := ⟨h1⟩
 have P3 := Keep.mk h2
 have H3 := Keep.mk h3
 have L3 : Keep (w2.heap.size ≤ p ∧ w2.heap.size ≤ d ∧ w2.heap.size ≤ h) := ⟨h4, h5, h6⟩
 have R3 := Keep.mk (R2.out.below h7 R2.out.lt)
 have B3 : Keep (Below w.heap.size w w3) := ⟨B2.out.trans (h7.mono B2.out.size)⟩
 have Z3 : Keep (r8 < w2.heap.size ∧ w.heap.size ≤ w2.heap.size) := ⟨R2.out.lt, B2.out.size⟩
 clear h1 h2 h3 h4 h5 h6 h7 R2 B2
 simp only [Act.put, pqA, pqB, pqC]
 refine VlS (.tuple #[.pointer (some ⟨d, 0, none⟩), .pointer (some ⟨h, 0, none⟩)]) ?_
 refine VlS (.pointer (some ⟨d, 0, none⟩)) ?_
 refine VlS (.pointer (some ⟨h, 0, none⟩)) ?_
 refine VlS (.pointer (some ⟨d, 0, none⟩)) ?_
 refine VlS (.pointer (some ⟨h, 0, none⟩)) ?_
 refine WL.nil (hK3 _ _ ?_)
 refine wp_seq_k fun K4 hK4 => rgn ?_
 refine VlS (.pointer (some ⟨d, 0, none⟩)) ?_
 refine WL.callF (by kernel_rfl) 6 _ _ rfl Tryd.in6 #[ptr d] (by simp [Act.eval]) ?_
 have hdp : d ≠ p := fun e => absurd (P3.out.typ.one (e ▸ E3.out.blk.typ)) (by decide)
 have hhp : h ≠ p := fun e => absurd (H3.out.typ.one (e ▸ E3.out.blk.typ)) (by decide)
 refine (bopen_any d p (Dnew 1073741824) (fun k => k = p) w3 (HT.out.below B3.out HZ.out) ⟨P3.out, _, _, E3.out, fun k hk => ?_⟩ (fun e => by have := L3.out.1; have := Z3.out; have := HZ.out; omega) hdp (fun k hk => hk ▸ E3.out.blk.lt) (dok_new _) rfl (by show (0 : Int) ≤ 4611686018427380000; omega) rfl (by rw [openV_new]; exact DisK.nil) (by rw [openV_new]; exact Nat.zero_le _)).mono ?_
 ·rcases hk with hk | hk | ⟨i, y, hy, _⟩
  ·exact hk
  ·simp [Value.ownBlock] at hk
  ·simp at hy
 rintro e w4 ⟨s, g, m, vl, L, D', B, C, rfl, a1, a2, a3, a4, a5, a6, a7, a8, a9, a10, a11, a12, a13⟩
 have hD' := mpost_new a1
 subst hD'
 rw [openV_new] at a3 a8
 obtain ⟨U, hU⟩ : ∃ U : Nat → Prop, Keep (U = fun k => w2.heap.size ≤ k ∧ k < w4.heap.size ∧ k ≠ d ∧ k ≠ h) := ⟨_, ⟨rfl⟩⟩
 have hpl := E3.out.blk.lt
 have hdl := P3.out.lt
 have hhl := H3.out.lt
 have hs1 := B3.out.size
 have hz3 := Z3.out
 have hl3 := L3.out
 have S4 : Keep (SD w4 s g m d p (Dnew 1073741824) JV.nil false U) := ⟨sd_begun a2 a3 rfl a7 a8 a4 a5 a9 a10 a11 (fun k hk hl => by
  rw [hU.out]
  rcases hk with rfl | hk
  ·exact ⟨hl3.1, hl, fun e => hdp e.symm, fun e => hhp e.symm⟩
  ·exact ⟨by omega, hl, by omega, by omega⟩) a6⟩
 have H4 : Keep (Blk w4 h 55 #[ptr p]) := ⟨a13.blk H3.out hhp⟩
 have P4 : Keep (Blk w4 d 53 #[ptr p]) := ⟨a13.blk P3.out hdp⟩
 have R4 : Keep (Blk w4 r8 4 #[.bool false]) := ⟨a13.blk R3.out (by omega)⟩
 have U4 : Keep ((∀ k, U k → w2.heap.size ≤ k ∧ k < w4.heap.size) ∧ ¬ U d ∧ ¬ U h) := ⟨by rw [hU.out]; exact ⟨fun k hk => ⟨hk.1, hk.2.1⟩, fun e => e.2.2.1 rfl, fun e => e.2.2.2 rfl⟩⟩
 have B4 : Keep (Below w.heap.size w w4) := ⟨B3.out.trans (a13.to_below (fun k hk e => by omega) hs1)⟩
 clear a1 a2 a3 a4 a5 a6 a7 a8 a9 a10 a11 a12 a13 hU hpl hdl hhl hs1 hdp hhp hz3 hl3 E3 P3 H3 B3 R3
 refine ⟨_, rfl, ?_⟩
 simp only [Act.put, pqA, pqB, pqC]
 refine VlS (.tuple #[.pointer (some ⟨s, 0, none⟩), .int .i64 0]) ?_
 refine VlS (.pointer (some ⟨s, 0, none⟩)) ?_
 refine VlS (.int .i64 0) ?_
 refine VlS (.pointer (some ⟨s, 0, none⟩)) ?_
 refine VlS (.int .i64 0) ?_
 refine WL.nil (hK4 _ _ ?_)
 refine wp_seq_k fun K5 hK5 => ?_
 refine wp_seq_k fun K6 hK6 => rgn ?_
 refine VlS (.bool true) ?_
 refine VlS (.bool false) ?_
 refine VlS (.bool false) ?_
 refine VlS (.pointer (some ⟨s, 0, none⟩)) ?_
 refine VlS (.bool false) ?_
 refine VlS (.bool false) ?_
 refine VlS (.bool false) ?_
 refine VlS (.int .i64 0) ?_
 refine VlS (.bool false) ?_
 refine VlS (.bool false) ?_
 refine WL.nil (hK6 _ _ ?_)
 refine wp_cond_false rfl ?_
 refine wp_skip ?_
 refine hK5 _ _ ?_
 refine wp_seq_k fun K7 hK7 => rgn ?_
 refine VlS (.pointer (some ⟨h, 0, none⟩)) ?_
 refine VlS (.int .i64 fu) ?_
 refine WL.callF (by kernel_rfl) 7 _ _ rfl Tryd.in7 #[ptr h, .int .i64 fu] (by simp [Act.eval]) ?_
 refine (fuse_sd s g m d p h fu _ _ _ U w4 H4.out S4.out U4.out.2.1).mono ?_
 rintro e w5 ⟨rfl, h1, h2⟩
 refine ⟨_, rfl, ?_⟩
 have S5 : Keep (SD w5 s g m d p (Dfu fu) JV.nil false U) := ⟨h1⟩
 have H5 := Keep.mk (h2.blk H4.out U4.out.2.2)
 have P5 := Keep.mk (h2.blk P4.out U4.out.2.1)
 have R5 : Keep (Blk w5 r8 4 #[.bool false]) := ⟨h2.blk R4.out fun e => by have := (U4.out.1 r8 e).1; have := Z3.out; omega⟩
 have B5 : Keep (Below w.heap.size w w5) := ⟨B4.out.trans (h2.to_below (fun k hk e => by have := (U4.out.1 k e).1; have := Z3.out; omega) B4.out.size)⟩
 have Z5 : Keep (w4.heap.size ≤ w5.heap.size) := ⟨h2.size⟩
 clear h1 h2 S4 H4 P4 R4 B4
 simp only [Act.put, pqA, pqB, pqC]
 refine WL.nil (hK7 _ _ ?_)
 refine wp_seq_k fun K8 hK8 => rgn ?_
 refine WL.new (by kernel_rfl) 35 rfl _ Tryd.newTx ?_
 have hbx := below_new w5 (.cells #[.slice none 0 0] 35)
 have T6 := Keep.mk (Blk.new w5 35 #[.slice none 0 0])
 have S6 := Keep.mk (S5.out.below hbx)
 have H6 := Keep.mk (H5.out.below hbx H5.out.lt)
 have P6 := Keep.mk (P5.out.below hbx P5.out.lt)
 have R6 := Keep.mk (R5.out.below hbx R5.out.lt)
 have B6 : Keep (Below w.heap.size w (w5.alloc (.cells #[.slice none 0 0] 35))) := ⟨B5.out.trans (hbx.mono B5.out.size)⟩
 have Z6 : Keep (w5.heap.size ≤ (w5.alloc (.cells #[.slice none 0 0] 35)).heap.size) := ⟨hbx.size⟩
 clear hbx
 change WL _ _ _ _ _ (w5.alloc (.cells #[.slice none 0 0] 35))
 generalize w5.alloc (.cells #[.slice none 0 0] 35) = w6 at *
 obtain ⟨b14, hb14⟩ : ∃ z, Keep (z = w5.heap.size) := ⟨_, ⟨rfl⟩⟩
 rw [← hb14.out] at T6 ⊢
 have C6 : Keep (LC w w6 d h p r8 b14 none 0 [] U) := ⟨by
  refine ⟨HT.out.below B6.out HZ.out, HZ.out, B6.out, R6.out, by rw [hr8.out]; exact Nat.le_refl _, T6.out, by rw [hb14.out]; exact B5.out.size, ⟨rfl, .inl ⟨rfl, rfl⟩⟩, (fun k hk => by cases hk), P6.out, H6.out, fun k hk => ?_⟩
  have h1 := U4.out.1 k hk
  have h2 := Z3.out
  have h3 := Z5.out
  have h4 := Z6.out
  have h5 := hb14.out
  exact ⟨by omega, by omega, by omega, by omega, fun e => U4.out.2.1 (e ▸ hk), fun e => U4.out.2.2 (e ▸ hk), fun e => by cases e⟩⟩
 clear T6 H6 P6 R6 B6 S5 H5 P5 R5 B5 Z5 Z6 Z3 U4 L3 hb14 hr8
 simp only [Act.put, pqA, pqB, pqC]
 refine WL.nil (hK8 _ _ ?_)
 refine wp_seq_k fun K9 hK9 => rgn ?_
 refine VlS (.int .i64 0) ?_
 refine WL.nil (hK9 _ _ ?_)
 refine wp_seq_k fun K9 hK9 => ?_
 refine loop9 (w := w) C6.out S6.out Hfu.out HLs.out HBy.out Hll.out HBs.out ?_
 intro z16 z17 z18 z19 z20 z51 z52 z53 z54 z55 z56 z57 z58 z59 z60 z61 z62 z63 z64 z65 z66 z67 z68 z69 z70 z71 z72 z73 z74 z75 z76 z77 z78 z79 z80 z81 z82 z83 z84 z85 z86 z87 z88 z89 z90 z91 z92 z93 z94 z95 z96 z97 z98 z99 z100 z101 z102 z103 z104 z105 z106 z107 wz sure pa pc all D U c1 c2 c3 c4 c5 c6
 refine hK9 _ _ ?_
 obtain ⟨-, vf9, cs9, e1, e2⟩ := c2
 exact turns c1.tb c1.hh e1 (fun k hk => (c1.u k (e2 k hk)).1) c3 c4 c5 c6 (HK.out.below c1.bel) HKb.out
end Go.Proofs.YtlggejehaonkcaaDoor
namespace Go.Proofs.YtlggejehaonkcaaDoor
open Go.ChangeShapes Go.WideShapes Go.ChangeAt Go.RowKit Go.Deep
set_option linter.unusedSimpArgs false
set_option linter.unusedVariables false

theorem Tryd.jcells41 : Tryd.prog.cellsOf 41 = 1 := by kernel_rfl
theorem Tryd.jcells5 : Tryd.prog.cellsOf 5 = 1 := by kernel_rfl
theorem Tryd.jcells3 : Tryd.prog.cellsOf 3 = 1 := by kernel_rfl
theorem Tryd.jcells4 : Tryd.prog.cellsOf 4 = 1 := by kernel_rfl
theorem Tryd.undIs : Tryd.prog.underlying 24 = some (.slice 3) := by kernel_rfl
theorem Tryd.undRw : Tryd.prog.underlying 22 = some (.slice 41) := by kernel_rfl
theorem Tryd.undBs : Tryd.prog.underlying 23 = some (.slice 4) := by kernel_rfl
theorem Tryd.undB : Tryd.prog.underlying 4 = some .bool := by kernel_rfl
theorem Tryd.jbytes5 : Tryd.prog.bytesOf 5 = 1 := by kernel_rfl
theorem Tryd.jbytes41 : Tryd.prog.bytesOf 41 = 24 := by kernel_rfl
theorem reach_is : reachBytes = 140737488351232 := by decide
theorem jadd_none (b o i : Nat) : (⟨b, o, none⟩ : Addr).add i = ⟨b, o + i, none⟩ := by
 simp [Addr.add]
theorem jwf_u8 {n : Int} (h : (Lit.int .u8 n).wf = true) : 0 ≤ n ∧ n < 256 := by
 have h1 : IntKind.u8.min = 0 := by decide
 have h2 : IntKind.u8.max = 255 := by decide
 simp only [Lit.wf, h1, h2, Bool.and_eq_true, decide_eq_true_eq] at h
 omega
theorem jwf_i64 {n : Int} (h : (Lit.int .i64 n).wf = true) : -9223372036854775808 ≤ n ∧ n ≤ 9223372036854775807 := by
 have h1 : IntKind.i64.min = -9223372036854775808 := by decide
 have h2 : IntKind.i64.max = 9223372036854775807 := by decide
 simp only [Lit.wf, h1, h2, Bool.and_eq_true, decide_eq_true_eq] at h
 omega
theorem mem_weightsAll {H : Type} {P : Program} {e : TypeId} {d : DataW H} : ∀ {ds : List (DataW H)}, d ∈ ds → ∀ n ∈ d.weights P e, n ∈ DataW.weightsAll P e ds
 | d0 :: ds, h, n, hn => by
  simp only [DataW.weightsAll, List.mem_append]
  rcases List.mem_cons.1 h with rfl | h
  ·exact .inl hn
  ·exact .inr (mem_weightsAll h n hn)
theorem brow_of_trod {H : Type} {enc : TypeId × Value → H} {W : World} {sp : Nat → Bool} {held : Bool} {n base : Nat} {v : Value} {x : DataW H × List MemPlace} (hf : DataW.trod enc Tryd.prog W base sp held n 41 [v] = some x) (hw : ∀ n ∈ x.1.weights Tryd.prog 41, n ≤ reachBytes) :
  ∃ l : List Int, RowAt W v l ∧ Byts l ∧ l.length ≤ 140737488351232 := by
 rcases open_ints Tryd.underlying41 Tryd.underlying5 Tryd.jcells5 hf with ⟨hcs, _⟩ | ⟨a, len, cap, zs, hcs, _, hl, hm, hz, hx, hcell, hwz⟩
 ·simp at hcs
  subst hcs
  exact ⟨[], .inl ⟨rfl, rfl⟩, fun c hc => by simp at hc, by simp⟩
 ·simp at hcs
  subst hcs
  unfold maxLen at hm
  have hlz : len ≤ zs.length := by rw [hz]; split <;> omega
  have hbz : Byts zs := fun c hc => jwf_u8 (hwz c hc)
  have hb : len ≤ 140737488351232 := by
   have h1 := hw ((zs.take len).length + (zs.drop len).length) (by
    rw [hx]
    simp only [DataW.weights, Tryd.underlying41]
    simp [lits, Tryd.jbytes5])
   rw [List.length_take, reach_is] at h1
   omega
  by_cases h0 : len = 0
  ·subst h0
   exact ⟨[], .inr (.inl ⟨a, cap, rfl, rfl⟩), fun c hc => by simp at hc, by simp⟩
  ·have hs : a.spot = none := by
    have := hcell 0 (by omega)
    rw [show a.add 0 = a from rfl] at this
    exact World.cell?_spot this
   obtain ⟨b, off, sp⟩ := a
   obtain rfl : sp = none := hs
   have hlen : (zs.take len).length = len := by rw [List.length_take]; omega
   refine ⟨zs.take len, .inr (.inr ⟨b, off, cap, by rw [hlen], by omega, fun i hi => ?_⟩), fun c hc => hbz c (List.mem_of_mem_take hc), by omega⟩
   rw [hlen] at hi
   have := hcell i (by omega)
   rw [jadd_none] at this
   rw [this]
   simp [List.getD, hi]
theorem rws_of_trod {H : Type} {enc : TypeId × Value → H} {W : World} {sp : Nat → Bool} {held : Bool} {n base : Nat} {v : Value} {x : DataW H × List MemPlace} (hf : DataW.trod enc Tryd.prog W base sp held n 22 [v] = some x) (hw : ∀ n ∈ x.1.weights Tryd.prog 22, n ≤ reachBytes) :
  ∃ ls : List (List Int), RwsAt W v ls ∧ ls.length ≤ 140737488355328 ∧ ∀ r ∈ ls, Byts r ∧ r.length ≤ 140737488355328 := by
 rcases open_slice1 Tryd.undRw Tryd.jcells41 hf with ⟨hcs, _⟩ | ⟨a, len, cap, m, n, V, D, Pl, hcs, _, hl, hm, hz, hx, hcell⟩
 ·simp at hcs
  subst hcs
  exact ⟨[], RwsAt.nil W, by simp, fun r hr => by simp at hr⟩
 ·simp at hcs
  subst hcs
  have hlz : len ≤ m := by rw [hz]; split <;> omega
  have hb : len ≤ 140737488355328 := by
   have h1 := hw ((((List.range len).map D).length + ((List.range (m - len)).map fun j => D (len + j)).length) * 24) (by
    rw [hx]
    simp only [DataW.weights, Tryd.undRw]
    simp [Tryd.jbytes41])
   rw [reach_is] at h1
   simp only [List.length_map, List.length_range] at h1
   omega
  have hwD : ∀ i, i < len → ∀ n ∈ (D i).weights Tryd.prog 41, n ≤ reachBytes := fun i hi n hn => hw n (by
   rw [hx]
   simp only [DataW.weights, Tryd.undRw]
   refine List.mem_cons_of_mem _ (List.mem_append_left _ (mem_weightsAll (d := D i) ?_ n hn))
   exact List.mem_map.2 ⟨i, List.mem_range.2 hi, rfl⟩)
  obtain ⟨rows, hrows⟩ := Go.Deep.choose_lt (n := len) (p := fun i l => RowAt W (V i) l ∧ Byts l ∧ l.length ≤ 140737488351232) fun i hi => brow_of_trod (hcell i (by omega)).2 (hwD i hi)
  have hg : ∀ i, i < len → ((List.range len).map rows).getD i [] = rows i := fun i hi => by rw [List.getD_eq_getElem?_getD]; simp [hi]
  refine ⟨(List.range len).map rows, ⟨V, ?_, fun i hi => ?_⟩, by simpa using hb, fun r hr => ?_⟩
  ·by_cases h0 : len = 0
   ·subst h0
    exact .inl ⟨_, _, rfl, rfl⟩
   ·have hs : a.spot = none := by
     have := (hcell 0 (by omega)).1
     rw [show a.add 0 = a from rfl] at this
     exact World.cell?_spot this
    obtain ⟨b, off, sp⟩ := a
    obtain rfl : sp = none := hs
    refine .inr ⟨b, off, cap, by simp, by simpa using hl, fun i hi => ?_⟩
    have := (hcell i (by simp at hi; omega)).1
    rw [jadd_none] at this
    exact this
  ·have hi' : i < len := by simpa using hi
   rw [hg i hi']; exact (hrows i hi').1
  ·obtain ⟨i, hi, rfl⟩ := List.mem_map.1 hr
   have h1 := hrows i (List.mem_range.1 hi)
   exact ⟨h1.2.1, by have := h1.2.2; omega⟩
theorem bols_of_trod {H : Type} {enc : TypeId × Value → H} {W : World} {sp : Nat → Bool} {held : Bool} {n base : Nat} {v : Value} {x : DataW H × List MemPlace} (hf : DataW.trod enc Tryd.prog W base sp held n 23 [v] = some x) : ∃ l : List Bool, BolsAt W v l := by
 rcases open_slice1 Tryd.undBs Tryd.jcells4 hf with ⟨hcs, _⟩ | ⟨a, len, cap, m, n, V, D, Pl, hcs, _, hl, hm, hz, hx, hcell⟩
 ·simp at hcs
  subst hcs
  exact ⟨[], .inl ⟨none, 0, rfl, rfl⟩⟩
 ·simp at hcs
  subst hcs
  have hlz : len ≤ m := by rw [hz]; split <;> omega
  obtain ⟨bs, hbs⟩ := Go.Deep.choose_lt (n := len) (p := fun i b => V i = .bool b) fun i hi => by
   obtain ⟨b, h1, _⟩ := DataW.trod_bool Tryd.undB (hcell i (by omega)).2
   exact ⟨b, by simpa using h1⟩
  by_cases h0 : len = 0
  ·subst h0
   exact ⟨[], .inl ⟨_, _, rfl, rfl⟩⟩
  ·have hs : a.spot = none := by
    have := (hcell 0 (by omega)).1
    rw [show a.add 0 = a from rfl] at this
    exact World.cell?_spot this
   obtain ⟨b, off, sp⟩ := a
   obtain rfl : sp = none := hs
   refine ⟨(List.range len).map bs, .inr ⟨b, off, cap, by simp, fun i y hy => ?_⟩⟩
   have hi : i < len := by have := (List.getElem?_eq_some_iff.1 hy).1; simpa using this
   simp [hi] at hy
   subst hy
   have := (hcell i (by omega)).1
   rw [jadd_none] at this
   rw [this, hbs i hi]
theorem jints_of_trod {H : Type} {enc : TypeId × Value → H} {W : World} {sp : Nat → Bool} {held : Bool} {n base : Nat} {v : Value} {x : DataW H × List MemPlace} (hf : DataW.trod enc Tryd.prog W base sp held n 24 [v] = some x) :
  ∃ l : List Int, IntsAt W v l ∧ (l ≠ [] → ∀ k, v.ownBlock = some k → k < W.heap.size) := by
 rcases open_ints Tryd.undIs Tryd.underlying3 Tryd.jcells3 hf with ⟨hcs, _⟩ | ⟨a, len, cap, zs, hcs, _, hl, hm, hz, hx, hcell, hwz⟩
 ·simp at hcs
  subst hcs
  exact ⟨[], .inl ⟨none, 0, rfl, rfl⟩, fun h => absurd rfl h⟩
 ·simp at hcs
  subst hcs
  have hlz : len ≤ zs.length := by rw [hz]; split <;> omega
  have hlen : (zs.take len).length = len := by rw [List.length_take]; omega
  by_cases h0 : len = 0
  ·subst h0
   exact ⟨[], .inl ⟨_, _, rfl, rfl⟩, fun h => absurd rfl h⟩
  ·have hs : a.spot = none := by
    have := hcell 0 (by omega)
    rw [show a.add 0 = a from rfl] at this
    exact World.cell?_spot this
   obtain ⟨b, off, sp⟩ := a
   obtain rfl : sp = none := hs
   refine ⟨zs.take len, .inr ⟨b, off, cap, by rw [hlen], fun i hi => ?_⟩, fun _ k hk => ?_⟩
   ·rw [hlen] at hi
    have := hcell i (by omega)
    rw [jadd_none] at this
    rw [this]
    simp [List.getD, hi]
   ·have e : b = k := Option.some.inj hk
    subst e
    have := hcell 0 (by omega)
    exact cell_lt this
end Go.Proofs.YtlggejehaonkcaaDoor
