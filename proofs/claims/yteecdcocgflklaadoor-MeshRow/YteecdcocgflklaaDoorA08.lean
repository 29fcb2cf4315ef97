import Derived.Test.YteecdcocgflklaaDoorA07
import Derived.Test.YteecdcocgflklaaDoorRows
import Derived.ProofKit
import Derived.OpenShut
import Derived.ChangeOld
import Derived.Below
import Derived.SizedLaws
import Derived.Deep.Slices
namespace Go.Proofs.YteecdcocgflklaaDoor
open Go.RowKit
set_option linter.unusedSimpArgs false
set_option linter.unusedVariables false
theorem Tryd.in5 (w : World) (vs : Array Value) : (callFunc 5 vs).run Tryd.prog w = .ok (.enter 5 vs) w := by kernel_rfl
set_option maxRecDepth 8000 in
set_option maxHeartbeats 1000000 in
theorem mrow_any (w : World) (qe : Addr) (HE : Keep (ErrI w qe)) (la oa ta : Option Addr) (lc oc tc : Nat) (L Os : List (List Int)) (T : List Bool) (HR : Keep (RwsAt w (.slice la L.length lc) L)) (HRo : Keep (RwsAt w (.slice oa Os.length oc) Os)) (HT : Keep (BolsAt w (.slice ta T.length tc) T)) (HBy : Keep (∀ r ∈ L, Byts r)) (HBo : Keep (∀ r ∈ Os, Byts r)) (HN : Keep (L.length ≤ 140737488355328)) (HM : Keep (Os.length ≤ 140737488355328)) : Calls Tryd.prog 5 #[.slice la L.length lc, .slice oa Os.length oc, .slice ta T.length tc] w fun e w' => e = .returned (.bool true) ∧ Below w.heap.size w w' := by
  go_enter Tryd.func5, Tryd.ntmps5
  refine wp_seq_k fun K1 hK1 => ?_
  refine wp_region_list (WL.out ?_)
  refine WL.val (by kernel_rfl) (.bool false) (by go_simp) ?_
  simp only [Act.put, List.setIfInBounds_toArray, List.set_cons_zero, List.set_cons_succ]
  refine WL.nil ?_
  refine hK1 _ _ ?_
  refine wp_seq_k fun K2 hK2 => ?_
  refine wp_region_list (WL.out ?_)
  refine WL.callF (by kernel_rfl) 7 _ _ rfl Tryd.in7 #[] (by simp) ?_
  refine (fixed_any w qe HE).mono ?_
  rintro e w1 ⟨rfl, hb⟩
  refine ⟨_, rfl, ?_⟩
  have B1 := Keep.mk hb
  clear hb
  simp only [Act.put, List.setIfInBounds_toArray, List.set_cons_zero, List.set_cons_succ]
  refine WL.val (by kernel_rfl) (.bool true) (by go_simp) ?_
  simp only [Act.put, List.setIfInBounds_toArray, List.set_cons_zero, List.set_cons_succ]
  refine WL.nil ?_
  refine hK2 _ _ ?_
  refine wp_seq_k fun K3 hK3 => ?_
  refine wp_region_list (WL.out ?_)
  refine WL.callF (by kernel_rfl) 8 _ _ rfl Tryd.in8 #[.int .i64 3] (by simp [Act.eval]) ?_
  refine (ls_new B1.out (N := 3) (by decide) 2 3 (by decide)).mono ?_
  rintro e w2 ⟨p, mb, rfl, hL⟩
  refine ⟨_, rfl, ?_⟩
  have L2 := Keep.mk hL
  clear hL B1
  simp only [Act.put, List.setIfInBounds_toArray, List.set_cons_zero, List.set_cons_succ]
  refine WL.val (by kernel_rfl) (.tuple #[.pointer (some ⟨p, 0, none⟩), .int .i64 0]) (by go_simp) ?_
  simp only [Act.put, List.setIfInBounds_toArray, List.set_cons_zero, List.set_cons_succ]
  refine WL.val (by kernel_rfl) (.pointer (some ⟨p, 0, none⟩)) (by go_simp) ?_
  simp only [Act.put, List.setIfInBounds_toArray, List.set_cons_zero, List.set_cons_succ]
  refine WL.val (by kernel_rfl) (.int .i64 0) (by go_simp) ?_
  simp only [Act.put, List.setIfInBounds_toArray, List.set_cons_zero, List.set_cons_succ]
  refine WL.val (by kernel_rfl) (.pointer (some ⟨p, 0, none⟩)) (by go_simp) ?_
  simp only [Act.put, List.setIfInBounds_toArray, List.set_cons_zero, List.set_cons_succ]
  refine WL.val (by kernel_rfl) (.int .i64 0) (by go_simp) ?_
  simp only [Act.put, List.setIfInBounds_toArray, List.set_cons_zero, List.set_cons_succ]
  refine WL.nil ?_
  refine hK3 _ _ ?_
  refine wp_seq_k fun K4 hK4 => ?_
  refine wp_seq_k fun K5 hK5 => ?_
  refine wp_region_list (WL.out ?_)
  refine WL.val (by kernel_rfl) (.bool true) (by go_simp) ?_
  simp only [Act.put, List.setIfInBounds_toArray, List.set_cons_zero, List.set_cons_succ]
  refine WL.val (by kernel_rfl) (.bool false) (by go_simp) ?_
  simp only [Act.put, List.setIfInBounds_toArray, List.set_cons_zero, List.set_cons_succ]
  refine WL.val (by kernel_rfl) (.bool false) (by go_simp) ?_
  simp only [Act.put, List.setIfInBounds_toArray, List.set_cons_zero, List.set_cons_succ]
  refine WL.val (by kernel_rfl) (.pointer (some ⟨p, 0, none⟩)) (by go_simp) ?_
  simp only [Act.put, List.setIfInBounds_toArray, List.set_cons_zero, List.set_cons_succ]
  refine WL.val (by kernel_rfl) (.bool false) (by go_simp) ?_
  simp only [Act.put, List.setIfInBounds_toArray, List.set_cons_zero, List.set_cons_succ]
  refine WL.val (by kernel_rfl) (.bool false) (by go_simp) ?_
  simp only [Act.put, List.setIfInBounds_toArray, List.set_cons_zero, List.set_cons_succ]
  refine WL.val (by kernel_rfl) (.bool false) (by go_simp) ?_
  simp only [Act.put, List.setIfInBounds_toArray, List.set_cons_zero, List.set_cons_succ]
  refine WL.val (by kernel_rfl) (.int .i64 0) (by go_simp) ?_
  simp only [Act.put, List.setIfInBounds_toArray, List.set_cons_zero, List.set_cons_succ]
  refine WL.val (by kernel_rfl) (.bool false) (by go_simp) ?_
  simp only [Act.put, List.setIfInBounds_toArray, List.set_cons_zero, List.set_cons_succ]
  refine WL.val (by kernel_rfl) (.bool false) (by go_simp) ?_
  simp only [Act.put, List.setIfInBounds_toArray, List.set_cons_zero, List.set_cons_succ]
  refine WL.nil ?_
  refine hK5 _ _ ?_
  refine wp_cond_false rfl ?_
  refine wp_skip ?_
  refine hK4 _ _ ?_
  refine wp_seq_k fun K6 hK6 => ?_
  refine wp_region_list (WL.out ?_)
  refine WL.val (by kernel_rfl) (.int .i64 0) (by go_simp) ?_
  simp only [Act.put, List.setIfInBounds_toArray, List.set_cons_zero, List.set_cons_succ]
  refine WL.nil ?_
  refine hK6 _ _ ?_
  refine wp_seq_k fun K7 hK7 => ?_
  refine wp_region_list (WL.out ?_)
  refine WL.val (by kernel_rfl) (.int .i64 0) (by go_simp) ?_
  simp only [Act.put, List.setIfInBounds_toArray, List.set_cons_zero, List.set_cons_succ]
  refine WL.nil ?_
  refine hK7 _ _ ?_
  refine wp_seq_k fun K8 hK8 => ?_
  refine wp_seq_k fun K9 hK9 => ?_
  refine wp_region_list (WL.out ?_)
  refine WL.val (by kernel_rfl) (.int .i64 0) (by go_simp) ?_
  simp only [Act.put, List.setIfInBounds_toArray, List.set_cons_zero, List.set_cons_succ]
  refine WL.nil ?_
  refine hK9 _ _ ?_
  refine wp_block ?_
  refine wp_loop (fun ac wr => ∃ (u : Nat) (fz : Nat → Value) (s g : Nat), ac = { tmps := #[.slice la L.length lc, .slice oa Os.length oc, .slice ta T.length tc, undef, undef, undef, fz 6, .bool true, .pointer (some ⟨p, 0, none⟩), .int .i64 0, .int .i64 (s : Int), .int .i64 (g : Int), .int .i64 (u : Int), fz 13, fz 14, fz 15, fz 16, fz 17, undef, undef, .bool true, .tuple #[.pointer (some ⟨p, 0, none⟩), .int .i64 0], .tuple #[.pointer (some ⟨p, 0, none⟩), .int .i64 0], .pointer (some ⟨p, 0, none⟩), .int .i64 0, .bool true, .bool false, .bool false, .pointer (some ⟨p, 0, none⟩), .bool false, .bool false, .bool false, .int .i64 0, .bool false, .bool false, fz 35, fz 36, fz 37, fz 38, fz 39, fz 40, fz 41, fz 42, fz 43, fz 44, fz 45, fz 46, fz 47, fz 48, fz 49, fz 50, fz 51, fz 52, fz 53, fz 54, fz 55, fz 56, fz 57, fz 58, fz 59, fz 60, fz 61, fz 62, fz 63, fz 64, fz 65, fz 66, fz 67, fz 68, fz 69, fz 70, fz 71, fz 72, fz 73, fz 74, fz 75, fz 76, fz 77, fz 78, fz 79, fz 80, fz 81, fz 82, fz 83, fz 84, fz 85, fz 86, fz 87, fz 88, fz 89, fz 90, fz 91, fz 92, fz 93, fz 94, fz 95, fz 96, fz 97, fz 98, fz 99, fz 100, fz 101, fz 102, fz 103, fz 104, fz 105, fz 106, fz 107, fz 108, fz 109, fz 110, fz 111, fz 112, fz 113, fz 114, fz 115, fz 116, fz 117, fz 118, fz 119, fz 120, fz 121, fz 122, fz 123, fz 124, fz 125, fz 126, fz 127, fz 128, fz 129, fz 130, fz 131, fz 132, fz 133, fz 134, fz 135, fz 136, fz 137, fz 138, fz 139, fz 140, fz 141, fz 142, fz 143, fz 144, undef, undef, undef, undef, undef, undef, undef, undef], defers := [] } ∧ Keep (s = min u L.length ∧ g ≤ s ∧ u ≤ L.length + g) ∧ Keep (LS w wr p mb 3 2 3 ((L.take s).drop g) [])) (fun a _ => 2 * (L.length - (intOf (a.tmps.getD 12 undef)).toNat) + ((intOf (a.tmps.getD 10 undef)).toNat - (intOf (a.tmps.getD 11 undef)).toNat)) ⟨0, fun zz => [.slice la L.length lc, .slice oa Os.length oc, .slice ta T.length tc, undef, undef, undef, .bool false, .bool true, .pointer (some ⟨p, 0, none⟩), .int .i64 0, .int .i64 0, .int .i64 0, .int .i64 0, undef, undef, undef, undef, undef, undef, undef, .bool true, .tuple #[.pointer (some ⟨p, 0, none⟩), .int .i64 0], .tuple #[.pointer (some ⟨p, 0, none⟩), .int .i64 0], .pointer (some ⟨p, 0, none⟩), .int .i64 0, .bool true, .bool false, .bool false, .pointer (some ⟨p, 0, none⟩), .bool false, .bool false, .bool false, .int .i64 0, .bool false, .bool false, undef, undef, undef, undef, undef, undef, undef, undef, undef, undef, undef, undef, undef, undef, undef, undef, undef, undef, undef, undef, undef, undef, undef, undef, undef, undef, undef, undef, undef, undef, undef, undef, undef, undef, undef, undef, undef, undef, undef, undef, undef, undef, undef, undef, undef, undef, undef, undef, undef, undef, undef, undef, undef, undef, undef, undef, undef, undef, undef, undef, undef, undef, undef, undef, undef, undef, undef, undef, undef, undef, undef, undef, undef, undef, undef, undef, undef, undef, undef, undef, undef, undef, undef, undef, undef, undef, undef, undef, undef, undef, undef, undef, undef, undef, undef, undef, undef, undef, undef, undef, undef, undef, undef, undef, undef, undef, undef, undef, undef, undef, undef, undef, undef, undef, undef, undef, undef, undef].getD zz undef, 0, 0, rfl, ⟨by omega⟩, ⟨by simpa using L2.out⟩⟩ ?_
  rintro ac wr ⟨u, fz, s, g, rfl, HF, HS⟩
  have hF := HF.out
  obtain ⟨hsa, hsb, hsc, hgs, hu⟩ : s ≤ u ∧ s ≤ L.length ∧ (s = u ∨ s = L.length) ∧ g ≤ s ∧ u ≤ L.length + g := by omega
  clear hF
  have HNl := HN.out
  have HNo := HM.out
  refine wp_seq_k fun K10 hK10 => ?_
  refine wp_seq_k fun K11 hK11 => ?_
  have restA : ∀ (y35 y36 y37 y38 y39 y40 y41 y42 y43 : Value), Keep (u < L.length ∨ g < s) → K10 { tmps := #[.slice la L.length lc, .slice oa Os.length oc, .slice ta T.length tc, undef, undef, undef, fz 6, .bool true, .pointer (some ⟨p, 0, none⟩), .int .i64 0, .int .i64 (s : Int), .int .i64 (g : Int), .int .i64 (u : Int), fz 13, fz 14, fz 15, fz 16, fz 17, undef, undef, .bool true, .tuple #[.pointer (some ⟨p, 0, none⟩), .int .i64 0], .tuple #[.pointer (some ⟨p, 0, none⟩), .int .i64 0], .pointer (some ⟨p, 0, none⟩), .int .i64 0, .bool true, .bool false, .bool false, .pointer (some ⟨p, 0, none⟩), .bool false, .bool false, .bool false, .int .i64 0, .bool false, .bool false, y35, y36, y37, y38, y39, y40, y41, y42, y43, fz 44, fz 45, fz 46, fz 47, fz 48, fz 49, fz 50, fz 51, fz 52, fz 53, fz 54, fz 55, fz 56, fz 57, fz 58, fz 59, fz 60, fz 61, fz 62, fz 63, fz 64, fz 65, fz 66, fz 67, fz 68, fz 69, fz 70, fz 71, fz 72, fz 73, fz 74, fz 75, fz 76, fz 77, fz 78, fz 79, fz 80, fz 81, fz 82, fz 83, fz 84, fz 85, fz 86, fz 87, fz 88, fz 89, fz 90, fz 91, fz 92, fz 93, fz 94, fz 95, fz 96, fz 97, fz 98, fz 99, fz 100, fz 101, fz 102, fz 103, fz 104, fz 105, fz 106, fz 107, fz 108, fz 109, fz 110, fz 111, fz 112, fz 113, fz 114, fz 115, fz 116, fz 117, fz 118, fz 119, fz 120, fz 121, fz 122, fz 123, fz 124, fz 125, fz 126, fz 127, fz 128, fz 129, fz 130, fz 131, fz 132, fz 133, fz 134, fz 135, fz 136, fz 137, fz 138, fz 139, fz 140, fz 141, fz 142, fz 143, fz 144, undef, undef, undef, undef, undef, undef, undef, undef], defers := [] } wr := by
    intro y35 y36 y37 y38 y39 y40 y41 y42 y43 ha
    refine hK10 _ _ ?_
    refine wp_seq_k fun K12 hK12 => ?_
    refine wp_block ?_
    refine wp_seq_k fun K13 hK13 => ?_
    refine wp_seq_k fun K14 hK14 => ?_
    have restB : ∀ (y13 y46 y47 y48 y49 y50 y51 y52 y53 y54 y55 y56 y57 y58 y59 y60 y61 y62 y63 y64 y65 y66 y67 y68 y69 y70 y71 y72 y73 y74 y75 y76 y77 y78 y79 : Value) (s2 : Nat) (wb : World), Keep (s2 = min (u + 1) L.length ∧ g < s2) → Keep (LS w wb p mb 3 2 3 ((L.take s2).drop g) []) → K13 { tmps := #[.slice la L.length lc, .slice oa Os.length oc, .slice ta T.length tc, undef, undef, undef, fz 6, .bool true, .pointer (some ⟨p, 0, none⟩), .int .i64 0, .int .i64 (s2 : Int), .int .i64 (g : Int), .int .i64 (u : Int), y13, fz 14, fz 15, fz 16, fz 17, undef, undef, .bool true, .tuple #[.pointer (some ⟨p, 0, none⟩), .int .i64 0], .tuple #[.pointer (some ⟨p, 0, none⟩), .int .i64 0], .pointer (some ⟨p, 0, none⟩), .int .i64 0, .bool true, .bool false, .bool false, .pointer (some ⟨p, 0, none⟩), .bool false, .bool false, .bool false, .int .i64 0, .bool false, .bool false, y35, y36, y37, y38, y39, y40, y41, y42, y43, fz 44, fz 45, y46, y47, y48, y49, y50, y51, y52, y53, y54, y55, y56, y57, y58, y59, y60, y61, y62, y63, y64, y65, y66, y67, y68, y69, y70, y71, y72, y73, y74, y75, y76, y77, y78, y79, fz 80, fz 81, fz 82, fz 83, fz 84, fz 85, fz 86, fz 87, fz 88, fz 89, fz 90, fz 91, fz 92, fz 93, fz 94, fz 95, fz 96, fz 97, fz 98, fz 99, fz 100, fz 101, fz 102, fz 103, fz 104, fz 105, fz 106, fz 107, fz 108, fz 109, fz 110, fz 111, fz 112, fz 113, fz 114, fz 115, fz 116, fz 117, fz 118, fz 119, fz 120, fz 121, fz 122, fz 123, fz 124, fz 125, fz 126, fz 127, fz 128, fz 129, fz 130, fz 131, fz 132, fz 133, fz 134, fz 135, fz 136, fz 137, fz 138, fz 139, fz 140, fz 141, fz 142, fz 143, fz 144, undef, undef, undef, undef, undef, undef, undef, undef], defers := [] } wb := by
      intro y13 y46 y47 y48 y49 y50 y51 y52 y53 y54 y55 y56 y57 y58 y59 y60 y61 y62 y63 y64 y65 y66 y67 y68 y69 y70 y71 y72 y73 y74 y75 y76 y77 y78 y79 s2 wb hs2 HSb
      obtain ⟨h2a, h2b, h2c, h2d⟩ : s2 ≤ u + 1 ∧ s2 ≤ L.length ∧ (s2 = u + 1 ∨ s2 = L.length) ∧ g < s2 := by have := hs2.out; omega
      refine hK13 _ _ ?_
      refine wp_seq_k fun K15 hK15 => ?_
      refine wp_seq_k fun K16 hK16 => ?_
      have restC : ∀ (y80 y81 y82 y83 y84 y85 y86 y87 y88 y89 y90 y91 y92 y93 y94 y95 y96 y97 : Value) (wc : World), Keep (LS w wc p mb 3 2 3 ((L.take s2).drop g) []) → K15 { tmps := #[.slice la L.length lc, .slice oa Os.length oc, .slice ta T.length tc, undef, undef, undef, fz 6, .bool true, .pointer (some ⟨p, 0, none⟩), .int .i64 0, .int .i64 (s2 : Int), .int .i64 (g : Int), .int .i64 (u : Int), y13, fz 14, fz 15, fz 16, fz 17, undef, undef, .bool true, .tuple #[.pointer (some ⟨p, 0, none⟩), .int .i64 0], .tuple #[.pointer (some ⟨p, 0, none⟩), .int .i64 0], .pointer (some ⟨p, 0, none⟩), .int .i64 0, .bool true, .bool false, .bool false, .pointer (some ⟨p, 0, none⟩), .bool false, .bool false, .bool false, .int .i64 0, .bool false, .bool false, y35, y36, y37, y38, y39, y40, y41, y42, y43, fz 44, fz 45, y46, y47, y48, y49, y50, y51, y52, y53, y54, y55, y56, y57, y58, y59, y60, y61, y62, y63, y64, y65, y66, y67, y68, y69, y70, y71, y72, y73, y74, y75, y76, y77, y78, y79, y80, y81, y82, y83, y84, y85, y86, y87, y88, y89, y90, y91, y92, y93, y94, y95, y96, y97, fz 98, fz 99, fz 100, fz 101, fz 102, fz 103, fz 104, fz 105, fz 106, fz 107, fz 108, fz 109, fz 110, fz 111, fz 112, fz 113, fz 114, fz 115, fz 116, fz 117, fz 118, fz 119, fz 120, fz 121, fz 122, fz 123, fz 124, fz 125, fz 126, fz 127, fz 128, fz 129, fz 130, fz 131, fz 132, fz 133, fz 134, fz 135, fz 136, fz 137, fz 138, fz 139, fz 140, fz 141, fz 142, fz 143, fz 144, undef, undef, undef, undef, undef, undef, undef, undef], defers := [] } wc := by
        intro y80 y81 y82 y83 y84 y85 y86 y87 y88 y89 y90 y91 y92 y93 y94 y95 y96 y97 wc HSc
        refine hK15 _ _ ?_
        refine wp_seq_k fun K17 hK17 => ?_
        refine wp_seq_k fun K18 hK18 => ?_
        have restD : ∀ (y14 y15 y16 y98 y99 y100 y101 y102 y103 y104 y105 y106 y107 y108 y109 y110 y111 y112 y113 y114 y115 y116 y117 y118 y119 y120 y121 y122 y123 y124 y125 y126 y127 y128 y129 y130 y131 y132 y133 y134 y135 y136 y137 : Value) (g2 : Nat) (wg : World), Keep (g ≤ g2 ∧ g2 ≤ g + 1 ∧ g2 ≤ s2 ∧ (L.length ≤ u → g2 = g + 1)) → Keep (LS w wg p mb 3 2 3 ((L.take s2).drop g2) []) → K17 { tmps := #[.slice la L.length lc, .slice oa Os.length oc, .slice ta T.length tc, undef, undef, undef, fz 6, .bool true, .pointer (some ⟨p, 0, none⟩), .int .i64 0, .int .i64 (s2 : Int), .int .i64 (g2 : Int), .int .i64 (u : Int), y13, y14, y15, y16, fz 17, undef, undef, .bool true, .tuple #[.pointer (some ⟨p, 0, none⟩), .int .i64 0], .tuple #[.pointer (some ⟨p, 0, none⟩), .int .i64 0], .pointer (some ⟨p, 0, none⟩), .int .i64 0, .bool true, .bool false, .bool false, .pointer (some ⟨p, 0, none⟩), .bool false, .bool false, .bool false, .int .i64 0, .bool false, .bool false, y35, y36, y37, y38, y39, y40, y41, y42, y43, fz 44, fz 45, y46, y47, y48, y49, y50, y51, y52, y53, y54, y55, y56, y57, y58, y59, y60, y61, y62, y63, y64, y65, y66, y67, y68, y69, y70, y71, y72, y73, y74, y75, y76, y77, y78, y79, y80, y81, y82, y83, y84, y85, y86, y87, y88, y89, y90, y91, y92, y93, y94, y95, y96, y97, y98, y99, y100, y101, y102, y103, y104, y105, y106, y107, y108, y109, y110, y111, y112, y113, y114, y115, y116, y117, y118, y119, y120, y121, y122, y123, y124, y125, y126, y127, y128, y129, y130, y131, y132, y133, y134, y135, y136, y137, fz 138, fz 139, fz 140, fz 141, fz 142, fz 143, fz 144, undef, undef, undef, undef, undef, undef, undef, undef], defers := [] } wg := by
          intro y14 y15 y16 y98 y99 y100 y101 y102 y103 y104 y105 y106 y107 y108 y109 y110 y111 y112 y113 y114 y115 y116 y117 y118 y119 y120 y121 y122 y123 y124 y125 y126 y127 y128 y129 y130 y131 y132 y133 y134 y135 y136 y137 g2 wg hg2 HSg
          obtain ⟨hg2a, hg2b, hg2c, hg2d⟩ : g ≤ g2 ∧ g2 ≤ g + 1 ∧ g2 ≤ s2 ∧ (L.length ≤ u → g + 1 ≤ g2) := by have := hg2.out; omega
          refine hK17 _ _ ?_
          refine wp_seq_k fun K19 hK19 => ?_
          refine wp_region_list (WL.out ?_)
          refine WL.val (by kernel_rfl) (.pointer (some ⟨p, 0, none⟩)) (by go_simp) ?_
          simp only [Act.put, List.setIfInBounds_toArray, List.set_cons_zero, List.set_cons_succ]
          refine WL.callF (by kernel_rfl) 18 _ _ rfl Tryd.in18 #[.pointer (some ⟨p, 0, none⟩), .int .i64 2, .int .i64 3] (by simp [Act.eval]) ?_
          refine (ls_len HSg.out (by decide)).mono ?_
          rintro e wl ⟨rfl, hL⟩
          refine ⟨_, rfl, ?_⟩
          have HSl := Keep.mk hL
          clear hL
          have hml : ((L.take s2).drop g2).length = s2 - g2 := by rw [List.length_drop, List.length_take]; omega
          rw [hml]
          simp only [Act.put, List.setIfInBounds_toArray, List.set_cons_zero, List.set_cons_succ]
          refine WL.val (by kernel_rfl) (.int .i64 ((s2 - g2 : Nat) : Int)) (by go_simp) ?_
          simp only [Act.put, List.setIfInBounds_toArray, List.set_cons_zero, List.set_cons_succ]
          refine WL.nil ?_
          refine hK19 _ _ ?_
          refine wp_seq_k fun K20 hK20 => ?_
          refine wp_region_list (WL.out ?_)
          refine WL.val (by kernel_rfl) (.int .i64 ((s2 - g2 : Nat) : Int)) (by go_simp) ?_
          simp only [Act.put, List.setIfInBounds_toArray, List.set_cons_zero, List.set_cons_succ]
          refine WL.val (by kernel_rfl) (.int .i64 (s2 : Int)) (by go_simp) ?_
          simp only [Act.put, List.setIfInBounds_toArray, List.set_cons_zero, List.set_cons_succ]
          refine WL.val (by kernel_rfl) (.int .i64 (g2 : Int)) (by go_simp) ?_
          simp only [Act.put, List.setIfInBounds_toArray, List.set_cons_zero, List.set_cons_succ]
          have hw5 : IntKind.i64.wrap ((s2 : Int) - (g2 : Int)) = ((s2 - g2 : Nat) : Int) := by rw [IntKind.wrap_i64]; omega
          refine WL.val (by kernel_rfl) (.int .i64 ((s2 - g2 : Nat) : Int)) (by go_simp) ?_
          clear hw5
          simp only [Act.put, List.setIfInBounds_toArray, List.set_cons_zero, List.set_cons_succ]
          refine WL.val (by kernel_rfl) (.bool false) (by go_simp) ?_
          simp only [Act.put, List.setIfInBounds_toArray, List.set_cons_zero, List.set_cons_succ]
          refine WL.nil ?_
          refine hK20 _ _ ?_
          refine wp_cond_false rfl ?_
          refine wp_skip ?_
          refine hK12 _ _ ?_
          refine wp_region_list (WL.out ?_)
          refine WL.val (by kernel_rfl) (.int .i64 (u : Int)) (by go_simp) ?_
          simp only [Act.put, List.setIfInBounds_toArray, List.set_cons_zero, List.set_cons_succ]
          have hw6 : IntKind.i64.wrap ((u : Int) + 1) = ((u + 1 : Nat) : Int) := by rw [IntKind.wrap_i64]; omega
          refine WL.val (by kernel_rfl) (.int .i64 ((u + 1 : Nat) : Int)) (by go_simp) ?_
          clear hw6
          simp only [Act.put, List.setIfInBounds_toArray, List.set_cons_zero, List.set_cons_succ]
          refine WL.val (by kernel_rfl) (.int .i64 ((u + 1 : Nat) : Int)) (by go_simp) ?_
          simp only [Act.put, List.setIfInBounds_toArray, List.set_cons_zero, List.set_cons_succ]
          refine WL.nil ?_
          refine ⟨⟨u + 1, fun zz => [.slice la L.length lc, .slice oa Os.length oc, .slice ta T.length tc, undef, undef, undef, fz 6, .bool true, .pointer (some ⟨p, 0, none⟩), .int .i64 0, .int .i64 (s2 : Int), .int .i64 (g2 : Int), .int .i64 ((u + 1 : Nat) : Int), y13, y14, y15, y16, .int .i64 ((s2 - g2 : Nat) : Int), undef, undef, .bool true, .tuple #[.pointer (some ⟨p, 0, none⟩), .int .i64 0], .tuple #[.pointer (some ⟨p, 0, none⟩), .int .i64 0], .pointer (some ⟨p, 0, none⟩), .int .i64 0, .bool true, .bool false, .bool false, .pointer (some ⟨p, 0, none⟩), .bool false, .bool false, .bool false, .int .i64 0, .bool false, .bool false, y35, y36, y37, y38, y39, y40, y41, y42, y43, .int .i64 (u : Int), .int .i64 ((u + 1 : Nat) : Int), y46, y47, y48, y49, y50, y51, y52, y53, y54, y55, y56, y57, y58, y59, y60, y61, y62, y63, y64, y65, y66, y67, y68, y69, y70, y71, y72, y73, y74, y75, y76, y77, y78, y79, y80, y81, y82, y83, y84, y85, y86, y87, y88, y89, y90, y91, y92, y93, y94, y95, y96, y97, y98, y99, y100, y101, y102, y103, y104, y105, y106, y107, y108, y109, y110, y111, y112, y113, y114, y115, y116, y117, y118, y119, y120, y121, y122, y123, y124, y125, y126, y127, y128, y129, y130, y131, y132, y133, y134, y135, y136, y137, .pointer (some ⟨p, 0, none⟩), .int .i64 ((s2 - g2 : Nat) : Int), .int .i64 ((s2 - g2 : Nat) : Int), .int .i64 (s2 : Int), .int .i64 (g2 : Int), .int .i64 ((s2 - g2 : Nat) : Int), .bool false, undef, undef, undef, undef, undef, undef, undef, undef].getD zz undef, s2, g2, rfl, ⟨by omega⟩, HSl⟩, ?_⟩
          simp only [intOf]
          show 2 * (L.length - (((u + 1 : Nat) : Int)).toNat) + ((((s2 : Nat) : Int)).toNat - (((g2 : Nat) : Int)).toNat) < 2 * (L.length - ((u : Int)).toNat) + (((s : Int)).toNat - ((g : Int)).toNat)
          omega
        have restD := Keep.mk restD
        refine wp_region_list (WL.out ?_)
        refine WL.val (by kernel_rfl) (.int .i64 (u : Int)) (by go_simp) ?_
        simp only [Act.put, List.setIfInBounds_toArray, List.set_cons_zero, List.set_cons_succ]
        refine WL.val (by kernel_rfl) (.slice la L.length lc) (by go_simp) ?_
        simp only [Act.put, List.setIfInBounds_toArray, List.set_cons_zero, List.set_cons_succ]
        refine WL.val (by kernel_rfl) (.int .i64 (L.length : Int)) (by go_simp) ?_
        simp only [Act.put, List.setIfInBounds_toArray, List.set_cons_zero, List.set_cons_succ]
        by_cases h21_3 : L.length ≤ u
        · have hcu_ : ((u : Int) ≥ (L.length : Int)) := by omega
          have hcu1_ : ((L.length : Int) ≤ (u : Int)) := by omega
          refine WL.val (by kernel_rfl) (.bool true) (by go_simp) ?_
          simp only [Act.put, List.setIfInBounds_toArray, List.set_cons_zero, List.set_cons_succ]
          refine WL.val (by kernel_rfl) (.bool true) (by go_simp) ?_
          simp only [Act.put, List.setIfInBounds_toArray, List.set_cons_zero, List.set_cons_succ]
          refine WL.skip (by kernel_rfl) ?_
          simp only [Act.put, List.setIfInBounds_toArray, List.set_cons_zero, List.set_cons_succ]
          refine WL.skip (by kernel_rfl) ?_
          simp only [Act.put, List.setIfInBounds_toArray, List.set_cons_zero, List.set_cons_succ]
          refine WL.skip (by kernel_rfl) ?_
          simp only [Act.put, List.setIfInBounds_toArray, List.set_cons_zero, List.set_cons_succ]
          refine WL.skip (by kernel_rfl) ?_
          simp only [Act.put, List.setIfInBounds_toArray, List.set_cons_zero, List.set_cons_succ]
          refine WL.skip (by kernel_rfl) ?_
          simp only [Act.put, List.setIfInBounds_toArray, List.set_cons_zero, List.set_cons_succ]
          refine WL.skip (by kernel_rfl) ?_
          simp only [Act.put, List.setIfInBounds_toArray, List.set_cons_zero, List.set_cons_succ]
          refine WL.skip (by kernel_rfl) ?_
          simp only [Act.put, List.setIfInBounds_toArray, List.set_cons_zero, List.set_cons_succ]
          refine WL.skip (by kernel_rfl) ?_
          simp only [Act.put, List.setIfInBounds_toArray, List.set_cons_zero, List.set_cons_succ]
          refine WL.skip (by kernel_rfl) ?_
          simp only [Act.put, List.setIfInBounds_toArray, List.set_cons_zero, List.set_cons_succ]
          refine WL.skip (by kernel_rfl) ?_
          simp only [Act.put, List.setIfInBounds_toArray, List.set_cons_zero, List.set_cons_succ]
          refine WL.val (by kernel_rfl) (.bool true) (by go_simp) ?_
          simp only [Act.put, List.setIfInBounds_toArray, List.set_cons_zero, List.set_cons_succ]
          refine WL.nil ?_
          refine hK18 _ _ ?_
          refine wp_cond_true rfl ?_
          refine wp_seq_k fun K21 hK21 => ?_
          refine wp_region_list (WL.out ?_)
          refine WL.val (by kernel_rfl) (.pointer (some ⟨p, 0, none⟩)) (by go_simp) ?_
          simp only [Act.put, List.setIfInBounds_toArray, List.set_cons_zero, List.set_cons_succ]
          have hgl : g < L.length := by omega
          have HSc2 : Keep (LS w wc p mb 3 2 3 (L.getD g [] :: (L.take s2).drop (g + 1)) []) := ⟨by have h := HSc.out; rwa [take_drop_head L h2d (by omega)] at h⟩
          refine WL.callF (by kernel_rfl) 16 _ _ rfl Tryd.in16 #[.pointer (some ⟨p, 0, none⟩), .int .i64 2, .int .i64 3] (by simp [Act.eval]) ?_
          refine (ls_take HSc2.out (by decide) HE.out).mono ?_
          rintro e wh ⟨v1, rfl, hL⟩
          refine ⟨_, rfl, ?_⟩
          have HSh := Keep.mk hL
          clear hL
          simp only [Act.put, List.setIfInBounds_toArray, List.set_cons_zero, List.set_cons_succ]
          refine WL.val (by kernel_rfl) (.tuple #[v1, .nilIface]) (by go_simp) ?_
          simp only [Act.put, List.setIfInBounds_toArray, List.set_cons_zero, List.set_cons_succ]
          refine WL.val (by kernel_rfl) (v1) (by go_simp) ?_
          simp only [Act.put, List.setIfInBounds_toArray, List.set_cons_zero, List.set_cons_succ]
          refine WL.val (by kernel_rfl) (.nilIface) (by go_simp) ?_
          simp only [Act.put, List.setIfInBounds_toArray, List.set_cons_zero, List.set_cons_succ]
          refine WL.val (by kernel_rfl) (v1) (by go_simp) ?_
          simp only [Act.put, List.setIfInBounds_toArray, List.set_cons_zero, List.set_cons_succ]
          refine WL.val (by kernel_rfl) (.nilIface) (by go_simp) ?_
          simp only [Act.put, List.setIfInBounds_toArray, List.set_cons_zero, List.set_cons_succ]
          refine WL.nil ?_
          refine hK21 _ _ ?_
          refine wp_seq_k fun K22 hK22 => ?_
          refine wp_region_list (WL.out ?_)
          refine WL.val (by kernel_rfl) (.int .i64 (g : Int)) (by go_simp) ?_
          simp only [Act.put, List.setIfInBounds_toArray, List.set_cons_zero, List.set_cons_succ]
          refine WL.val (by kernel_rfl) (.int .i64 (s2 : Int)) (by go_simp) ?_
          simp only [Act.put, List.setIfInBounds_toArray, List.set_cons_zero, List.set_cons_succ]
          have hgs2 : (g : Int) < (s2 : Int) := by omega
          refine WL.val (by kernel_rfl) (.bool true) (by go_simp) ?_
          simp only [Act.put, List.setIfInBounds_toArray, List.set_cons_zero, List.set_cons_succ]
          refine WL.val (by kernel_rfl) (.bool true) (by go_simp) ?_
          simp only [Act.put, List.setIfInBounds_toArray, List.set_cons_zero, List.set_cons_succ]
          refine WL.val (by kernel_rfl) (v1) (by go_simp) ?_
          simp only [Act.put, List.setIfInBounds_toArray, List.set_cons_zero, List.set_cons_succ]
          obtain ⟨lq, lo, ua, uc, hla, _, hc_, hr_⟩ := HR.out.at g hgl
          have eLa := hla
          subst eLa
          obtain ⟨r, hr⟩ : ∃ z, Keep (z = L.getD g []) := ⟨_, ⟨rfl⟩⟩
          rw [← hr.out] at hc_ hr_
          obtain ⟨rn, hrn⟩ : ∃ z, Keep (r.length = z) := ⟨_, ⟨rfl⟩⟩
          rw [hrn.out] at hc_ hr_
          have HC_r := Keep.mk hc_
          have HR_r := Keep.mk hr_
          clear hc_ hr_ hla
          have hrm : r ∈ L := by
            rw [hr.out, List.getD_eq_getElem?_getD, List.getElem?_eq_getElem hgl]
            exact List.getElem_mem _
          refine WL.val (by kernel_rfl) (.slice (some ⟨lq, lo, none⟩) L.length lc) (by go_simp) ?_
          simp only [Act.put, List.setIfInBounds_toArray, List.set_cons_zero, List.set_cons_succ]
          refine WL.val (by kernel_rfl) (.int .i64 (g : Int)) (by go_simp) ?_
          simp only [Act.put, List.setIfInBounds_toArray, List.set_cons_zero, List.set_cons_succ]
          have hcg2_ : ¬ L.length ≤ g := by omega
          have hcg3_ : (g : Int) < (L.length : Int) := by omega
          refine WL.val (by kernel_rfl) (.pointer (some ⟨lq, lo + g, none⟩)) (by go_simp) ?_
          clear hcg2_ hcg3_
          simp only [Act.put, List.setIfInBounds_toArray, List.set_cons_zero, List.set_cons_succ]
          have c_ := cell_up HC_r.out HSh.out.bel
          refine WL.val (by kernel_rfl) (.slice ua rn uc) (by go_simp) ?_
          clear c_
          simp only [Act.put, List.setIfInBounds_toArray, List.set_cons_zero, List.set_cons_succ]
          refine WL.callF (by kernel_rfl) 17 _ _ rfl Tryd.in17 #[v1, .slice ua rn uc] (by simp [Act.eval]) ?_
          refine (same_any _ _ r r wh (by have h := (HSh.out.out (v1, L.getD g []) (by simp)).row; rwa [← hr.out] at h) (HR_r.out.below HSh.out.bel) (HBy.out r hrm) (HBy.out r hrm)).mono ?_
          rintro e wq ⟨rfl, hw_⟩
          refine ⟨_, rfl, ?_⟩
          have hw_ := hw_.symm
          subst hw_
          rw [show decide (r = r) = true by simp]
          simp only [Act.put, List.setIfInBounds_toArray, List.set_cons_zero, List.set_cons_succ]
          refine WL.val (by kernel_rfl) (.bool true) (by go_simp) ?_
          simp only [Act.put, List.setIfInBounds_toArray, List.set_cons_zero, List.set_cons_succ]
          refine WL.val (by kernel_rfl) (.bool true) (by go_simp) ?_
          simp only [Act.put, List.setIfInBounds_toArray, List.set_cons_zero, List.set_cons_succ]
          refine WL.nil ?_
          refine hK22 _ _ ?_
          refine wp_seq_k fun K23 hK23 => ?_
          refine wp_seq_k fun K24 hK24 => ?_
          refine wp_region_list (WL.out ?_)
          refine WL.val (by kernel_rfl) (.bool true) (by go_simp) ?_
          simp only [Act.put, List.setIfInBounds_toArray, List.set_cons_zero, List.set_cons_succ]
          refine WL.val (by kernel_rfl) (.bool false) (by go_simp) ?_
          simp only [Act.put, List.setIfInBounds_toArray, List.set_cons_zero, List.set_cons_succ]
          refine WL.val (by kernel_rfl) (.bool false) (by go_simp) ?_
          simp only [Act.put, List.setIfInBounds_toArray, List.set_cons_zero, List.set_cons_succ]
          refine WL.val (by kernel_rfl) (.nilIface) (by go_simp) ?_
          simp only [Act.put, List.setIfInBounds_toArray, List.set_cons_zero, List.set_cons_succ]
          refine WL.val (by kernel_rfl) (.bool false) (by have h := ne_nn wh; go_simp) ?_
          simp only [Act.put, List.setIfInBounds_toArray, List.set_cons_zero, List.set_cons_succ]
          refine WL.val (by kernel_rfl) (.bool false) (by go_simp) ?_
          simp only [Act.put, List.setIfInBounds_toArray, List.set_cons_zero, List.set_cons_succ]
          refine WL.nil ?_
          refine hK24 _ _ ?_
          refine wp_cond_false rfl ?_
          refine wp_skip ?_
          refine hK23 _ _ ?_
          refine wp_region_list (WL.out ?_)
          refine WL.val (by kernel_rfl) (.int .i64 (g : Int)) (by go_simp) ?_
          simp only [Act.put, List.setIfInBounds_toArray, List.set_cons_zero, List.set_cons_succ]
          have hw4 : IntKind.i64.wrap ((g : Int) + 1) = ((g + 1 : Nat) : Int) := by rw [IntKind.wrap_i64]; omega
          refine WL.val (by kernel_rfl) (.int .i64 ((g + 1 : Nat) : Int)) (by go_simp) ?_
          clear hw4
          simp only [Act.put, List.setIfInBounds_toArray, List.set_cons_zero, List.set_cons_succ]
          refine WL.val (by kernel_rfl) (.int .i64 ((g + 1 : Nat) : Int)) (by go_simp) ?_
          simp only [Act.put, List.setIfInBounds_toArray, List.set_cons_zero, List.set_cons_succ]
          refine WL.nil ?_
          exact restD.out _ _ _ _ _ _ _ _ _ _ _ _ _ _ _ _ _ _ _ _ _ _ _ _ _ _ _ _ _ _ _ _ _ _ _ _ _ _ _ _ _ _ _ (g + 1) wh ⟨by omega⟩ ⟨HSh.out.drop⟩
        · have hcu_ : (¬ (u : Int) ≥ (L.length : Int)) := by omega
          have hcu1_ : (¬ (L.length : Int) ≤ (u : Int)) := by omega
          refine WL.val (by kernel_rfl) (.bool false) (by go_simp) ?_
          simp only [Act.put, List.setIfInBounds_toArray, List.set_cons_zero, List.set_cons_succ]
          refine WL.val (by kernel_rfl) (.bool false) (by go_simp) ?_
          simp only [Act.put, List.setIfInBounds_toArray, List.set_cons_zero, List.set_cons_succ]
          refine WL.val (by kernel_rfl) (.int .i64 (u : Int)) (by go_simp) ?_
          simp only [Act.put, List.setIfInBounds_toArray, List.set_cons_zero, List.set_cons_succ]
          refine WL.val (by kernel_rfl) (.slice ta T.length tc) (by go_simp) ?_
          simp only [Act.put, List.setIfInBounds_toArray, List.set_cons_zero, List.set_cons_succ]
          refine WL.val (by kernel_rfl) (.int .i64 (T.length : Int)) (by go_simp) ?_
          simp only [Act.put, List.setIfInBounds_toArray, List.set_cons_zero, List.set_cons_succ]
          by_cases h21_8 : u < T.length
          · have hct_ : ((u : Int) < (T.length : Int)) := by omega
            refine WL.val (by kernel_rfl) (.bool true) (by go_simp) ?_
            simp only [Act.put, List.setIfInBounds_toArray, List.set_cons_zero, List.set_cons_succ]
            refine WL.val (by kernel_rfl) (.bool true) (by go_simp) ?_
            simp only [Act.put, List.setIfInBounds_toArray, List.set_cons_zero, List.set_cons_succ]
            obtain ⟨tb, htb⟩ : ∃ tb, T[u]? = some tb := ⟨_, List.getElem?_eq_getElem (by assumption)⟩
            obtain ⟨tq, to_, hta, c_⟩ := HT.out.at HSc.out.bel htb
            have eTa := hta
            subst eTa
            have HCt := Keep.mk c_
            clear c_ hta htb
            refine WL.val (by kernel_rfl) (.slice (some ⟨tq, to_, none⟩) T.length tc) (by go_simp) ?_
            simp only [Act.put, List.setIfInBounds_toArray, List.set_cons_zero, List.set_cons_succ]
            refine WL.val (by kernel_rfl) (.int .i64 (u : Int)) (by go_simp) ?_
            simp only [Act.put, List.setIfInBounds_toArray, List.set_cons_zero, List.set_cons_succ]
            have hct2_ : ¬ T.length ≤ u := by omega
            refine WL.val (by kernel_rfl) (.pointer (some ⟨tq, to_ + u, none⟩)) (by go_simp) ?_
            clear hct2_
            simp only [Act.put, List.setIfInBounds_toArray, List.set_cons_zero, List.set_cons_succ]
            rcases Bool.eq_false_or_eq_true (tb) with h21_13 | h21_13
            · have c_ := HCt.out
              rw [h21_13] at c_
              refine WL.val (by kernel_rfl) (.bool true) (by go_simp) ?_
              simp only [Act.put, List.setIfInBounds_toArray, List.set_cons_zero, List.set_cons_succ]
              refine WL.val (by kernel_rfl) (.bool true) (by go_simp) ?_
              simp only [Act.put, List.setIfInBounds_toArray, List.set_cons_zero, List.set_cons_succ]
              refine WL.val (by kernel_rfl) (.bool true) (by go_simp) ?_
              simp only [Act.put, List.setIfInBounds_toArray, List.set_cons_zero, List.set_cons_succ]
              refine WL.nil ?_
              refine hK18 _ _ ?_
              refine wp_cond_true rfl ?_
              refine wp_seq_k fun K25 hK25 => ?_
              refine wp_region_list (WL.out ?_)
              refine WL.val (by kernel_rfl) (.pointer (some ⟨p, 0, none⟩)) (by go_simp) ?_
              simp only [Act.put, List.setIfInBounds_toArray, List.set_cons_zero, List.set_cons_succ]
              have hgl : g < L.length := by omega
              have HSc2 : Keep (LS w wc p mb 3 2 3 (L.getD g [] :: (L.take s2).drop (g + 1)) []) := ⟨by have h := HSc.out; rwa [take_drop_head L h2d (by omega)] at h⟩
              refine WL.callF (by kernel_rfl) 16 _ _ rfl Tryd.in16 #[.pointer (some ⟨p, 0, none⟩), .int .i64 2, .int .i64 3] (by simp [Act.eval]) ?_
              refine (ls_take HSc2.out (by decide) HE.out).mono ?_
              rintro e wh ⟨v1, rfl, hL⟩
              refine ⟨_, rfl, ?_⟩
              have HSh := Keep.mk hL
              clear hL
              simp only [Act.put, List.setIfInBounds_toArray, List.set_cons_zero, List.set_cons_succ]
              refine WL.val (by kernel_rfl) (.tuple #[v1, .nilIface]) (by go_simp) ?_
              simp only [Act.put, List.setIfInBounds_toArray, List.set_cons_zero, List.set_cons_succ]
              refine WL.val (by kernel_rfl) (v1) (by go_simp) ?_
              simp only [Act.put, List.setIfInBounds_toArray, List.set_cons_zero, List.set_cons_succ]
              refine WL.val (by kernel_rfl) (.nilIface) (by go_simp) ?_
              simp only [Act.put, List.setIfInBounds_toArray, List.set_cons_zero, List.set_cons_succ]
              refine WL.val (by kernel_rfl) (v1) (by go_simp) ?_
              simp only [Act.put, List.setIfInBounds_toArray, List.set_cons_zero, List.set_cons_succ]
              refine WL.val (by kernel_rfl) (.nilIface) (by go_simp) ?_
              simp only [Act.put, List.setIfInBounds_toArray, List.set_cons_zero, List.set_cons_succ]
              refine WL.nil ?_
              refine hK25 _ _ ?_
              refine wp_seq_k fun K26 hK26 => ?_
              refine wp_region_list (WL.out ?_)
              refine WL.val (by kernel_rfl) (.int .i64 (g : Int)) (by go_simp) ?_
              simp only [Act.put, List.setIfInBounds_toArray, List.set_cons_zero, List.set_cons_succ]
              refine WL.val (by kernel_rfl) (.int .i64 (s2 : Int)) (by go_simp) ?_
              simp only [Act.put, List.setIfInBounds_toArray, List.set_cons_zero, List.set_cons_succ]
              have hgs2 : (g : Int) < (s2 : Int) := by omega
              refine WL.val (by kernel_rfl) (.bool true) (by go_simp) ?_
              simp only [Act.put, List.setIfInBounds_toArray, List.set_cons_zero, List.set_cons_succ]
              refine WL.val (by kernel_rfl) (.bool true) (by go_simp) ?_
              simp only [Act.put, List.setIfInBounds_toArray, List.set_cons_zero, List.set_cons_succ]
              refine WL.val (by kernel_rfl) (v1) (by go_simp) ?_
              simp only [Act.put, List.setIfInBounds_toArray, List.set_cons_zero, List.set_cons_succ]
              obtain ⟨lq, lo, ua, uc, hla, _, hc_, hr_⟩ := HR.out.at g hgl
              have eLa := hla
              subst eLa
              obtain ⟨r, hr⟩ : ∃ z, Keep (z = L.getD g []) := ⟨_, ⟨rfl⟩⟩
              rw [← hr.out] at hc_ hr_
              obtain ⟨rn, hrn⟩ : ∃ z, Keep (r.length = z) := ⟨_, ⟨rfl⟩⟩
              rw [hrn.out] at hc_ hr_
              have HC_r := Keep.mk hc_
              have HR_r := Keep.mk hr_
              clear hc_ hr_ hla
              have hrm : r ∈ L := by
                rw [hr.out, List.getD_eq_getElem?_getD, List.getElem?_eq_getElem hgl]
                exact List.getElem_mem _
              refine WL.val (by kernel_rfl) (.slice (some ⟨lq, lo, none⟩) L.length lc) (by go_simp) ?_
              simp only [Act.put, List.setIfInBounds_toArray, List.set_cons_zero, List.set_cons_succ]
              refine WL.val (by kernel_rfl) (.int .i64 (g : Int)) (by go_simp) ?_
              simp only [Act.put, List.setIfInBounds_toArray, List.set_cons_zero, List.set_cons_succ]
              have hcg2_ : ¬ L.length ≤ g := by omega
              have hcg3_ : (g : Int) < (L.length : Int) := by omega
              refine WL.val (by kernel_rfl) (.pointer (some ⟨lq, lo + g, none⟩)) (by go_simp) ?_
              clear hcg2_ hcg3_
              simp only [Act.put, List.setIfInBounds_toArray, List.set_cons_zero, List.set_cons_succ]
              have c_ := cell_up HC_r.out HSh.out.bel
              refine WL.val (by kernel_rfl) (.slice ua rn uc) (by go_simp) ?_
              clear c_
              simp only [Act.put, List.setIfInBounds_toArray, List.set_cons_zero, List.set_cons_succ]
              refine WL.callF (by kernel_rfl) 17 _ _ rfl Tryd.in17 #[v1, .slice ua rn uc] (by simp [Act.eval]) ?_
              refine (same_any _ _ r r wh (by have h := (HSh.out.out (v1, L.getD g []) (by simp)).row; rwa [← hr.out] at h) (HR_r.out.below HSh.out.bel) (HBy.out r hrm) (HBy.out r hrm)).mono ?_
              rintro e wq ⟨rfl, hw_⟩
              refine ⟨_, rfl, ?_⟩
              have hw_ := hw_.symm
              subst hw_
              rw [show decide (r = r) = true by simp]
              simp only [Act.put, List.setIfInBounds_toArray, List.set_cons_zero, List.set_cons_succ]
              refine WL.val (by kernel_rfl) (.bool true) (by go_simp) ?_
              simp only [Act.put, List.setIfInBounds_toArray, List.set_cons_zero, List.set_cons_succ]
              refine WL.val (by kernel_rfl) (.bool true) (by go_simp) ?_
              simp only [Act.put, List.setIfInBounds_toArray, List.set_cons_zero, List.set_cons_succ]
              refine WL.nil ?_
              refine hK26 _ _ ?_
              refine wp_seq_k fun K27 hK27 => ?_
              refine wp_seq_k fun K28 hK28 => ?_
              refine wp_region_list (WL.out ?_)
              refine WL.val (by kernel_rfl) (.bool true) (by go_simp) ?_
              simp only [Act.put, List.setIfInBounds_toArray, List.set_cons_zero, List.set_cons_succ]
              refine WL.val (by kernel_rfl) (.bool false) (by go_simp) ?_
              simp only [Act.put, List.setIfInBounds_toArray, List.set_cons_zero, List.set_cons_succ]
              refine WL.val (by kernel_rfl) (.bool false) (by go_simp) ?_
              simp only [Act.put, List.setIfInBounds_toArray, List.set_cons_zero, List.set_cons_succ]
              refine WL.val (by kernel_rfl) (.nilIface) (by go_simp) ?_
              simp only [Act.put, List.setIfInBounds_toArray, List.set_cons_zero, List.set_cons_succ]
              refine WL.val (by kernel_rfl) (.bool false) (by have h := ne_nn wh; go_simp) ?_
              simp only [Act.put, List.setIfInBounds_toArray, List.set_cons_zero, List.set_cons_succ]
              refine WL.val (by kernel_rfl) (.bool false) (by go_simp) ?_
              simp only [Act.put, List.setIfInBounds_toArray, List.set_cons_zero, List.set_cons_succ]
              refine WL.nil ?_
              refine hK28 _ _ ?_
              refine wp_cond_false rfl ?_
              refine wp_skip ?_
              refine hK27 _ _ ?_
              refine wp_region_list (WL.out ?_)
              refine WL.val (by kernel_rfl) (.int .i64 (g : Int)) (by go_simp) ?_
              simp only [Act.put, List.setIfInBounds_toArray, List.set_cons_zero, List.set_cons_succ]
              have hw4 : IntKind.i64.wrap ((g : Int) + 1) = ((g + 1 : Nat) : Int) := by rw [IntKind.wrap_i64]; omega
              refine WL.val (by kernel_rfl) (.int .i64 ((g + 1 : Nat) : Int)) (by go_simp) ?_
              clear hw4
              simp only [Act.put, List.setIfInBounds_toArray, List.set_cons_zero, List.set_cons_succ]
              refine WL.val (by kernel_rfl) (.int .i64 ((g + 1 : Nat) : Int)) (by go_simp) ?_
              simp only [Act.put, List.setIfInBounds_toArray, List.set_cons_zero, List.set_cons_succ]
              refine WL.nil ?_
              exact restD.out _ _ _ _ _ _ _ _ _ _ _ _ _ _ _ _ _ _ _ _ _ _ _ _ _ _ _ _ _ _ _ _ _ _ _ _ _ _ _ _ _ _ _ (g + 1) wh ⟨by omega⟩ ⟨HSh.out.drop⟩
            · have c_ := HCt.out
              rw [h21_13] at c_
              refine WL.val (by kernel_rfl) (.bool false) (by go_simp) ?_
              simp only [Act.put, List.setIfInBounds_toArray, List.set_cons_zero, List.set_cons_succ]
              refine WL.val (by kernel_rfl) (.bool false) (by go_simp) ?_
              simp only [Act.put, List.setIfInBounds_toArray, List.set_cons_zero, List.set_cons_succ]
              refine WL.val (by kernel_rfl) (.bool false) (by go_simp) ?_
              simp only [Act.put, List.setIfInBounds_toArray, List.set_cons_zero, List.set_cons_succ]
              refine WL.nil ?_
              refine hK18 _ _ ?_
              refine wp_cond_false rfl ?_
              refine wp_skip ?_
              exact restD.out _ _ _ _ _ _ _ _ _ _ _ _ _ _ _ _ _ _ _ _ _ _ _ _ _ _ _ _ _ _ _ _ _ _ _ _ _ _ _ _ _ _ _ g wc ⟨by omega⟩ HSc
          · have hct_ : (¬ (u : Int) < (T.length : Int)) := by omega
            refine WL.val (by kernel_rfl) (.bool false) (by go_simp) ?_
            simp only [Act.put, List.setIfInBounds_toArray, List.set_cons_zero, List.set_cons_succ]
            refine WL.val (by kernel_rfl) (.bool false) (by go_simp) ?_
            simp only [Act.put, List.setIfInBounds_toArray, List.set_cons_zero, List.set_cons_succ]
            refine WL.skip (by kernel_rfl) ?_
            simp only [Act.put, List.setIfInBounds_toArray, List.set_cons_zero, List.set_cons_succ]
            refine WL.skip (by kernel_rfl) ?_
            simp only [Act.put, List.setIfInBounds_toArray, List.set_cons_zero, List.set_cons_succ]
            refine WL.skip (by kernel_rfl) ?_
            simp only [Act.put, List.setIfInBounds_toArray, List.set_cons_zero, List.set_cons_succ]
            refine WL.skip (by kernel_rfl) ?_
            simp only [Act.put, List.setIfInBounds_toArray, List.set_cons_zero, List.set_cons_succ]
            refine WL.val (by kernel_rfl) (.bool false) (by go_simp) ?_
            simp only [Act.put, List.setIfInBounds_toArray, List.set_cons_zero, List.set_cons_succ]
            refine WL.val (by kernel_rfl) (.bool false) (by go_simp) ?_
            simp only [Act.put, List.setIfInBounds_toArray, List.set_cons_zero, List.set_cons_succ]
            refine WL.nil ?_
            refine hK18 _ _ ?_
            refine wp_cond_false rfl ?_
            refine wp_skip ?_
            exact restD.out _ _ _ _ _ _ _ _ _ _ _ _ _ _ _ _ _ _ _ _ _ _ _ _ _ _ _ _ _ _ _ _ _ _ _ _ _ _ _ _ _ _ _ g wc ⟨by omega⟩ HSc
      have restC := Keep.mk restC
      refine wp_region_list (WL.out ?_)
      refine WL.val (by kernel_rfl) (.int .i64 (u : Int)) (by go_simp) ?_
      simp only [Act.put, List.setIfInBounds_toArray, List.set_cons_zero, List.set_cons_succ]
      refine WL.val (by kernel_rfl) (.slice oa Os.length oc) (by go_simp) ?_
      simp only [Act.put, List.setIfInBounds_toArray, List.set_cons_zero, List.set_cons_succ]
      refine WL.val (by kernel_rfl) (.int .i64 (Os.length : Int)) (by go_simp) ?_
      simp only [Act.put, List.setIfInBounds_toArray, List.set_cons_zero, List.set_cons_succ]
      by_cases h17_3 : u < Os.length
      · have hco_ : ((u : Int) < (Os.length : Int)) := by omega
        refine WL.val (by kernel_rfl) (.bool true) (by go_simp) ?_
        simp only [Act.put, List.setIfInBounds_toArray, List.set_cons_zero, List.set_cons_succ]
        refine WL.nil ?_
        refine hK16 _ _ ?_
        refine wp_cond_true rfl ?_
        refine wp_seq_k fun K29 hK29 => ?_
        refine wp_region_list (WL.out ?_)
        refine WL.val (by kernel_rfl) (.pointer (some ⟨p, 0, none⟩)) (by go_simp) ?_
        simp only [Act.put, List.setIfInBounds_toArray, List.set_cons_zero, List.set_cons_succ]
        obtain ⟨oq, oo, va, vc, hla, _, hc_, hr_⟩ := HRo.out.at u (by assumption)
        have eLa := hla
        subst eLa
        obtain ⟨r, hr⟩ : ∃ z, Keep (z = Os.getD u []) := ⟨_, ⟨rfl⟩⟩
        rw [← hr.out] at hc_ hr_
        obtain ⟨vn, hvn⟩ : ∃ z, Keep (r.length = z) := ⟨_, ⟨rfl⟩⟩
        rw [hvn.out] at hc_ hr_
        have HC_r := Keep.mk hc_
        have HR_r := Keep.mk hr_
        clear hc_ hr_ hla
        have hrm : r ∈ Os := by
          rw [hr.out, List.getD_eq_getElem?_getD, List.getElem?_eq_getElem (by assumption)]
          exact List.getElem_mem _
        refine WL.val (by kernel_rfl) (.slice (some ⟨oq, oo, none⟩) Os.length oc) (by go_simp) ?_
        simp only [Act.put, List.setIfInBounds_toArray, List.set_cons_zero, List.set_cons_succ]
        refine WL.val (by kernel_rfl) (.int .i64 (u : Int)) (by go_simp) ?_
        simp only [Act.put, List.setIfInBounds_toArray, List.set_cons_zero, List.set_cons_succ]
        have hco2_ : ¬ Os.length ≤ u := by omega
        refine WL.val (by kernel_rfl) (.pointer (some ⟨oq, oo + u, none⟩)) (by go_simp) ?_
        clear hco2_
        simp only [Act.put, List.setIfInBounds_toArray, List.set_cons_zero, List.set_cons_succ]
        have c_ := cell_up HC_r.out HSb.out.bel
        refine WL.val (by kernel_rfl) (.slice va vn vc) (by go_simp) ?_
        clear c_
        simp only [Act.put, List.setIfInBounds_toArray, List.set_cons_zero, List.set_cons_succ]
        refine WL.callF (by kernel_rfl) 15 _ _ rfl Tryd.in15 #[.pointer (some ⟨p, 0, none⟩), .int .i64 3, .int .i64 2, .slice va vn vc] (by simp [Act.eval]) ?_
        refine (ls_send_other HSb.out (by decide) 3 2 (by decide) (by decide) (HR_r.out.below HSb.out.bel) (HBo.out r hrm) (lt_rows HR_r.out)).mono ?_
        rintro e wd ⟨er1, rfl, hL⟩
        refine ⟨_, rfl, ?_⟩
        have HSd := Keep.mk hL
        clear hL
        simp only [Act.put, List.setIfInBounds_toArray, List.set_cons_zero, List.set_cons_succ]
        refine WL.nil ?_
        refine hK29 _ _ ?_
        refine wp_seq_k fun K30 hK30 => ?_
        refine wp_region_list (WL.out ?_)
        refine WL.val (by kernel_rfl) (.pointer (some ⟨p, 0, none⟩)) (by go_simp) ?_
        simp only [Act.put, List.setIfInBounds_toArray, List.set_cons_zero, List.set_cons_succ]
        refine WL.val (by kernel_rfl) (.slice (some ⟨oq, oo, none⟩) Os.length oc) (by go_simp) ?_
        simp only [Act.put, List.setIfInBounds_toArray, List.set_cons_zero, List.set_cons_succ]
        refine WL.val (by kernel_rfl) (.int .i64 (u : Int)) (by go_simp) ?_
        simp only [Act.put, List.setIfInBounds_toArray, List.set_cons_zero, List.set_cons_succ]
        have hco2_ : ¬ Os.length ≤ u := by omega
        refine WL.val (by kernel_rfl) (.pointer (some ⟨oq, oo + u, none⟩)) (by go_simp) ?_
        clear hco2_
        simp only [Act.put, List.setIfInBounds_toArray, List.set_cons_zero, List.set_cons_succ]
        have c_ := cell_up HC_r.out HSd.out.bel
        refine WL.val (by kernel_rfl) (.slice va vn vc) (by go_simp) ?_
        clear c_
        simp only [Act.put, List.setIfInBounds_toArray, List.set_cons_zero, List.set_cons_succ]
        refine WL.callF (by kernel_rfl) 15 _ _ rfl Tryd.in15 #[.pointer (some ⟨p, 0, none⟩), .int .i64 1, .int .i64 3, .slice va vn vc] (by simp [Act.eval]) ?_
        refine (ls_send_other HSd.out (by decide) 1 3 (by decide) (by decide) (HR_r.out.below HSd.out.bel) (HBo.out r hrm) (lt_rows HR_r.out)).mono ?_
        rintro e we ⟨er2, rfl, hL⟩
        refine ⟨_, rfl, ?_⟩
        have HSe := Keep.mk hL
        clear hL
        simp only [Act.put, List.setIfInBounds_toArray, List.set_cons_zero, List.set_cons_succ]
        refine WL.nil ?_
        refine hK30 _ _ ?_
        refine wp_region_list (WL.out ?_)
        refine WL.val (by kernel_rfl) (.pointer (some ⟨p, 0, none⟩)) (by go_simp) ?_
        simp only [Act.put, List.setIfInBounds_toArray, List.set_cons_zero, List.set_cons_succ]
        refine WL.callF (by kernel_rfl) 16 _ _ rfl Tryd.in16 #[.pointer (some ⟨p, 0, none⟩), .int .i64 3, .int .i64 2] (by simp [Act.eval]) ?_
        refine (ls_take_other HSe.out (by decide) 3 2 (by decide) (by decide) HE.out).mono ?_
        rintro e wf ⟨v9, ev9, rfl, hL⟩
        refine ⟨_, rfl, ?_⟩
        have HSf := Keep.mk hL
        clear hL
        simp only [Act.put, List.setIfInBounds_toArray, List.set_cons_zero, List.set_cons_succ]
        refine WL.nil ?_
        exact restC.out _ _ _ _ _ _ _ _ _ _ _ _ _ _ _ _ _ _ wf HSf
      · have hco_ : (¬ (u : Int) < (Os.length : Int)) := by omega
        refine WL.val (by kernel_rfl) (.bool false) (by go_simp) ?_
        simp only [Act.put, List.setIfInBounds_toArray, List.set_cons_zero, List.set_cons_succ]
        refine WL.nil ?_
        refine hK16 _ _ ?_
        refine wp_cond_false rfl ?_
        refine wp_skip ?_
        exact restC.out _ _ _ _ _ _ _ _ _ _ _ _ _ _ _ _ _ _ wb HSb
    have restB := Keep.mk restB
    have ha := ha.out
    refine wp_region_list (WL.out ?_)
    refine WL.val (by kernel_rfl) (.int .i64 (u : Int)) (by go_simp) ?_
    simp only [Act.put, List.setIfInBounds_toArray, List.set_cons_zero, List.set_cons_succ]
    refine WL.val (by kernel_rfl) (.slice la L.length lc) (by go_simp) ?_
    simp only [Act.put, List.setIfInBounds_toArray, List.set_cons_zero, List.set_cons_succ]
    refine WL.val (by kernel_rfl) (.int .i64 (L.length : Int)) (by go_simp) ?_
    simp only [Act.put, List.setIfInBounds_toArray, List.set_cons_zero, List.set_cons_succ]
    by_cases h10_3 : u < L.length
    · have hcu_ : ((u : Int) < (L.length : Int)) := by omega
      refine WL.val (by kernel_rfl) (.bool true) (by go_simp) ?_
      simp only [Act.put, List.setIfInBounds_toArray, List.set_cons_zero, List.set_cons_succ]
      refine WL.nil ?_
      refine hK14 _ _ ?_
      refine wp_cond_true rfl ?_
      refine wp_seq_k fun K31 hK31 => ?_
      refine wp_region_list (WL.out ?_)
      refine WL.val (by kernel_rfl) (.pointer (some ⟨p, 0, none⟩)) (by go_simp) ?_
      simp only [Act.put, List.setIfInBounds_toArray, List.set_cons_zero, List.set_cons_succ]
      obtain ⟨lq, lo, ua, uc, hla, _, hc_, hr_⟩ := HR.out.at u (by assumption)
      have eLa := hla
      subst eLa
      obtain ⟨r, hr⟩ : ∃ z, Keep (z = L.getD u []) := ⟨_, ⟨rfl⟩⟩
      rw [← hr.out] at hc_ hr_
      obtain ⟨rn, hrn⟩ : ∃ z, Keep (r.length = z) := ⟨_, ⟨rfl⟩⟩
      rw [hrn.out] at hc_ hr_
      have HC_r := Keep.mk hc_
      have HR_r := Keep.mk hr_
      clear hc_ hr_ hla
      have hrm : r ∈ L := by
        rw [hr.out, List.getD_eq_getElem?_getD, List.getElem?_eq_getElem (by assumption)]
        exact List.getElem_mem _
      have hcu1_ : u < L.length := by assumption
      have Es : Keep (s = u) := ⟨by omega⟩
      have hml : ((L.take s).drop g).length = s - g := by rw [List.length_drop, List.length_take]; omega
      have hfw := HS.out.few (by decide)
      rw [hml] at hfw
      refine WL.val (by kernel_rfl) (.slice (some ⟨lq, lo, none⟩) L.length lc) (by go_simp) ?_
      simp only [Act.put, List.setIfInBounds_toArray, List.set_cons_zero, List.set_cons_succ]
      refine WL.val (by kernel_rfl) (.int .i64 (u : Int)) (by go_simp) ?_
      simp only [Act.put, List.setIfInBounds_toArray, List.set_cons_zero, List.set_cons_succ]
      have hcu2_ : ¬ L.length ≤ u := by omega
      refine WL.val (by kernel_rfl) (.pointer (some ⟨lq, lo + u, none⟩)) (by go_simp) ?_
      clear hcu2_
      simp only [Act.put, List.setIfInBounds_toArray, List.set_cons_zero, List.set_cons_succ]
      have c_ := cell_up HC_r.out HS.out.bel
      refine WL.val (by kernel_rfl) (.slice ua rn uc) (by go_simp) ?_
      clear c_
      simp only [Act.put, List.setIfInBounds_toArray, List.set_cons_zero, List.set_cons_succ]
      refine WL.callF (by kernel_rfl) 15 _ _ rfl Tryd.in15 #[.pointer (some ⟨p, 0, none⟩), .int .i64 2, .int .i64 3, .slice ua rn uc] (by simp [Act.eval]) ?_
      refine (ls_send HS.out (by decide) (HR_r.out.below HS.out.bel) (HBy.out r hrm) (lt_rows HR_r.out)).mono ?_
      rintro e wa ⟨er, rfl, her, hL⟩
      refine ⟨_, rfl, ?_⟩
      have HLa := Keep.mk hL
      have Her := Keep.mk her
      clear hL her
      simp only [Act.put, List.setIfInBounds_toArray, List.set_cons_zero, List.set_cons_succ]
      refine WL.val (by kernel_rfl) (.int .i64 er) (by go_simp) ?_
      simp only [Act.put, List.setIfInBounds_toArray, List.set_cons_zero, List.set_cons_succ]
      refine WL.nil ?_
      refine hK31 _ _ ?_
      refine wp_seq_k fun K32 hK32 => ?_
      refine wp_seq_k fun K33 hK33 => ?_
      refine wp_region_list (WL.out ?_)
      refine WL.val (by kernel_rfl) (.int .i64 er) (by go_simp) ?_
      simp only [Act.put, List.setIfInBounds_toArray, List.set_cons_zero, List.set_cons_succ]
      by_cases h12_1 : er = 4
      · skip
        refine WL.val (by kernel_rfl) (.bool true) (by go_simp) ?_
        simp only [Act.put, List.setIfInBounds_toArray, List.set_cons_zero, List.set_cons_succ]
        refine WL.val (by kernel_rfl) (.bool true) (by go_simp) ?_
        simp only [Act.put, List.setIfInBounds_toArray, List.set_cons_zero, List.set_cons_succ]
        refine WL.val (by kernel_rfl) (.slice (some ⟨lq, lo, none⟩) L.length lc) (by go_simp) ?_
        simp only [Act.put, List.setIfInBounds_toArray, List.set_cons_zero, List.set_cons_succ]
        refine WL.val (by kernel_rfl) (.int .i64 (u : Int)) (by go_simp) ?_
        simp only [Act.put, List.setIfInBounds_toArray, List.set_cons_zero, List.set_cons_succ]
        have hcu2_ : ¬ L.length ≤ u := by omega
        refine WL.val (by kernel_rfl) (.pointer (some ⟨lq, lo + u, none⟩)) (by go_simp) ?_
        clear hcu2_
        simp only [Act.put, List.setIfInBounds_toArray, List.set_cons_zero, List.set_cons_succ]
        have c_ := cell_up HC_r.out HLa.out.bel
        refine WL.val (by kernel_rfl) (.slice ua rn uc) (by go_simp) ?_
        clear c_
        simp only [Act.put, List.setIfInBounds_toArray, List.set_cons_zero, List.set_cons_succ]
        refine WL.val (by kernel_rfl) (.int .i64 (rn : Int)) (by go_simp) ?_
        simp only [Act.put, List.setIfInBounds_toArray, List.set_cons_zero, List.set_cons_succ]
        have hbig : (rn : Int) > 2097194 := by
          have h4 : sdE ((L.take s).drop g) r = 4 := by rw [← Her.out]; assumption
          have := sdE_4 h4
          have := hrn.out
          omega
        have hbig2 : 2097194 < rn := by omega
        refine WL.val (by kernel_rfl) (.bool true) (by go_simp) ?_
        simp only [Act.put, List.setIfInBounds_toArray, List.set_cons_zero, List.set_cons_succ]
        refine WL.val (by kernel_rfl) (.bool true) (by go_simp) ?_
        simp only [Act.put, List.setIfInBounds_toArray, List.set_cons_zero, List.set_cons_succ]
        refine WL.val (by kernel_rfl) (.bool true) (by go_simp) ?_
        simp only [Act.put, List.setIfInBounds_toArray, List.set_cons_zero, List.set_cons_succ]
        refine WL.skip (by kernel_rfl) ?_
        simp only [Act.put, List.setIfInBounds_toArray, List.set_cons_zero, List.set_cons_succ]
        refine WL.skip (by kernel_rfl) ?_
        simp only [Act.put, List.setIfInBounds_toArray, List.set_cons_zero, List.set_cons_succ]
        refine WL.skip (by kernel_rfl) ?_
        simp only [Act.put, List.setIfInBounds_toArray, List.set_cons_zero, List.set_cons_succ]
        refine WL.skip (by kernel_rfl) ?_
        simp only [Act.put, List.setIfInBounds_toArray, List.set_cons_zero, List.set_cons_succ]
        refine WL.skip (by kernel_rfl) ?_
        simp only [Act.put, List.setIfInBounds_toArray, List.set_cons_zero, List.set_cons_succ]
        refine WL.skip (by kernel_rfl) ?_
        simp only [Act.put, List.setIfInBounds_toArray, List.set_cons_zero, List.set_cons_succ]
        refine WL.skip (by kernel_rfl) ?_
        simp only [Act.put, List.setIfInBounds_toArray, List.set_cons_zero, List.set_cons_succ]
        refine WL.skip (by kernel_rfl) ?_
        simp only [Act.put, List.setIfInBounds_toArray, List.set_cons_zero, List.set_cons_succ]
        refine WL.val (by kernel_rfl) (.bool true) (by go_simp) ?_
        simp only [Act.put, List.setIfInBounds_toArray, List.set_cons_zero, List.set_cons_succ]
        refine WL.nil ?_
        refine hK33 _ _ ?_
        refine wp_cond_true rfl ?_
        refine wp_seq_k fun K34 hK34 => ?_
        refine wp_region_list (WL.out ?_)
        refine WL.val (by kernel_rfl) (.bool true) (by go_simp) ?_
        simp only [Act.put, List.setIfInBounds_toArray, List.set_cons_zero, List.set_cons_succ]
        refine WL.nil ?_
        refine hK34 _ _ ?_
        refine wp_ret ?_
        try simp only [Exit.inBlock, Exit.then]
        go_ret
        exact ⟨rfl, HLa.out.bel⟩
      · skip
        refine WL.val (by kernel_rfl) (.bool false) (by go_simp) ?_
        simp only [Act.put, List.setIfInBounds_toArray, List.set_cons_zero, List.set_cons_succ]
        refine WL.val (by kernel_rfl) (.bool false) (by go_simp) ?_
        simp only [Act.put, List.setIfInBounds_toArray, List.set_cons_zero, List.set_cons_succ]
        refine WL.skip (by kernel_rfl) ?_
        simp only [Act.put, List.setIfInBounds_toArray, List.set_cons_zero, List.set_cons_succ]
        refine WL.skip (by kernel_rfl) ?_
        simp only [Act.put, List.setIfInBounds_toArray, List.set_cons_zero, List.set_cons_succ]
        refine WL.skip (by kernel_rfl) ?_
        simp only [Act.put, List.setIfInBounds_toArray, List.set_cons_zero, List.set_cons_succ]
        refine WL.skip (by kernel_rfl) ?_
        simp only [Act.put, List.setIfInBounds_toArray, List.set_cons_zero, List.set_cons_succ]
        refine WL.skip (by kernel_rfl) ?_
        simp only [Act.put, List.setIfInBounds_toArray, List.set_cons_zero, List.set_cons_succ]
        refine WL.skip (by kernel_rfl) ?_
        simp only [Act.put, List.setIfInBounds_toArray, List.set_cons_zero, List.set_cons_succ]
        refine WL.val (by kernel_rfl) (.bool false) (by go_simp) ?_
        simp only [Act.put, List.setIfInBounds_toArray, List.set_cons_zero, List.set_cons_succ]
        refine WL.val (by kernel_rfl) (.bool false) (by go_simp) ?_
        simp only [Act.put, List.setIfInBounds_toArray, List.set_cons_zero, List.set_cons_succ]
        refine WL.val (by kernel_rfl) (.int .i64 er) (by go_simp) ?_
        simp only [Act.put, List.setIfInBounds_toArray, List.set_cons_zero, List.set_cons_succ]
        by_cases h12_12 : er = 3
        · skip
          refine WL.val (by kernel_rfl) (.bool true) (by go_simp) ?_
          simp only [Act.put, List.setIfInBounds_toArray, List.set_cons_zero, List.set_cons_succ]
          refine WL.val (by kernel_rfl) (.bool true) (by go_simp) ?_
          simp only [Act.put, List.setIfInBounds_toArray, List.set_cons_zero, List.set_cons_succ]
          refine WL.val (by kernel_rfl) (.int .i64 (s : Int)) (by go_simp) ?_
          simp only [Act.put, List.setIfInBounds_toArray, List.set_cons_zero, List.set_cons_succ]
          refine WL.val (by kernel_rfl) (.int .i64 (g : Int)) (by go_simp) ?_
          simp only [Act.put, List.setIfInBounds_toArray, List.set_cons_zero, List.set_cons_succ]
          have hsg : s - g = 1024 := by
            have h3 : sdE ((L.take s).drop g) r = 3 := by rw [← Her.out]; assumption
            have h4 := sdE_3 h3
            rw [hml] at h4
            omega
          have hw2 : IntKind.i64.wrap ((s : Int) - (g : Int)) = 1024 := by rw [IntKind.wrap_i64]; omega
          refine WL.val (by kernel_rfl) (.int .i64 1024) (by go_simp) ?_
          clear hw2
          simp only [Act.put, List.setIfInBounds_toArray, List.set_cons_zero, List.set_cons_succ]
          refine WL.val (by kernel_rfl) (.bool true) (by go_simp) ?_
          simp only [Act.put, List.setIfInBounds_toArray, List.set_cons_zero, List.set_cons_succ]
          refine WL.val (by kernel_rfl) (.bool true) (by go_simp) ?_
          simp only [Act.put, List.setIfInBounds_toArray, List.set_cons_zero, List.set_cons_succ]
          refine WL.val (by kernel_rfl) (.bool true) (by go_simp) ?_
          simp only [Act.put, List.setIfInBounds_toArray, List.set_cons_zero, List.set_cons_succ]
          refine WL.nil ?_
          refine hK33 _ _ ?_
          refine wp_cond_true rfl ?_
          refine wp_seq_k fun K35 hK35 => ?_
          refine wp_region_list (WL.out ?_)
          refine WL.val (by kernel_rfl) (.bool true) (by go_simp) ?_
          simp only [Act.put, List.setIfInBounds_toArray, List.set_cons_zero, List.set_cons_succ]
          refine WL.nil ?_
          refine hK35 _ _ ?_
          refine wp_ret ?_
          try simp only [Exit.inBlock, Exit.then]
          go_ret
          exact ⟨rfl, HLa.out.bel⟩
        · skip
          refine WL.val (by kernel_rfl) (.bool false) (by go_simp) ?_
          simp only [Act.put, List.setIfInBounds_toArray, List.set_cons_zero, List.set_cons_succ]
          refine WL.val (by kernel_rfl) (.bool false) (by go_simp) ?_
          simp only [Act.put, List.setIfInBounds_toArray, List.set_cons_zero, List.set_cons_succ]
          refine WL.skip (by kernel_rfl) ?_
          simp only [Act.put, List.setIfInBounds_toArray, List.set_cons_zero, List.set_cons_succ]
          refine WL.skip (by kernel_rfl) ?_
          simp only [Act.put, List.setIfInBounds_toArray, List.set_cons_zero, List.set_cons_succ]
          refine WL.skip (by kernel_rfl) ?_
          simp only [Act.put, List.setIfInBounds_toArray, List.set_cons_zero, List.set_cons_succ]
          refine WL.skip (by kernel_rfl) ?_
          simp only [Act.put, List.setIfInBounds_toArray, List.set_cons_zero, List.set_cons_succ]
          refine WL.val (by kernel_rfl) (.bool false) (by go_simp) ?_
          simp only [Act.put, List.setIfInBounds_toArray, List.set_cons_zero, List.set_cons_succ]
          refine WL.val (by kernel_rfl) (.bool false) (by go_simp) ?_
          simp only [Act.put, List.setIfInBounds_toArray, List.set_cons_zero, List.set_cons_succ]
          refine WL.nil ?_
          refine hK33 _ _ ?_
          refine wp_cond_false rfl ?_
          refine wp_skip ?_
          refine hK32 _ _ ?_
          refine wp_seq_k fun K36 hK36 => ?_
          refine wp_seq_k fun K37 hK37 => ?_
          refine wp_region_list (WL.out ?_)
          refine WL.val (by kernel_rfl) (.int .i64 er) (by go_simp) ?_
          simp only [Act.put, List.setIfInBounds_toArray, List.set_cons_zero, List.set_cons_succ]
          have he0 : er = 0 := by
            have h := Her.out
            rcases sdE_all ((L.take s).drop g) r with e | e | e <;> rw [e] at h
            · exact h
            · exact absurd h (by assumption)
            · exact absurd h (by assumption)
          refine WL.val (by kernel_rfl) (.bool false) (by go_simp) ?_
          simp only [Act.put, List.setIfInBounds_toArray, List.set_cons_zero, List.set_cons_succ]
          refine WL.nil ?_
          refine hK37 _ _ ?_
          refine wp_cond_false rfl ?_
          refine wp_skip ?_
          refine hK36 _ _ ?_
          refine wp_region_list (WL.out ?_)
          refine WL.val (by kernel_rfl) (.int .i64 (s : Int)) (by go_simp) ?_
          simp only [Act.put, List.setIfInBounds_toArray, List.set_cons_zero, List.set_cons_succ]
          have hw3 : IntKind.i64.wrap ((s : Int) + 1) = ((s + 1 : Nat) : Int) := by rw [IntKind.wrap_i64]; omega
          have HSa : Keep (LS w wa p mb 3 2 3 ((L.take (s + 1)).drop g) []) := ⟨by
            have h := HLa.out
            rw [if_pos (Her.out.symm.trans he0)] at h
            rw [hr.out, Es.out] at h
            rw [Es.out, take_drop_next L hcu1_ (by omega)]
            exact h⟩
          refine WL.val (by kernel_rfl) (.int .i64 ((s + 1 : Nat) : Int)) (by go_simp) ?_
          clear hw3
          simp only [Act.put, List.setIfInBounds_toArray, List.set_cons_zero, List.set_cons_succ]
          refine WL.val (by kernel_rfl) (.int .i64 ((s + 1 : Nat) : Int)) (by go_simp) ?_
          simp only [Act.put, List.setIfInBounds_toArray, List.set_cons_zero, List.set_cons_succ]
          refine WL.nil ?_
          exact restB.out _ _ _ _ _ _ _ _ _ _ _ _ _ _ _ _ _ _ _ _ _ _ _ _ _ _ _ _ _ _ _ _ _ _ _ (s + 1) wa ⟨by omega⟩ HSa
    · have hcu_ : (¬ (u : Int) < (L.length : Int)) := by omega
      refine WL.val (by kernel_rfl) (.bool false) (by go_simp) ?_
      simp only [Act.put, List.setIfInBounds_toArray, List.set_cons_zero, List.set_cons_succ]
      refine WL.nil ?_
      refine hK14 _ _ ?_
      refine wp_cond_false rfl ?_
      refine wp_skip ?_
      exact restB.out _ _ _ _ _ _ _ _ _ _ _ _ _ _ _ _ _ _ _ _ _ _ _ _ _ _ _ _ _ _ _ _ _ _ _ s wr ⟨by omega⟩ HS
  have restA := Keep.mk restA
  refine wp_region_list (WL.out ?_)
  refine WL.val (by kernel_rfl) (.int .i64 (u : Int)) (by go_simp) ?_
  simp only [Act.put, List.setIfInBounds_toArray, List.set_cons_zero, List.set_cons_succ]
  refine WL.val (by kernel_rfl) (.slice la L.length lc) (by go_simp) ?_
  simp only [Act.put, List.setIfInBounds_toArray, List.set_cons_zero, List.set_cons_succ]
  refine WL.val (by kernel_rfl) (.int .i64 (L.length : Int)) (by go_simp) ?_
  simp only [Act.put, List.setIfInBounds_toArray, List.set_cons_zero, List.set_cons_succ]
  by_cases h8_3 : u < L.length
  · have hcu_ : ((u : Int) < (L.length : Int)) := by omega
    refine WL.val (by kernel_rfl) (.bool true) (by go_simp) ?_
    simp only [Act.put, List.setIfInBounds_toArray, List.set_cons_zero, List.set_cons_succ]
    refine WL.val (by kernel_rfl) (.bool true) (by go_simp) ?_
    simp only [Act.put, List.setIfInBounds_toArray, List.set_cons_zero, List.set_cons_succ]
    refine WL.skip (by kernel_rfl) ?_
    simp only [Act.put, List.setIfInBounds_toArray, List.set_cons_zero, List.set_cons_succ]
    refine WL.skip (by kernel_rfl) ?_
    simp only [Act.put, List.setIfInBounds_toArray, List.set_cons_zero, List.set_cons_succ]
    refine WL.skip (by kernel_rfl) ?_
    simp only [Act.put, List.setIfInBounds_toArray, List.set_cons_zero, List.set_cons_succ]
    refine WL.val (by kernel_rfl) (.bool true) (by go_simp) ?_
    simp only [Act.put, List.setIfInBounds_toArray, List.set_cons_zero, List.set_cons_succ]
    refine WL.nil ?_
    refine hK11 _ _ ?_
    refine wp_cond_true rfl ?_
    refine wp_skip ?_
    exact restA.out _ _ _ _ _ _ _ _ _ ⟨by first | exact .inl (by assumption) | exact .inr (by assumption)⟩
  · have hcu_ : (¬ (u : Int) < (L.length : Int)) := by omega
    refine WL.val (by kernel_rfl) (.bool false) (by go_simp) ?_
    simp only [Act.put, List.setIfInBounds_toArray, List.set_cons_zero, List.set_cons_succ]
    refine WL.val (by kernel_rfl) (.bool false) (by go_simp) ?_
    simp only [Act.put, List.setIfInBounds_toArray, List.set_cons_zero, List.set_cons_succ]
    refine WL.val (by kernel_rfl) (.int .i64 (g : Int)) (by go_simp) ?_
    simp only [Act.put, List.setIfInBounds_toArray, List.set_cons_zero, List.set_cons_succ]
    refine WL.val (by kernel_rfl) (.int .i64 (s : Int)) (by go_simp) ?_
    simp only [Act.put, List.setIfInBounds_toArray, List.set_cons_zero, List.set_cons_succ]
    by_cases h8_7 : g < s
    · have hcg_ : ((g : Int) < (s : Int)) := by omega
      refine WL.val (by kernel_rfl) (.bool true) (by go_simp) ?_
      simp only [Act.put, List.setIfInBounds_toArray, List.set_cons_zero, List.set_cons_succ]
      refine WL.val (by kernel_rfl) (.bool true) (by go_simp) ?_
      simp only [Act.put, List.setIfInBounds_toArray, List.set_cons_zero, List.set_cons_succ]
      refine WL.nil ?_
      refine hK11 _ _ ?_
      refine wp_cond_true rfl ?_
      refine wp_skip ?_
      exact restA.out _ _ _ _ _ _ _ _ _ ⟨by first | exact .inl (by assumption) | exact .inr (by assumption)⟩
    · have hcg_ : (¬ (g : Int) < (s : Int)) := by omega
      refine WL.val (by kernel_rfl) (.bool false) (by go_simp) ?_
      simp only [Act.put, List.setIfInBounds_toArray, List.set_cons_zero, List.set_cons_succ]
      refine WL.val (by kernel_rfl) (.bool false) (by go_simp) ?_
      simp only [Act.put, List.setIfInBounds_toArray, List.set_cons_zero, List.set_cons_succ]
      refine WL.nil ?_
      refine hK11 _ _ ?_
      refine wp_cond_false rfl ?_
      refine wp_exit ?_
      refine hK8 _ _ ?_
      refine wp_seq_k fun K38 hK38 => ?_
      refine wp_region_list (WL.out ?_)
      refine WL.val (by kernel_rfl) (.pointer (some ⟨p, 0, none⟩)) (by go_simp) ?_
      simp only [Act.put, List.setIfInBounds_toArray, List.set_cons_zero, List.set_cons_succ]
      have hemp : (L.take s).drop g = [] := by rw [List.drop_eq_nil_iff, List.length_take]; omega
      have HSz : Keep (LS w wr p mb 3 2 3 [] []) := ⟨by have h := HS.out; rwa [hemp] at h⟩
      refine WL.callF (by kernel_rfl) 16 _ _ rfl Tryd.in16 #[.pointer (some ⟨p, 0, none⟩), .int .i64 2, .int .i64 3] (by simp [Act.eval]) ?_
      refine (ls_idle HSz.out (by decide) HE.out).mono ?_
      rintro e wi ⟨rfl, hL⟩
      refine ⟨_, rfl, ?_⟩
      have HSi := Keep.mk hL
      have g_ := (HE.out.of HSi.out.bel).c
      clear hL
      simp only [Act.put, List.setIfInBounds_toArray, List.set_cons_zero, List.set_cons_succ]
      refine WL.val (by kernel_rfl) (.tuple #[.slice none 0 0, .iface 105 (.pointer (some qe))]) (by go_simp) ?_
      simp only [Act.put, List.setIfInBounds_toArray, List.set_cons_zero, List.set_cons_succ]
      refine WL.val (by kernel_rfl) (.slice none 0 0) (by go_simp) ?_
      simp only [Act.put, List.setIfInBounds_toArray, List.set_cons_zero, List.set_cons_succ]
      refine WL.val (by kernel_rfl) (.iface 105 (.pointer (some qe))) (by go_simp) ?_
      simp only [Act.put, List.setIfInBounds_toArray, List.set_cons_zero, List.set_cons_succ]
      refine WL.val (by kernel_rfl) (.slice none 0 0) (by go_simp) ?_
      simp only [Act.put, List.setIfInBounds_toArray, List.set_cons_zero, List.set_cons_succ]
      refine WL.val (by kernel_rfl) (.iface 105 (.pointer (some qe))) (by go_simp) ?_
      simp only [Act.put, List.setIfInBounds_toArray, List.set_cons_zero, List.set_cons_succ]
      refine WL.nil ?_
      refine hK38 _ _ ?_
      refine wp_seq_k fun K39 hK39 => ?_
      refine wp_region_list (WL.out ?_)
      refine WL.val (by kernel_rfl) (.iface 105 (.pointer (some qe))) (by go_simp) ?_
      simp only [Act.put, List.setIfInBounds_toArray, List.set_cons_zero, List.set_cons_succ]
      refine WL.val (by kernel_rfl) (.iface 105 (.pointer (some qe))) (by go_simp) ?_
      simp only [Act.put, List.setIfInBounds_toArray, List.set_cons_zero, List.set_cons_succ]
      refine WL.val (by kernel_rfl) (.bool true) (by have h := eq_idle qe wi; go_simp) ?_
      simp only [Act.put, List.setIfInBounds_toArray, List.set_cons_zero, List.set_cons_succ]
      refine WL.val (by kernel_rfl) (.bool true) (by go_simp) ?_
      simp only [Act.put, List.setIfInBounds_toArray, List.set_cons_zero, List.set_cons_succ]
      refine WL.nil ?_
      refine hK39 _ _ ?_
      refine wp_ret ?_
      try simp only [Exit.inBlock, Exit.then]
      go_ret
      exact ⟨rfl, HSi.out.bel⟩

theorem row_law (w : World) (qe : Addr) (hE : ErrI w qe) (vl vo vt : Value) (L Os : List (List Int)) (T : List Bool) (hL : RwsAt w vl L) (hO : RwsAt w vo Os) (hT : BolsAt w vt T) (hY : ∀ r ∈ L, Byts r) (hZ : ∀ r ∈ Os, Byts r) (hN : L.length ≤ 140737488355328) (hM : Os.length ≤ 140737488355328) : Calls Tryd.prog 5 #[vl, vo, vt] w fun e w' => e = .returned (.bool true) ∧ Below w.heap.size w w' := by
  obtain ⟨la, lc, rfl⟩ := hL.form
  obtain ⟨oa, oc, rfl⟩ := hO.form
  obtain ⟨ta, tc, rfl⟩ := hT.form
  exact mrow_any w qe ⟨hE⟩ la oa ta lc oc tc L Os T ⟨hL⟩ ⟨hO⟩ ⟨hT⟩ ⟨hY⟩ ⟨hZ⟩ ⟨hN⟩ ⟨hM⟩

end Go.Proofs.YteecdcocgflklaaDoor
namespace Go.Proofs.YteecdcocgflklaaDoor
open Go.RowKit
set_option linter.unusedSimpArgs false
set_option linter.unusedVariables false
open Go.ChangeShapes Go.WideShapes Go.ChangeAt Go.RowKit Go.Deep
theorem Tryd.jcells39 : Tryd.prog.cellsOf 39 = 1 := by kernel_rfl
theorem Tryd.jcells5 : Tryd.prog.cellsOf 5 = 1 := by kernel_rfl
theorem Tryd.jcells3 : Tryd.prog.cellsOf 3 = 1 := by kernel_rfl
theorem Tryd.jcells4 : Tryd.prog.cellsOf 4 = 1 := by kernel_rfl
theorem Tryd.undIs : Tryd.prog.underlying 89 = some (.slice 3) := by kernel_rfl
theorem Tryd.undRw : Tryd.prog.underlying 36 = some (.slice 39) := by kernel_rfl
theorem Tryd.undBs : Tryd.prog.underlying 45 = some (.slice 4) := by kernel_rfl
theorem Tryd.undB : Tryd.prog.underlying 4 = some .bool := by kernel_rfl
theorem Tryd.jbytes5 : Tryd.prog.bytesOf 5 = 1 := by kernel_rfl
theorem Tryd.jbytes39 : Tryd.prog.bytesOf 39 = 24 := by kernel_rfl
theorem reach_is : reachBytes = 140737488351232 := by decide
theorem jadd_none (b o i : Nat) : (⟨b, o, none⟩ : Addr).add i = ⟨b, o + i, none⟩ := by
  simp [Addr.add]
theorem jwf_u8 {n : Int} (h : (Lit.int .u8 n).wf = true) : 0 ≤ n ∧ n < 256 := by
  have h1 : IntKind.u8.min = 0 := by decide
  have h2 : IntKind.u8.max = 255 := by decide
  simp only [Lit.wf, h1, h2, Bool.and_eq_true, decide_eq_true_eq] at h
  omega
theorem jwf_i64 {n : Int} (h : (Lit.int .i64 n).wf = true) : -9223372036854775808 ≤ n ∧ n ≤ 9223372036854775807 := by
  have h1 : IntKind.i64.min = -9223372036854775808 := by decide
  have h2 : IntKind.i64.max = 9223372036854775807 := by decide
  simp only [Lit.wf, h1, h2, Bool.and_eq_true, decide_eq_true_eq] at h
  omega
theorem mem_weightsAll {H : Type} {P : Program} {e : TypeId} {d : DataW H} : ∀ {ds : List (DataW H)}, d ∈ ds → ∀ n ∈ d.weights P e, n ∈ DataW.weightsAll P e ds
  | d0 :: ds, h, n, hn => by
    simp only [DataW.weightsAll, List.mem_append]
    rcases List.mem_cons.1 h with rfl | h
    · exact .inl hn
    · exact .inr (mem_weightsAll h n hn)
theorem brow_of_trod {H : Type} {enc : TypeId × Value → H} {W : World} {sp : Nat → Bool} {held : Bool} {n base : Nat} {v : Value} {x : DataW H × List MemPlace} (hf : DataW.trod enc Tryd.prog W base sp held n 39 [v] = some x) (hw : ∀ n ∈ x.1.weights Tryd.prog 39, n ≤ reachBytes) :
    ∃ l : List Int, RowAt W v l ∧ Byts l ∧ l.length ≤ 140737488351232 := by
  rcases open_ints Tryd.underlying39 Tryd.underlying5 Tryd.jcells5 hf with ⟨hcs, _⟩ | ⟨a, len, cap, zs, hcs, _, hl, hm, hz, hx, hcell, hwz⟩
  · simp at hcs
    subst hcs
    exact ⟨[], .inl ⟨rfl, rfl⟩, fun c hc => by simp at hc, by simp⟩
  · simp at hcs
    subst hcs
    unfold maxLen at hm
    have hlz : len ≤ zs.length := by rw [hz]; split <;> omega
    have hbz : Byts zs := fun c hc => jwf_u8 (hwz c hc)
    have hb : len ≤ 140737488351232 := by
      have h1 := hw ((zs.take len).length + (zs.drop len).length) (by
        rw [hx]
        simp only [DataW.weights, Tryd.underlying39]
        simp [lits, Tryd.jbytes5])
      rw [List.length_take, reach_is] at h1
      omega
    by_cases h0 : len = 0
    · subst h0
      exact ⟨[], .inr (.inl ⟨a, cap, rfl, rfl⟩), fun c hc => by simp at hc, by simp⟩
    · have hs : a.spot = none := by
        have := hcell 0 (by omega)
        rw [show a.add 0 = a from rfl] at this
        exact World.cell?_spot this
      obtain ⟨b, off, sp⟩ := a
      obtain rfl : sp = none := hs
      have hlen : (zs.take len).length = len := by rw [List.length_take]; omega
      refine ⟨zs.take len, .inr (.inr ⟨b, off, cap, by rw [hlen], by omega, fun i hi => ?_⟩), fun c hc => hbz c (List.mem_of_mem_take hc), by omega⟩
      rw [hlen] at hi
      have := hcell i (by omega)
      rw [jadd_none] at this
      rw [this]
      simp [List.getD, hi]
theorem rws_of_trod {H : Type} {enc : TypeId × Value → H} {W : World} {sp : Nat → Bool} {held : Bool} {n base : Nat} {v : Value} {x : DataW H × List MemPlace} (hf : DataW.trod enc Tryd.prog W base sp held n 36 [v] = some x) (hw : ∀ n ∈ x.1.weights Tryd.prog 36, n ≤ reachBytes) :
    ∃ ls : List (List Int), RwsAt W v ls ∧ ls.length ≤ 140737488355328 ∧ ∀ r ∈ ls, Byts r ∧ r.length ≤ 140737488355328 := by
  rcases open_slice1 Tryd.undRw Tryd.jcells39 hf with ⟨hcs, _⟩ | ⟨a, len, cap, m, n, V, D, Pl, hcs, _, hl, hm, hz, hx, hcell⟩
  · simp at hcs
    subst hcs
    exact ⟨[], RwsAt.nil W, by simp, fun r hr => by simp at hr⟩
  · simp at hcs
    subst hcs
    have hlz : len ≤ m := by rw [hz]; split <;> omega
    have hb : len ≤ 140737488355328 := by
      have h1 := hw ((((List.range len).map D).length + ((List.range (m - len)).map fun j => D (len + j)).length) * 24) (by
        rw [hx]
        simp only [DataW.weights, Tryd.undRw]
        simp [Tryd.jbytes39])
      rw [reach_is] at h1
      simp only [List.length_map, List.length_range] at h1
      omega
    have hwD : ∀ i, i < len → ∀ n ∈ (D i).weights Tryd.prog 39, n ≤ reachBytes := fun i hi n hn => hw n (by
      rw [hx]
      simp only [DataW.weights, Tryd.undRw]
      refine List.mem_cons_of_mem _ (List.mem_append_left _ (mem_weightsAll (d := D i) ?_ n hn))
      exact List.mem_map.2 ⟨i, List.mem_range.2 hi, rfl⟩)
    obtain ⟨rows, hrows⟩ := Go.Deep.choose_lt (n := len) (p := fun i l => RowAt W (V i) l ∧ Byts l ∧ l.length ≤ 140737488351232) fun i hi => brow_of_trod (hcell i (by omega)).2 (hwD i hi)
    have hg : ∀ i, i < len → ((List.range len).map rows).getD i [] = rows i := fun i hi => by rw [List.getD_eq_getElem?_getD]; simp [hi]
    refine ⟨(List.range len).map rows, ⟨V, ?_, fun i hi => ?_⟩, by simpa using hb, fun r hr => ?_⟩
    · by_cases h0 : len = 0
      · subst h0
        exact .inl ⟨_, _, rfl, rfl⟩
      · have hs : a.spot = none := by
          have := (hcell 0 (by omega)).1
          rw [show a.add 0 = a from rfl] at this
          exact World.cell?_spot this
        obtain ⟨b, off, sp⟩ := a
        obtain rfl : sp = none := hs
        refine .inr ⟨b, off, cap, by simp, by simpa using hl, fun i hi => ?_⟩
        have := (hcell i (by simp at hi; omega)).1
        rw [jadd_none] at this
        exact this
    · have hi' : i < len := by simpa using hi
      rw [hg i hi']; exact (hrows i hi').1
    · obtain ⟨i, hi, rfl⟩ := List.mem_map.1 hr
      have h1 := hrows i (List.mem_range.1 hi)
      exact ⟨h1.2.1, by have := h1.2.2; omega⟩
theorem bols_of_trod {H : Type} {enc : TypeId × Value → H} {W : World} {sp : Nat → Bool} {held : Bool} {n base : Nat} {v : Value} {x : DataW H × List MemPlace} (hf : DataW.trod enc Tryd.prog W base sp held n 45 [v] = some x) : ∃ l : List Bool, BolsAt W v l := by
  rcases open_slice1 Tryd.undBs Tryd.jcells4 hf with ⟨hcs, _⟩ | ⟨a, len, cap, m, n, V, D, Pl, hcs, _, hl, hm, hz, hx, hcell⟩
  · simp at hcs
    subst hcs
    exact ⟨[], .inl ⟨none, 0, rfl, rfl⟩⟩
  · simp at hcs
    subst hcs
    have hlz : len ≤ m := by rw [hz]; split <;> omega
    obtain ⟨bs, hbs⟩ := Go.Deep.choose_lt (n := len) (p := fun i b => V i = .bool b) fun i hi => by
      obtain ⟨b, h1, _⟩ := DataW.trod_bool Tryd.undB (hcell i (by omega)).2
      exact ⟨b, by simpa using h1⟩
    by_cases h0 : len = 0
    · subst h0
      exact ⟨[], .inl ⟨_, _, rfl, rfl⟩⟩
    · have hs : a.spot = none := by
        have := (hcell 0 (by omega)).1
        rw [show a.add 0 = a from rfl] at this
        exact World.cell?_spot this
      obtain ⟨b, off, sp⟩ := a
      obtain rfl : sp = none := hs
      refine ⟨(List.range len).map bs, .inr ⟨b, off, cap, by simp, fun i y hy => ?_⟩⟩
      have hi : i < len := by have := (List.getElem?_eq_some_iff.1 hy).1; simpa using this
      simp [hi] at hy
      subst hy
      have := (hcell i (by omega)).1
      rw [jadd_none] at this
      rw [this, hbs i hi]
theorem row_lt {w : World} {v : Value} {l : List Int} (h : RowAt w v l) (h0 : l ≠ []) : ∀ k, v.ownBlock = some k → k < w.heap.size := by
  intro k hk
  rcases h with ⟨_, rfl⟩ | ⟨_, _, _, rfl⟩ | ⟨q, off, cap, rfl, h1, h2⟩
  · exact absurd rfl h0
  · exact absurd rfl h0
  · have := cell_lt (h2 0 (List.length_pos_iff.2 h0))
    simp [Value.ownBlock] at hk
    omega

end Go.Proofs.YteecdcocgflklaaDoor
