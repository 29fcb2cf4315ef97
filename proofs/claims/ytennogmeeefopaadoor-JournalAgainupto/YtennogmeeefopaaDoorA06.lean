import Derived.Test.YtennogmeeefopaaDoorA05
import Derived.Test.YtennogmeeefopaaDoorA03
import Derived.Deep.RegionHeld3
import Derived.Lib.SlBytesConst
import Derived.Lib.Small
namespace Go.Proofs.YtennogmeeefopaaDoor
open Go.RowKit
set_option linter.unusedSimpArgs false
set_option linter.unusedVariables false

theorem Tryd.in8 (w : World) (vs : Array Value) : (callFunc 8 vs).run Tryd.prog w = .ok (.enter 8 vs) w := by kernel_rfl
theorem bsAB (w : World) : (Instr.buildSlice 37 2 #[(0, .int .u8 97), (1, .int .u8 98)]).run Tryd.prog w = .ok (.slice (some ⟨w.heap.size, 0, none⟩) 2 2) (w.alloc (.cells (bv [97, 98]).toArray 5)) := by kernel_rfl
def abF : List Int := [2, 0, 0, 0, 253, 255, 255, 255, 251, 142, 32, 252, 46, 76, 63, 36, 97, 98]
theorem ab_frame : (hl 16 (hdF [97, 98]) ++ [97, 98]) = abF := by
 have h : ∀ i, i < 8 → shaP [97, 98] i = abH.getD i 0 := fun i hi => ab_sha i (by omega)
 have e : hl 16 (hdF [97, 98]) = [2, 0, 0, 0, 253, 255, 255, 255, shaP [97, 98] 0, shaP [97, 98] 1, shaP [97, 98] 2, shaP [97, 98] 3, shaP [97, 98] 4, shaP [97, 98] 5, shaP [97, 98] 6, shaP [97, 98] 7] := by
  unfold hdF
  generalize shaP [97, 98] = s
  rfl
 rw [e, h 0 (by omega), h 1 (by omega), h 2 (by omega), h 3 (by omega), h 4 (by omega), h 5 (by omega), h 6 (by omega), h 7 (by omega)]
 rfl
theorem ab_str : strOfNums abF = ⟨#[2, 0, 0, 0, 253, 255, 255, 255, 251, 142, 32, 252, 46, 76, 63, 36, 97, 98]⟩ := by decide +kernel
theorem fnd_one (l : List Int) (z : Int) : fnd (nmS 0) [⟨nmS 0, l, z⟩] 0 = (0, true) := by
 rw [nmS_0]
 unfold fnd
 rw [if_neg (show ¬ Op.bytesLess (⟨#[106, 48, 48, 48, 48]⟩ : ByteArray).toList (⟨#[106, 48, 48, 48, 48]⟩ : ByteArray).toList = true by decide +kernel)]
 exact congrArg (Prod.mk 0) (show ((⟨#[106, 48, 48, 48, 48]⟩ : ByteArray).toList == (⟨#[106, 48, 48, 48, 48]⟩ : ByteArray).toList) = true by decide +kernel)
theorem row_fr {w : World} {g : Nat} {l : List Int} {cs : Array Value} {fr : Nat × Nat} (h : w.heap[g]? = some (.cells cs 5 fr)) (he : cs = (bv l).toArray) (cap : Nat) (hc : l.length ≤ cap) : RowAt w (.slice (some ⟨g, 0, none⟩) l.length cap) l :=
 .inr (.inr ⟨g, 0, cap, rfl, hc, fun i hi => by rw [Nat.zero_add, cell_of_row w g i cs 5 fr h, he, List.getElem?_toArray, bv_get _ _ hi]⟩)
set_option maxRecDepth 8000 in
set_option maxHeartbeats 2000000 in
theorem awake_any (w : World) (hT : Tab w) (hZ : 0 < w.heap.size) : Calls Tryd.prog 8 #[] w fun e w' => e = .returned (.bool true) ∧ Below w.heap.size w w' := by
 have HT := Keep.mk hT
 have HZ := Keep.mk hZ
 clear hT hZ
 go_enter Tryd.func8, Tryd.ntmps8
 refine wp_seq_k fun K1 hK1 => rgn ?_
 refine VlS (.bool false) ?_
 refine WL.nil (hK1 _ _ ?_)
 refine wp_seq_k fun K2 hK2 => rgn ?_
 refine WL.callF (by kernel_rfl) 9 _ _ rfl Tryd.in9 #[.int .i64 1000] (by simp [Act.eval]) ?_
 refine (dnew_any 1000 w).mono ?_
 rintro e w1 ⟨ps, pd, ph, rfl, h1, h2, h3, h4, h5, h6, h7⟩
 refine ⟨_, rfl, ?_⟩
 have HD1 : Keep (DskAt w1 ps (.slice none 0 0) [] ⟨[], 1000, 0, -1, false, 0⟩) := ⟨h1⟩
 have HK1 := Keep.mk h2
 have HH1 := Keep.mk h3
 have LB : Keep (w.heap.size ≤ ps ∧ w.heap.size ≤ pd ∧ w.heap.size ≤ ph) := ⟨h4, h5, h6⟩
 have B1 := Keep.mk h7
 have HT1 : Keep (Tab w1) := ⟨HT.out.below h7 HZ.out⟩
 clear h1 h2 h3 h4 h5 h6 h7
 simp only [Act.put, pqA, pqB, pqC]
 refine VlS (.tuple #[.pointer (some ⟨pd, 0, none⟩), .pointer (some ⟨ph, 0, none⟩)]) ?_
 refine VlS (.pointer (some ⟨pd, 0, none⟩)) ?_
 refine VlS (.pointer (some ⟨ph, 0, none⟩)) ?_
 refine VlS (.pointer (some ⟨pd, 0, none⟩)) ?_
 refine VlS (.pointer (some ⟨ph, 0, none⟩)) ?_
 refine WL.nil (hK2 _ _ ?_)
 refine wp_seq_k fun K3 hK3 => rgn ?_
 refine VlS (.pointer (some ⟨pd, 0, none⟩)) ?_
 refine WL.callF (by kernel_rfl) 7 _ _ rfl Tryd.in7 #[ptr pd] (by simp [Act.eval]) ?_
 refine (open_none pd ps w1 HT1.out (HK1.out.c 0 rfl) (HD1.out.blk.c 4 rfl) (HD1.out.blk.c 0 rfl)).mono ?_
 rintro e w2 ⟨g, pg, rfl, h1, h2, h3⟩
 refine ⟨_, rfl, ?_⟩
 have HJ2 := Keep.mk h1
 have LG : Keep (w.heap.size ≤ g) := ⟨Nat.le_trans B1.out.size h2⟩
 have HD2 := Keep.mk (HD1.out.below h3)
 have HK2 := Keep.mk (HK1.out.below h3 HK1.out.lt)
 have HH2 := Keep.mk (HH1.out.below h3 HH1.out.lt)
 have B2 : Keep (Below w.heap.size w w2) := ⟨B1.out.trans (h3.mono B1.out.size)⟩
 clear h1 h2 h3 HD1 HK1 HH1 HT1
 simp only [Act.put, pqA, pqB, pqC]
 refine VlS (.tuple #[.pointer (some ⟨g, 0, none⟩), .slice (some ⟨pg, 0, none⟩) 0 0, .int .i64 0]) ?_
 refine VlS (.pointer (some ⟨g, 0, none⟩)) ?_
 refine VlS (.slice (some ⟨pg, 0, none⟩) 0 0) ?_
 refine VlS (.int .i64 0) ?_
 refine VlS (.pointer (some ⟨g, 0, none⟩)) ?_
 refine VlS (.slice (some ⟨pg, 0, none⟩) 0 0) ?_
 refine VlS (.int .i64 0) ?_
 refine WL.nil (hK3 _ _ ?_)
 refine wp_seq_k fun K4 hK4 => ?_
 refine wp_seq_k fun K5 hK5 => rgn ?_
 refine VlS (.int .i64 0) ?_
 refine VlS (.bool false) ?_
 refine VlS (.bool false) ?_
 refine VlS (.pointer (some ⟨g, 0, none⟩)) ?_
 refine VlS (.bool false) ?_
 refine VlS (.bool false) ?_
 refine VlS (.bool false) ?_
 refine VlS (.slice (some ⟨pg, 0, none⟩) 0 0) ?_
 refine VlS (.int .i64 0) ?_
 refine VlS (.bool false) ?_
 refine VlS (.bool false) ?_
 refine VlS (.bool false) ?_
 refine VlS (.pointer (some ⟨g, 0, none⟩)) ?_
 refine WL.bs (by kernel_rfl) 37 2 _ rfl #[(0, .int .u8 97), (1, .int .u8 98)] (by simp [Act.eval]) _ _ (bsAB w2) ?_
 simp only [Act.put, pqA, pqB, pqC]
 have hcc := Lib.run_convert_bytes_const (P := Tryd.prog) w2 37 5 (bv [97, 98]).toArray 2 2 Tryd.underlying37 Tryd.underlying5
 obtain ⟨w3, hw3⟩ : ∃ wx, Keep (wx = w2.alloc (.cells (bv [97, 98]).toArray 5 (((bv [97, 98]).toArray).size, ((bv [97, 98]).toArray).size + 1))) := ⟨_, ⟨rfl⟩⟩
 rw [← hw3.out] at hcc
 refine WL.valW (by kernel_rfl) (.slice (some ⟨w2.heap.size, 0, none⟩) 2 2) w3 (by go_simp) ?_
 clear hcc
 have hbx : Below w2.heap.size w2 w3 := by rw [hw3.out]; exact below_new w2 _
 have HR3 : Keep (RowAt w3 (.slice (some ⟨w2.heap.size, 0, none⟩) 2 2) [97, 98]) := ⟨by rw [hw3.out]; exact row_fr (l := [97, 98]) (heap_alloc_new w2 _) rfl 2 (by decide)⟩
 have HJ3 := Keep.mk (HJ2.out.below hbx HJ2.out.lt)
 have HD3 := Keep.mk (HD2.out.below hbx)
 have HK3 := Keep.mk (HK2.out.below hbx HK2.out.lt)
 have HH3 := Keep.mk (HH2.out.below hbx HH2.out.lt)
 have B3 : Keep (Below w.heap.size w w3) := ⟨B2.out.trans (hbx.mono B2.out.size)⟩
 have HT3 : Keep (Tab w3) := ⟨HT.out.below B3.out HZ.out⟩
 clear hbx HJ2 HD2 HK2 HH2 hw3
 obtain ⟨gb, hgb⟩ : ∃ q, Keep (q = w2.heap.size) := ⟨_, ⟨rfl⟩⟩
 rw [← hgb.out] at HR3 ⊢
 simp only [Act.put, pqA, pqB, pqC]
 have hja := japp_none g pd ps 0 (.slice (some ⟨gb, 0, none⟩) 2 2) (.slice none 0 0) (.slice none 0 0) [97, 98] [] ⟨[], 1000, 0, -1, false, 0⟩ [] 0 false w3 HT3.out HJ3.out HK3.out HD3.out (ownP_nil _) (fun k hk => by cases hk) (by decide) rfl rfl (by decide) (by decide) (by decide) (by decide) (by decide) HR3.out
 refine WL.callF (by kernel_rfl) 24 _ _ rfl Tryd.in24 #[ptr g, .slice (some ⟨gb, 0, none⟩) 2 2] (by simp [Act.eval]) ?_
 refine (hja).mono ?_
 rintro e w4 ⟨rfl, vp, vf, cs, h1, h2, h3, h4, h5, h6⟩
 refine ⟨_, rfl, ?_⟩
 have HJ4 := Keep.mk h1
 have HP4 := Keep.mk h2
 obtain ⟨D1, hD1⟩ : ∃ D, Keep (D = DV.appNew ⟨[], 1000, 0, -1, false, 0⟩ 0 (nmS 0) (hl 16 (hdF [97, 98]) ++ [97, 98])) := ⟨_, ⟨rfl⟩⟩
 have HD4 : Keep (DskAt w4 ps vf cs D1) := ⟨by rw [hD1.out]; exact h3⟩
 have B4 : Keep (Below w.heap.size w w4) := ⟨B3.out.trans (h4.to_below (B := w.heap.size) (fun k hk e => by have := LB.out; have := LG.out; rcases e with e | e | e; omega; omega; cases e) B3.out.size)⟩
 have NV : Keep (∀ k, DskS ps vf cs k → w.heap.size ≤ k) := ⟨fun k hk => by rcases h5 k hk with h | h; rcases h with h | h | ⟨i, x, h, _⟩; have := LB.out; omega; cases h; cases h; have := B3.out.size; omega⟩
 have HK4 : Keep (Blk w4 pd 75 #[ptr ps]) := ⟨h4.blk HK3.out fun e => by rcases e with e | e | e; subst e; have := HK3.out.typ.one HD3.out.blk.typ; revert this; decide; subst e; have := HK3.out.typ.one HJ3.out.typ; revert this; decide; cases e⟩
 have HH4 : Keep (Blk w4 ph 77 #[ptr ps]) := ⟨h4.blk HH3.out fun e => by rcases e with e | e | e; subst e; have := HH3.out.typ.one HD3.out.blk.typ; revert this; decide; subst e; have := HH3.out.typ.one HJ3.out.typ; revert this; decide; cases e⟩
 have HT4 : Keep (Tab w4) := ⟨HT.out.below B4.out HZ.out⟩
 have HCl : Keep (cs.length = 1) := ⟨by have h := h3.fcs.len; exact h⟩
 have HFs : Keep (D1.fs = [⟨nmS 0, (hl 16 (hdF [97, 98]) ++ [97, 98]), 0⟩] ∧ D1.out = false ∧ D1.fuse = -1 ∧ D1.acts = 1) := ⟨by rw [hD1.out]; exact ⟨rfl, rfl, rfl, rfl⟩⟩
 clear h1 h2 h3 h4 h5 h6 hja HJ3 HD3 HK3 HH3 HT3 HR3
 simp only [Act.put, pqA, pqB, pqC]
 refine VlS (.bool false) ?_
 refine VlS (.bool false) ?_
 refine VlS (.bool false) ?_
 refine VlS (.pointer (some ⟨g, 0, none⟩)) ?_
 have hjs := jsync_ok g pd ps 0 0 (by omega) vf vp cs D1 (16 + (([97, 98] : List Int).length : Int)) w4 HT4.out HJ4.out HK4.out HD4.out HFs.out.2.1 (by rw [HFs.out.1]; exact fnd_one _ _) (by rw [HCl.out]; decide) (by rw [HFs.out.2.2.2]; decide) (by rw [HFs.out.2.2.1]; decide)
 refine WL.callF (by kernel_rfl) 25 _ _ rfl Tryd.in25 #[ptr g] (by simp [Act.eval]) ?_
 refine (hjs).mono ?_
 rintro e w5 ⟨rfl, cs2, h1, h2, h3, h4⟩
 refine ⟨_, rfl, ?_⟩
 have HJ5 := Keep.mk h1
 have HD5 := Keep.mk h2
 have B5 : Keep (Below w.heap.size w w5) := ⟨B4.out.trans (h3.to_below (B := w.heap.size) (fun k hk e => by have := LB.out; have := LG.out; rcases e with e | e | e; omega; omega; have := NV.out k (.inr (.inl e)); omega) B4.out.size)⟩
 have HH5 : Keep (Blk w5 ph 77 #[ptr ps]) := ⟨h3.blk HH4.out fun e => by rcases e with e | e | e; subst e; have := HH4.out.typ.one HJ4.out.typ; revert this; decide; subst e; have := HH4.out.typ.one HD4.out.blk.typ; revert this; decide; have := HH4.out.typ.one (HD4.out.own.typ e); revert this; decide⟩
 clear h1 h2 h3 h4 hjs HD4 HK4 HH4 HT4
 obtain ⟨va, vc, hvp⟩ := HP4.out.sl
 have hvp : vp = .slice va 1 vc := hvp
 subst hvp
 have c4 := HJ5.out.c 4 (by rfl : (jA pd (.slice va 1 vc) ((0 : Nat) : Int) (16 + (([97, 98] : List Int).length : Int)) false false)[4]? = some (.bool false))
 have c5 := HJ5.out.c 5 (by rfl : (jA pd (.slice va 1 vc) ((0 : Nat) : Int) (16 + (([97, 98] : List Int).length : Int)) false false)[5]? = some (.bool false))
 have c1 := HJ5.out.c 1 (by rfl : (jA pd (.slice va 1 vc) ((0 : Nat) : Int) (16 + (([97, 98] : List Int).length : Int)) false false)[1]? = some (.slice va 1 vc))
 have C4 := Keep.mk c4
 have C5 := Keep.mk c5
 have C1 := Keep.mk c1
 clear c4 c5 c1
 simp only [Act.put, pqA, pqB, pqC]
 refine VlS (.bool false) ?_
 refine VlS (.bool false) ?_
 refine VlS (.bool false) ?_
 refine VlS (.pointer (some ⟨g, 0, none⟩)) ?_
 refine WL.callF (by kernel_rfl) 25 _ _ rfl Tryd.in25 #[ptr g] (by simp [Act.eval]) ?_
 refine (jsync_idle g w5 C5.out C4.out).mono ?_
 rintro e wy ⟨rfl, hy⟩
 refine ⟨_, rfl, ?_⟩
 subst hy
 simp only [Act.put, pqA, pqB, pqC]
 refine VlS (.bool false) ?_
 refine VlS (.bool false) ?_
 refine VlS (.bool false) ?_
 refine VlS (.pointer (some ⟨g, 0, none⟩)) ?_
 refine WL.callF (by kernel_rfl) 26 _ _ rfl Tryd.in26 #[ptr g] (by simp [Act.eval]) ?_
 refine (len_any g va 1 vc wy C1.out).mono ?_
 rintro e wx ⟨rfl, hx⟩
 refine ⟨_, rfl, ?_⟩
 subst hx
 simp only [Act.put, pqA, pqB, pqC]
 refine VlS (.bool false) ?_
 refine VlS (.bool false) ?_
 refine VlS (.bool false) ?_
 refine VlS (.pointer (some ⟨ph, 0, none⟩)) ?_
 refine WL.callF (by kernel_rfl) 27 _ _ rfl Tryd.in27 #[ptr ph] (by simp [Act.eval]) ?_
 refine (acts_any ph ps 2 wx (HH5.out.c 0 rfl) (HD5.out.blk.c 5 (by show some (Value.int .i64 (D1.acts + 1)) = _; rw [HFs.out.2.2.2]; rfl))).mono ?_
 rintro e wu ⟨rfl, hu⟩
 refine ⟨_, rfl, ?_⟩
 subst hu
 simp only [Act.put, pqA, pqB, pqC]
 refine VlS (.bool false) ?_
 refine VlS (.bool false) ?_
 refine WL.nil (hK5 _ _ ?_)
 refine wp_cond_false rfl ?_
 refine wp_skip ?_
 refine hK4 _ _ ?_
 refine wp_seq_k fun K6 hK6 => rgn ?_
 refine VlS (.pointer (some ⟨ph, 0, none⟩)) ?_
 have hfs : (D1.act.sync 0).fs = [⟨nmS 0, (hl 16 (hdF [97, 98]) ++ [97, 98]), ((hl 16 (hdF [97, 98]) ++ [97, 98]).length : Int)⟩] := by show D1.fs.modify 0 PF.sync = _; rw [HFs.out.1]; rfl
 have hfi := files_any ph ps vf cs2 (D1.act.sync 0) wu HH5.out HD5.out (by have h := HD5.out.fcs.len; rw [hfs] at h; simp at h; omega) (by rw [hfs]; intro f hf; simp at hf; subst hf; simp [hl_len])
 refine WL.callF (by kernel_rfl) 28 _ _ rfl Tryd.in28 #[ptr ph] (by simp [Act.eval]) ?_
 refine (hfi).mono ?_
 rintro e w7 ⟨v7, ct, rfl, h1, h2, h3, h4, h5⟩
 refine ⟨_, rfl, ?_⟩
 have B7 : Keep (Below w.heap.size w w7) := ⟨B5.out.trans (h5.mono B5.out.size)⟩
 rw [hfs] at h2
 have hcl : ct.length = 1 := h2.len
 obtain ⟨x, hx⟩ : ∃ x, ct = [x] := by rcases ct with _ | ⟨x, _ | ⟨y, r⟩⟩ <;> simp at hcl; exact ⟨x, rfl⟩
 subst hx
 have hxf := h2.each 0 x _ rfl rfl
 obtain ⟨va7, vc7, e7⟩ := h1.sl
 have e7 : v7 = .slice va7 1 vc7 := e7
 subst e7
 obtain ⟨gv, ea, hrg⟩ := h1.at (t := 0) (c := x) rfl
 subst ea
 obtain ⟨xn, xb, xs⟩ := x
 obtain ⟨hx1, hx2, hx3⟩ := hxf
 change xn = nmS 0 at hx1
 change xs = _ at hx2
 rw [nmS_0] at hx1
 have hx2 : xs = 18 := by rw [hx2]; simp [hl_len]
 subst hx1 hx2
 have hrw := hx3.row
 rw [ab_frame] at hrw
 obtain ⟨xa, xc, exb⟩ := row_form hrw
 have exb : xb = .slice xa 18 xc := exb
 subst exb
 have q0 : w7.cell? ⟨gv, 0, none⟩ = some (.string ⟨#[106, 48, 48, 48, 48]⟩) := hrg 0 _ rfl
 have q1 : w7.cell? ⟨gv, 1, none⟩ = some (.slice xa 18 xc) := hrg 1 _ rfl
 have q2 : w7.cell? ⟨gv, 2, none⟩ = some (.int .i64 18) := hrg 2 _ rfl
 have hcv := conv_row _ _ w7 hrw
 rw [ab_str] at hcv
 clear h1 h2 h3 h4 h5 hfi hfs hrg hx3 hrw hcl
 simp only [Act.put, pqA, pqB, pqC]
 refine VlS (.slice (some ⟨gv, 0, none⟩) 1 vc7) ?_
 refine WL.nil (hK6 _ _ ?_)
 refine wp_seq_k fun K7 hK7 => rgn ?_
 refine VlS (.slice (some ⟨gv, 0, none⟩) 1 vc7) ?_
 refine VlS (.int .i64 1) ?_
 refine VlS (.bool true) ?_
 refine VlS (.bool true) ?_
 refine VlS (.slice (some ⟨gv, 0, none⟩) 1 vc7) ?_
 refine VlS (.pointer (some ⟨gv, 0, none⟩)) ?_
 refine VlS (.pointer (some ⟨gv, 0, none⟩)) ?_
 refine VlS (.string ⟨#[106, 48, 48, 48, 48]⟩) ?_
 refine VlS (.bool true) ?_
 refine VlS (.bool true) ?_
 refine VlS (.bool true) ?_
 refine VlS (.slice (some ⟨gv, 0, none⟩) 1 vc7) ?_
 refine VlS (.pointer (some ⟨gv, 0, none⟩)) ?_
 refine VlS (.pointer (some ⟨gv, 2, none⟩)) ?_
 refine VlS (.int .i64 18) ?_
 refine VlS (.bool true) ?_
 refine VlS (.bool true) ?_
 refine VlS (.bool true) ?_
 refine VlS (.slice (some ⟨gv, 0, none⟩) 1 vc7) ?_
 refine VlS (.pointer (some ⟨gv, 0, none⟩)) ?_
 refine VlS (.pointer (some ⟨gv, 1, none⟩)) ?_
 refine VlS (.slice xa 18 xc) ?_
 refine VlS (.string ⟨#[2, 0, 0, 0, 253, 255, 255, 255, 251, 142, 32, 252, 46, 76, 63, 36, 97, 98]⟩) ?_
 refine VlS (.bool true) ?_
 refine VlS (.bool true) ?_
 refine VlS (.bool true) ?_
 refine WL.nil (hK7 _ _ ?_)
 refine wp_ret ?_
 go_ret
 exact ⟨rfl, B7.out⟩
theorem Tryd.in52 (w : World) (vs : Array Value) : (callFunc 52 vs).run Tryd.prog w = .ok (.enter 52 vs) w := by kernel_rfl
theorem Tryd.in18 (w : World) (vs : Array Value) : (callFunc 18 vs).run Tryd.prog w = .ok (.enter 18 vs) w := by kernel_rfl
theorem Tryd.in19 (w : World) (vs : Array Value) : (callFunc 19 vs).run Tryd.prog w = .ok (.enter 19 vs) w := by kernel_rfl
theorem Tryd.in32 (w : World) (vs : Array Value) : (callFunc 32 vs).run Tryd.prog w = .ok (.enter 32 vs) w := by kernel_rfl
theorem Tryd.in30 (w : World) (vs : Array Value) : (callFunc 30 vs).run Tryd.prog w = .ok (.enter 30 vs) w := by kernel_rfl
theorem Tryd.in53 (w : World) (vs : Array Value) : (callFunc 53 vs).run Tryd.prog w = .ok (.enter 53 vs) w := by kernel_rfl
set_option maxRecDepth 8000 in
theorem syn_absent (d p i : Nat) (n : ByteArray) (vf : Value) (cs : List FC) (D : DV) (w : World) (hDk : Blk w d 75 #[ptr p]) (hD : DskAt w p vf cs D) (hO : D.out = false) (hF : fnd n D.fs 0 = (i, false)) (hL : cs.length ≤ 256) : Calls Tryd.prog 43 #[ptr d, .string n] w fun e w' => e = .returned (.int .i64 6) ∧ Below w.heap.size w w' := by
 obtain ⟨va, vc, rfl⟩ := hD.own.sl
 have HDk := Keep.mk hDk
 have HD := Keep.mk hD
 have HO := Keep.mk hO
 have HF := Keep.mk hF
 have HL := Keep.mk hL
 clear hDk hD hO hF hL
 go_enter Tryd.func43, Tryd.ntmps43
 have cd := HDk.out.c 0 (by rfl : (#[ptr p] : Array Value)[0]? = some (ptr p))
 have c4 : w.cell? ⟨p, 4, none⟩ = some (.bool false) := by have h := HD.out.blk.c 4 (by rfl : (stA (.slice va cs.length vc) D)[4]? = some (.bool D.out)); rw [HO.out] at h; exact h
 refine wp_seq_k fun K1 hK1 => rgn ?_
 refine VlS (.int .i64 0) ?_
 refine WL.nil (hK1 _ _ ?_)
 refine wp_seq_k fun K2 hK2 => rgn ?_
 refine VlS (.pointer (some ⟨d, 0, none⟩)) ?_
 refine VlS (.pointer (some ⟨d, 0, none⟩)) ?_
 refine VlS (.pointer (some ⟨d, 0, none⟩)) ?_
 refine VlS (.pointer (some ⟨p, 0, none⟩)) ?_
 refine VlS (.pointer (some ⟨p, 0, none⟩)) ?_
 refine WL.nil (hK2 _ _ ?_)
 refine wp_seq_k fun K3 hK3 => ?_
 refine wp_seq_k fun K4 hK4 => rgn ?_
 refine VlS (.pointer (some ⟨p, 0, none⟩)) ?_
 refine VlS (.pointer (some ⟨p, 0, none⟩)) ?_
 refine VlS (.pointer (some ⟨p, 4, none⟩)) ?_
 refine VlS (.bool false) ?_
 refine WL.nil (hK4 _ _ ?_)
 refine wp_cond_false rfl ?_
 refine wp_skip ?_
 refine hK3 _ _ ?_
 refine wp_seq_k fun K5 hK5 => rgn ?_
 refine VlS (.pointer (some ⟨p, 0, none⟩)) ?_
 refine VlS (.string n) ?_
 clear cd c4
 have hfd := find_any p n _ cs D w HD.out (by have := HL.out; omega)
 rw [HF.out] at hfd
 refine WL.callF (by kernel_rfl) 33 _ _ rfl Tryd.in33 #[ptr p, .string n] (by simp [Act.eval]) ?_
 refine (hfd).mono ?_
 rintro e w1 ⟨rfl, hb1⟩
 refine ⟨_, rfl, ?_⟩
 have B1 := Keep.mk hb1
 clear hb1 hfd
 simp only [Act.put, pqA, pqB, pqC]
 refine VlS (.tuple #[.int .i64 (i : Int), .bool false]) ?_
 refine VlS (.int .i64 (i : Int)) ?_
 refine VlS (.bool false) ?_
 refine VlS (.int .i64 (i : Int)) ?_
 refine VlS (.bool false) ?_
 refine WL.nil (hK5 _ _ ?_)
 refine wp_seq_k fun K6 hK6 => ?_
 refine wp_seq_k fun K7 hK7 => rgn ?_
 refine VlS (.bool false) ?_
 refine VlS (.bool true) ?_
 refine WL.nil (hK7 _ _ ?_)
 refine wp_cond_true rfl ?_
 refine wp_seq_k fun K8 hK8 => rgn ?_
 refine VlS (.int .i64 6) ?_
 refine WL.nil (hK8 _ _ ?_)
 refine wp_ret ?_
 go_ret
 exact ⟨rfl, B1.out⟩
theorem WL.sl2 {ops : Array Oper} {rest : List Oper} {o : Oper} {a : Act} {w : World} {Q : Exit → Act → World → Prop} (hw : Region.wanted o (yielded ops a.tmps) = true) (x lo hi : Operand) (ho : o.op = .slice 37 x (some lo) (some hi) none)
  (vx vl vh vs : Value) (hx : a.eval x = vx) (hl : a.eval lo = vl) (hh : a.eval hi = vh) (hr : (Instr.sliceAt 37 vx (some vl) (some vh) none).run Tryd.prog w = .ok vs w) (h : WL Tryd.prog ops Q rest (a.put o.dst vs) w) : WL Tryd.prog ops Q (o :: rest) a w :=
 WL.val hw vs (by unfold execOp; simp only [ho, hx, hl, hh, Option.map_some, Option.map_none, Sem.run_bind, hr, Result.andThen_ok, Sem.run_pure]) h
set_option maxRecDepth 8000 in
theorem size_is (d p i : Nat) (n : ByteArray) (vf : Value) (cs : List FC) (D : DV) (f : PF) (w : World) (hDk : Blk w d 75 #[ptr p]) (hD : DskAt w p vf cs D) (hO : D.out = false) (hF : fnd n D.fs 0 = (i, true)) (hFi : D.fs[i]? = some f) (hL : cs.length ≤ 256) : Calls Tryd.prog 52 #[ptr d, .string n] w fun e w' => e = .returned (.tuple #[.int .i64 (f.bs.length : Int), .int .i64 0]) ∧ Below w.heap.size w w' := by
 obtain ⟨va, vc, rfl⟩ := hD.own.sl
 have HDk := Keep.mk hDk
 have HD := Keep.mk hD
 have HO := Keep.mk hO
 have HF := Keep.mk hF
 have HFi := Keep.mk hFi
 have HL := Keep.mk hL
 clear hDk hD hO hF hFi hL
 go_enter Tryd.func52, Tryd.ntmps52
 have cd := HDk.out.c 0 (by rfl : (#[ptr p] : Array Value)[0]? = some (ptr p))
 have c4 : w.cell? ⟨p, 4, none⟩ = some (.bool false) := by have h := HD.out.blk.c 4 (by rfl : (stA (.slice va cs.length vc) D)[4]? = some (.bool D.out)); rw [HO.out] at h; exact h
 refine wp_seq_k fun K1 hK1 => rgn ?_
 refine VlS (.int .i64 0) ?_
 refine VlS (.int .i64 0) ?_
 refine WL.nil (hK1 _ _ ?_)
 refine wp_seq_k fun K2 hK2 => rgn ?_
 refine VlS (.pointer (some ⟨d, 0, none⟩)) ?_
 refine VlS (.pointer (some ⟨d, 0, none⟩)) ?_
 refine VlS (.pointer (some ⟨d, 0, none⟩)) ?_
 refine VlS (.pointer (some ⟨p, 0, none⟩)) ?_
 refine VlS (.pointer (some ⟨p, 0, none⟩)) ?_
 refine WL.nil (hK2 _ _ ?_)
 refine wp_seq_k fun K3 hK3 => ?_
 refine wp_seq_k fun K4 hK4 => rgn ?_
 refine VlS (.pointer (some ⟨p, 0, none⟩)) ?_
 refine VlS (.pointer (some ⟨p, 0, none⟩)) ?_
 refine VlS (.pointer (some ⟨p, 4, none⟩)) ?_
 refine VlS (.bool false) ?_
 refine WL.nil (hK4 _ _ ?_)
 refine wp_cond_false rfl ?_
 refine wp_skip ?_
 refine hK3 _ _ ?_
 refine wp_seq_k fun K5 hK5 => rgn ?_
 refine VlS (.pointer (some ⟨p, 0, none⟩)) ?_
 refine VlS (.string n) ?_
 clear cd c4
 have hfd := find_any p n _ cs D w HD.out (by have := HL.out; omega)
 rw [HF.out] at hfd
 refine WL.callF (by kernel_rfl) 33 _ _ rfl Tryd.in33 #[ptr p, .string n] (by simp [Act.eval]) ?_
 refine (hfd).mono ?_
 rintro e w1 ⟨rfl, hb1⟩
 refine ⟨_, rfl, ?_⟩
 have B1 := Keep.mk hb1
 have HD1 := Keep.mk (HD.out.below hb1)
 clear hb1 hfd
 obtain ⟨f_, hf_⟩ : ∃ f, D.fs[i]? = some f := ⟨f, HFi.out⟩
 obtain rfl : f = f_ := Option.some.inj (HFi.out.symm.trans hf_)
 have hci : i < cs.length := by have h := HD1.out.fcs.len; have h2 := (List.getElem?_eq_some_iff.1 hf_).1; omega
 obtain ⟨x, hx⟩ : ∃ x, cs[i]? = some x := ⟨cs[i], List.getElem?_eq_getElem hci⟩
 obtain ⟨g, ha, hrg⟩ := HD1.out.own.at hx
 subst ha
 have hec := HD1.out.fcs.each i x f hx hf_
 obtain ⟨xn, xb, xs⟩ := x
 obtain ⟨xa, xc, hxb⟩ := row_form hec.2.2.row
 change xb = _ at hxb
 subst hxb
 have HXr : Keep (RowAt w1 (.slice xa f.bs.length xc) f.bs) := ⟨hec.2.2.row⟩
 have c1 : w1.cell? ⟨g, i * 3 + 1, none⟩ = some (.slice xa f.bs.length xc) := hrg 1 _ rfl
 have hilc : (i : Int) < (cs.length : Int) := by omega
 have p0 := HD1.out.blk.c 0 (by rfl : (stA (.slice (some ⟨g, 0, none⟩) cs.length vc) D)[0]? = some (.slice (some ⟨g, 0, none⟩) cs.length vc))
 clear hrg hec hx hf_ hci
 simp only [Act.put, pqA, pqB, pqC]
 refine VlS (.tuple #[.int .i64 (i : Int), .bool true]) ?_
 refine VlS (.int .i64 (i : Int)) ?_
 refine VlS (.bool true) ?_
 refine VlS (.int .i64 (i : Int)) ?_
 refine VlS (.bool true) ?_
 refine WL.nil (hK5 _ _ ?_)
 refine wp_seq_k fun K6 hK6 => ?_
 refine wp_seq_k fun K7 hK7 => rgn ?_
 refine VlS (.bool true) ?_
 refine VlS (.bool false) ?_
 refine WL.nil (hK7 _ _ ?_)
 refine wp_cond_false rfl ?_
 refine wp_skip ?_
 refine hK6 _ _ ?_
 refine wp_seq_k fun K8 hK8 => rgn ?_
 refine VlS (.pointer (some ⟨p, 0, none⟩)) ?_
 refine VlS (.pointer (some ⟨p, 0, none⟩)) ?_
 refine VlS (.pointer (some ⟨p, 0, none⟩)) ?_
 refine VlS (.slice (some ⟨g, 0, none⟩) cs.length vc) ?_
 refine VlS (.int .i64 (i : Int)) ?_
 refine VlS (.pointer (some ⟨g, i * 3, none⟩)) ?_
 refine VlS (.pointer (some ⟨g, i * 3 + 1, none⟩)) ?_
 refine VlS (.slice xa f.bs.length xc) ?_
 refine VlS (.int .i64 (f.bs.length : Int)) ?_
 refine VlS (.int .i64 (f.bs.length : Int)) ?_
 refine VlS (.int .i64 0) ?_
 refine WL.nil (hK8 _ _ ?_)
 refine wp_ret ?_
 go_ret2
 exact ⟨rfl, B1.out⟩
set_option maxRecDepth 8000 in
theorem read_is (d p i : Nat) (n : ByteArray) (vf : Value) (cs : List FC) (D : DV) (f : PF) (w : World) (hDk : Blk w d 75 #[ptr p]) (hD : DskAt w p vf cs D) (hO : D.out = false) (hF : fnd n D.fs 0 = (i, true)) (hFi : D.fs[i]? = some f) (hL : cs.length ≤ 256) (hB : f.bs.length ≤ 70368744177664) : Calls Tryd.prog 53 #[ptr d, .string n, .int .i64 0, .int .i64 (f.bs.length : Int)] w fun e w' => ∃ v, e = .returned (.tuple #[v, .int .i64 0]) ∧ Own w' v f.bs ∧ (∀ k, v.ownBlock = some k → w.heap.size ≤ k) ∧ Below w.heap.size w w' := by
 obtain ⟨va, vc, rfl⟩ := hD.own.sl
 have HDk := Keep.mk hDk
 have HD := Keep.mk hD
 have HO := Keep.mk hO
 have HF := Keep.mk hF
 have HFi := Keep.mk hFi
 have HL := Keep.mk hL
 have HB := Keep.mk hB
 clear hDk hD hO hF hFi hL hB
 go_enter Tryd.func53, Tryd.ntmps53
 have cd := HDk.out.c 0 (by rfl : (#[ptr p] : Array Value)[0]? = some (ptr p))
 have c4 : w.cell? ⟨p, 4, none⟩ = some (.bool false) := by have h := HD.out.blk.c 4 (by rfl : (stA (.slice va cs.length vc) D)[4]? = some (.bool D.out)); rw [HO.out] at h; exact h
 refine wp_seq_k fun K1 hK1 => rgn ?_
 refine VlS (.slice none 0 0) ?_
 refine VlS (.int .i64 0) ?_
 refine WL.nil (hK1 _ _ ?_)
 refine wp_seq_k fun K2 hK2 => rgn ?_
 refine VlS (.pointer (some ⟨d, 0, none⟩)) ?_
 refine VlS (.pointer (some ⟨d, 0, none⟩)) ?_
 refine VlS (.pointer (some ⟨d, 0, none⟩)) ?_
 refine VlS (.pointer (some ⟨p, 0, none⟩)) ?_
 refine VlS (.pointer (some ⟨p, 0, none⟩)) ?_
 refine WL.nil (hK2 _ _ ?_)
 refine wp_seq_k fun K3 hK3 => ?_
 refine wp_seq_k fun K4 hK4 => rgn ?_
 refine VlS (.pointer (some ⟨p, 0, none⟩)) ?_
 refine VlS (.pointer (some ⟨p, 0, none⟩)) ?_
 refine VlS (.pointer (some ⟨p, 4, none⟩)) ?_
 refine VlS (.bool false) ?_
 refine WL.nil (hK4 _ _ ?_)
 refine wp_cond_false rfl ?_
 refine wp_skip ?_
 refine hK3 _ _ ?_
 refine wp_seq_k fun K5 hK5 => rgn ?_
 refine VlS (.pointer (some ⟨p, 0, none⟩)) ?_
 refine VlS (.string n) ?_
 clear cd c4
 have hfd := find_any p n _ cs D w HD.out (by have := HL.out; omega)
 rw [HF.out] at hfd
 refine WL.callF (by kernel_rfl) 33 _ _ rfl Tryd.in33 #[ptr p, .string n] (by simp [Act.eval]) ?_
 refine (hfd).mono ?_
 rintro e w1 ⟨rfl, hb1⟩
 refine ⟨_, rfl, ?_⟩
 have B1 := Keep.mk hb1
 have HD1 := Keep.mk (HD.out.below hb1)
 clear hb1 hfd
 obtain ⟨f_, hf_⟩ : ∃ f, D.fs[i]? = some f := ⟨f, HFi.out⟩
 obtain rfl : f = f_ := Option.some.inj (HFi.out.symm.trans hf_)
 have hci : i < cs.length := by have h := HD1.out.fcs.len; have h2 := (List.getElem?_eq_some_iff.1 hf_).1; omega
 obtain ⟨x, hx⟩ : ∃ x, cs[i]? = some x := ⟨cs[i], List.getElem?_eq_getElem hci⟩
 obtain ⟨g, ha, hrg⟩ := HD1.out.own.at hx
 subst ha
 have hec := HD1.out.fcs.each i x f hx hf_
 obtain ⟨xn, xb, xs⟩ := x
 obtain ⟨xa, xc, hxb⟩ := row_form hec.2.2.row
 change xb = _ at hxb
 subst hxb
 have HXr : Keep (RowAt w1 (.slice xa f.bs.length xc) f.bs) := ⟨hec.2.2.row⟩
 have c1 : w1.cell? ⟨g, i * 3 + 1, none⟩ = some (.slice xa f.bs.length xc) := hrg 1 _ rfl
 have hilc : (i : Int) < (cs.length : Int) := by omega
 have p0 := HD1.out.blk.c 0 (by rfl : (stA (.slice (some ⟨g, 0, none⟩) cs.length vc) D)[0]? = some (.slice (some ⟨g, 0, none⟩) cs.length vc))
 clear hrg hec hx hf_ hci
 have hl0 : ¬ (f.bs.length : Int) < 0 := by omega
 have hl1 : ¬ (f.bs.length : Int) < (f.bs.length : Int) := by omega
 have hws : IntKind.i64.wrap (f.bs.length : Int) = (f.bs.length : Int) := by rw [IntKind.wrap_i64]; have := HB.out; omega
 simp only [Act.put, pqA, pqB, pqC]
 refine VlS (.tuple #[.int .i64 (i : Int), .bool true]) ?_
 refine VlS (.int .i64 (i : Int)) ?_
 refine VlS (.bool true) ?_
 refine VlS (.int .i64 (i : Int)) ?_
 refine VlS (.bool true) ?_
 refine WL.nil (hK5 _ _ ?_)
 refine wp_seq_k fun K6 hK6 => ?_
 refine wp_seq_k fun K7 hK7 => rgn ?_
 refine VlS (.bool true) ?_
 refine VlS (.bool false) ?_
 refine WL.nil (hK7 _ _ ?_)
 refine wp_cond_false rfl ?_
 refine wp_skip ?_
 refine hK6 _ _ ?_
 refine wp_seq_k fun K8 hK8 => rgn ?_
 refine VlS (.pointer (some ⟨p, 0, none⟩)) ?_
 refine VlS (.pointer (some ⟨p, 0, none⟩)) ?_
 refine VlS (.pointer (some ⟨p, 0, none⟩)) ?_
 refine VlS (.slice (some ⟨g, 0, none⟩) cs.length vc) ?_
 refine VlS (.int .i64 (i : Int)) ?_
 refine VlS (.pointer (some ⟨g, i * 3, none⟩)) ?_
 refine VlS (.pointer (some ⟨g, i * 3 + 1, none⟩)) ?_
 refine VlS (.slice xa f.bs.length xc) ?_
 refine VlS (.slice xa f.bs.length xc) ?_
 refine WL.nil (hK8 _ _ ?_)
 refine wp_seq_k fun K9 hK9 => ?_
 refine wp_seq_k fun K10 hK10 => rgn ?_
 refine VlS (.int .i64 0) ?_
 refine VlS (.bool false) ?_
 refine VlS (.bool false) ?_
 refine VlS (.int .i64 (f.bs.length : Int)) ?_
 refine VlS (.bool false) ?_
 refine VlS (.bool false) ?_
 refine VlS (.bool false) ?_
 refine VlS (.int .i64 0) ?_
 refine VlS (.slice xa f.bs.length xc) ?_
 refine VlS (.int .i64 (f.bs.length : Int)) ?_
 refine VlS (.bool false) ?_
 refine VlS (.bool false) ?_
 refine VlS (.bool false) ?_
 refine VlS (.int .i64 (f.bs.length : Int)) ?_
 refine VlS (.slice xa f.bs.length xc) ?_
 refine VlS (.int .i64 (f.bs.length : Int)) ?_
 refine VlS (.int .i64 0) ?_
 refine VlS (.int .i64 (f.bs.length : Int)) ?_
 refine VlS (.bool false) ?_
 refine VlS (.bool false) ?_
 refine WL.nil (hK10 _ _ ?_)
 refine wp_cond_false rfl ?_
 refine wp_skip ?_
 refine hK9 _ _ ?_
 refine wp_seq_k fun K11 hK11 => rgn ?_
 refine WL.bs (by kernel_rfl) 37 0 _ rfl #[] (by simp) _ _ (bsBE w1) ?_
 have hbx := below_new w1 (.cells #[] 5)
 have HE : Keep (Own (w1.alloc (.cells #[] 5)) (.slice (some ⟨w1.heap.size, 0, none⟩) 0 0) []) := ⟨own_empty _ _ (Blk.new w1 5 #[])⟩
 have HX2 := Keep.mk (HXr.out.below hbx)
 have B2 : Keep (Below w.heap.size w (w1.alloc (.cells #[] 5))) := ⟨B1.out.trans (hbx.mono B1.out.size)⟩
 have L2 : Keep (w.heap.size ≤ w1.heap.size) := ⟨B1.out.size⟩
 clear hbx c1 p0 HXr hl0 hl1
 generalize w1.alloc (.cells #[] 5) = w2 at *
 obtain ⟨ge, hge⟩ : ∃ q, Keep (q = w1.heap.size) := ⟨_, ⟨rfl⟩⟩
 rw [← hge.out] at HE L2 ⊢
 simp only [Act.put, pqA, pqB, pqC]
 refine VlS (.slice xa f.bs.length xc) ?_
 refine VlS (.int .i64 0) ?_
 refine VlS (.int .i64 0) ?_
 refine VlS (.int .i64 (f.bs.length : Int)) ?_
 refine VlS (.int .i64 (f.bs.length : Int)) ?_
 obtain ⟨vs, hs1, hs2⟩ := mid_any (.slice xa f.bs.length xc) f.bs w2 HX2.out 0 f.bs.length (by omega)
 have hs := hs1 w2
 rw [show (((0 : Nat) : Int) + (f.bs.length : Int)) = (f.bs.length : Int) by omega] at hs
 have HV : Keep (RowAt w2 vs f.bs) := ⟨by have h := hs2 w2 HX2.out; rw [List.drop_zero, List.take_length] at h; exact h⟩
 refine WL.sl2 (by kernel_rfl) (.tmp 59) (.tmp 60) (.tmp 63) rfl (.slice xa f.bs.length xc) (.int .i64 0) (.int .i64 (f.bs.length : Int)) vs rfl rfl rfl hs ?_
 clear hs hs1 hs2
 simp only [Act.put, pqA, pqB, pqC]
 refine WL.call (by kernel_rfl) fun K hK => ?_
 refine wp_app (.tmp 58) (.tmp 64) rfl (.slice (some ⟨ge, 0, none⟩) 0 0) vs [] f.bs rfl rfl HE.out HV.out (by have := HB.out; simp; omega) fun v6 w6 hp => ?_
 refine hK _ _ ?_
 have HA6 := Keep.mk hp
 clear hp
 simp only [Act.put, pqA, pqB, pqC]
 refine VlS (v6) ?_
 refine VlS (.int .i64 0) ?_
 refine WL.nil (hK11 _ _ ?_)
 refine wp_ret ?_
 go_ret2
 refine ⟨v6, rfl, by have h := HA6.out.1; rw [List.nil_append] at h; exact h, own_new HA6.out B2.out.size fun k hk => by have e : ge = k := Option.some.inj hk; have := L2.out; omega, B2.out.trans (HA6.out.grown.to_below (B := w.heap.size) (fun k hk e => by have e : ge = k := Option.some.inj e; have := L2.out; omega) B2.out.size)⟩
set_option maxRecDepth 8000 in
theorem out_any (h p : Nat) (b : Bool) (w : World) (c0 : w.cell? ⟨h, 0, none⟩ = some (ptr p)) (c4 : w.cell? ⟨p, 4, none⟩ = some (.bool b)) : Calls Tryd.prog 19 #[ptr h] w fun r w' => r = .returned (.bool b) ∧ w' = w := by
 go_enter Tryd.func19, Tryd.ntmps19
 refine wp_seq_k fun K1 hK1 => rgn ?_
 refine VlS (.bool false) ?_
 refine WL.nil (hK1 _ _ ?_)
 refine wp_seq_k fun K2 hK2 => rgn ?_
 refine VlS (.pointer (some ⟨h, 0, none⟩)) ?_
 refine VlS (.pointer (some ⟨h, 0, none⟩)) ?_
 refine VlS (.pointer (some ⟨h, 0, none⟩)) ?_
 refine VlS (.pointer (some ⟨p, 0, none⟩)) ?_
 refine VlS (.pointer (some ⟨p, 0, none⟩)) ?_
 refine VlS (.pointer (some ⟨p, 4, none⟩)) ?_
 refine VlS (.bool b) ?_
 refine VlS (.bool b) ?_
 refine WL.nil (hK2 _ _ ?_)
 refine wp_ret ?_
 go_ret
 exact ⟨rfl, rfl⟩
end Go.Proofs.YtennogmeeefopaaDoor
