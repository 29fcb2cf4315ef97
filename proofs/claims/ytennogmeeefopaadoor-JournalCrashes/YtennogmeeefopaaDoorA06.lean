import Derived.Test.YtennogmeeefopaaDoorA05
import Derived.Test.YtennogmeeefopaaDoorA03
import Derived.Deep.RegionHeld3
import Derived.Lib.SlBytesConst
import Derived.Lib.Small
namespace Go.Proofs.YtennogmeeefopaaDoor
open Go.RowKit
set_option linter.unusedSimpArgs false
set_option linter.unusedVariables false

theorem Tryd.in8 (w : World) (vs : Array Value) : (callFunc 8 vs).run Tryd.prog w = .ok (.enter 8 vs) w := by kernel_rfl
theorem bsAB (w : World) : (Instr.buildSlice 37 2 #[(0, .int .u8 97), (1, .int .u8 98)]).run Tryd.prog w = .ok (.slice (some ⟨w.heap.size, 0, none⟩) 2 2) (w.alloc (.cells (bv [97, 98]).toArray 5)) := by kernel_rfl
def abF : List Int := [2, 0, 0, 0, 253, 255, 255, 255, 251, 142, 32, 252, 46, 76, 63, 36, 97, 98]
theorem ab_frame : (hl 16 (hdF [97, 98]) ++ [97, 98]) = abF := by
 have h : ∀ i, i < 8 → shaP [97, 98] i = abH.getD i 0 := fun i hi => ab_sha i (by omega)
 have e : hl 16 (hdF [97, 98]) = [2, 0, 0, 0, 253, 255, 255, 255, shaP [97, 98] 0, shaP [97, 98] 1, shaP [97, 98] 2, shaP [97, 98] 3, shaP [97, 98] 4, shaP [97, 98] 5, shaP [97, 98] 6, shaP [97, 98] 7] := by
  unfold hdF
  generalize shaP [97, 98] = s
  rfl
 rw [e, h 0 (by omega), h 1 (by omega), h 2 (by omega), h 3 (by omega), h 4 (by omega), h 5 (by omega), h 6 (by omega), h 7 (by omega)]
 rfl
theorem ab_str : strOfNums abF = ⟨#[2, 0, 0, 0, 253, 255, 255, 255, 251, 142, 32, 252, 46, 76, 63, 36, 97, 98]⟩ := by decide +kernel
theorem fnd_one (l : List Int) (z : Int) : fnd (nmS 0) [⟨nmS 0, l, z⟩] 0 = (0, true) := by
 rw [nmS_0]
 unfold fnd
 rw [if_neg (show ¬ Op.bytesLess (⟨#[106, 48, 48, 48, 48]⟩ : ByteArray).toList (⟨#[106, 48, 48, 48, 48]⟩ : ByteArray).toList = true by decide +kernel)]
 exact congrArg (Prod.mk 0) (show ((⟨#[106, 48, 48, 48, 48]⟩ : ByteArray).toList == (⟨#[106, 48, 48, 48, 48]⟩ : ByteArray).toList) = true by decide +kernel)
theorem row_fr {w : World} {g : Nat} {l : List Int} {cs : Array Value} {fr : Nat × Nat} (h : w.heap[g]? = some (.cells cs 5 fr)) (he : cs = (bv l).toArray) (cap : Nat) (hc : l.length ≤ cap) : RowAt w (.slice (some ⟨g, 0, none⟩) l.length cap) l :=
 .inr (.inr ⟨g, 0, cap, rfl, hc, fun i hi => by rw [Nat.zero_add, cell_of_row w g i cs 5 fr h, he, List.getElem?_toArray, bv_get _ _ hi]⟩)
set_option maxRecDepth 8000 in
set_option maxHeartbeats 2000000 in
theorem awake_any (w : World) (hT : Tab w) (hZ : 0 < w.heap.size) : Calls Tryd.prog 8 #[] w fun e w' => e = .returned (.bool true) ∧ Below w.heap.size w w' := by
 have HT := Keep.mk hT
 have HZ := Keep.mk hZ
 clear hT hZ
 go_enter Tryd.func8, Tryd.ntmps8
 refine wp_seq_k fun K1 hK1 => rgn ?_
 refine VlS (.bool false) ?_
 refine WL.nil (hK1 _ _ ?_)
 refine wp_seq_k fun K2 hK2 => rgn ?_
 refine WL.callF (by kernel_rfl) 9 _ _ rfl Tryd.in9 #[.int .i64 1000] (by simp [Act.eval]) ?_
 refine (dnew_any 1000 w).mono ?_
 rintro e w1 ⟨ps, pd, ph, rfl, h1, h2, h3, h4, h5, h6, h7⟩
 refine ⟨_, rfl, ?_⟩
 have HD1 : Keep (DskAt w1 ps (.slice none 0 0) [] ⟨[], 1000, 0, -1, false, 0⟩) := ⟨h1⟩
 have HK1 := Keep.mk h2
 have HH1 := Keep.mk h3
 have LB : Keep (w.heap.size ≤ ps ∧ w.heap.size ≤ pd ∧ w.heap.size ≤ ph) := ⟨h4, h5, h6⟩
 have B1 := Keep.mk h7
 have HT1 : Keep (Tab w1) := ⟨HT.out.below h7 HZ.out⟩
 clear h1 h2 h3 h4 h5 h6 h7
 simp only [Act.put, pqA, pqB, pqC]
 refine VlS (.tuple #[.pointer (some ⟨pd, 0, none⟩), .pointer (some ⟨ph, 0, none⟩)]) ?_
 refine VlS (.pointer (some ⟨pd, 0, none⟩)) ?_
 refine VlS (.pointer (some ⟨ph, 0, none⟩)) ?_
 refine VlS (.pointer (some ⟨pd, 0, none⟩)) ?_
 refine VlS (.pointer (some ⟨ph, 0, none⟩)) ?_
 refine WL.nil (hK2 _ _ ?_)
 refine wp_seq_k fun K3 hK3 => rgn ?_
 refine VlS (.pointer (some ⟨pd, 0, none⟩)) ?_
 refine WL.callF (by kernel_rfl) 7 _ _ rfl Tryd.in7 #[ptr pd] (by simp [Act.eval]) ?_
 refine (open_none pd ps w1 HT1.out (HK1.out.c 0 rfl) (HD1.out.blk.c 4 rfl) (HD1.out.blk.c 0 rfl)).mono ?_
 rintro e w2 ⟨g, pg, rfl, h1, h2, h3⟩
 refine ⟨_, rfl, ?_⟩
 have HJ2 := Keep.mk h1
 have LG : Keep (w.heap.size ≤ g) := ⟨Nat.le_trans B1.out.size h2⟩
 have HD2 := Keep.mk (HD1.out.below h3)
 have HK2 := Keep.mk (HK1.out.below h3 HK1.out.lt)
 have HH2 := Keep.mk (HH1.out.below h3 HH1.out.lt)
 have B2 : Keep (Below w.heap.size w w2) := ⟨B1.out.trans (h3.mono B1.out.size)⟩
 clear h1 h2 h3 HD1 HK1 HH1 HT1
 simp only [Act.put, pqA, pqB, pqC]
 refine VlS (.tuple #[.pointer (some ⟨g, 0, none⟩), .slice (some ⟨pg, 0, none⟩) 0 0, .int .i64 0]) ?_
 refine VlS (.pointer (some ⟨g, 0, none⟩)) ?_
 refine VlS (.slice (some ⟨pg, 0, none⟩) 0 0) ?_
 refine VlS (.int .i64 0) ?_
 refine VlS (.pointer (some ⟨g, 0, none⟩)) ?_
 refine VlS (.slice (some ⟨pg, 0, none⟩) 0 0) ?_
 refine VlS (.int .i64 0) ?_
 refine WL.nil (hK3 _ _ ?_)
 refine wp_seq_k fun K4 hK4 => ?_
 refine wp_seq_k fun K5 hK5 => rgn ?_
 refine VlS (.int .i64 0) ?_
 refine VlS (.bool false) ?_
 refine VlS (.bool false) ?_
 refine VlS (.pointer (some ⟨g, 0, none⟩)) ?_
 refine VlS (.bool false) ?_
 refine VlS (.bool false) ?_
 refine VlS (.bool false) ?_
 refine VlS (.slice (some ⟨pg, 0, none⟩) 0 0) ?_
 refine VlS (.int .i64 0) ?_
 refine VlS (.bool false) ?_
 refine VlS (.bool false) ?_
 refine VlS (.bool false) ?_
 refine VlS (.pointer (some ⟨g, 0, none⟩)) ?_
 refine WL.bs (by kernel_rfl) 37 2 _ rfl #[(0, .int .u8 97), (1, .int .u8 98)] (by simp [Act.eval]) _ _ (bsAB w2) ?_
 simp only [Act.put, pqA, pqB, pqC]
 have hcc := Lib.run_convert_bytes_const (P := Tryd.prog) w2 37 5 (bv [97, 98]).toArray 2 2 Tryd.underlying37 Tryd.underlying5
 obtain ⟨w3, hw3⟩ : ∃ wx, Keep (wx = w2.alloc (.cells (bv [97, 98]).toArray 5 (((bv [97, 98]).toArray).size, ((bv [97, 98]).toArray).size + 1))) := ⟨_, ⟨rfl⟩⟩
 rw [← hw3.out] at hcc
 refine WL.valW (by kernel_rfl) (.slice (some ⟨w2.heap.size, 0, none⟩) 2 2) w3 (by go_simp) ?_
 clear hcc
 have hbx : Below w2.heap.size w2 w3 := by rw [hw3.out]; exact below_new w2 _
 have HR3 : Keep (RowAt w3 (.slice (some ⟨w2.heap.size, 0, none⟩) 2 2) [97, 98]) := ⟨by rw [hw3.out]; exact row_fr (l := [97, 98]) (heap_alloc_new w2 _) rfl 2 (by decide)⟩
 have HJ3 := Keep.mk (HJ2.out.below hbx HJ2.out.lt)
 have HD3 := Keep.mk (HD2.out.below hbx)
 have HK3 := Keep.mk (HK2.out.below hbx HK2.out.lt)
 have HH3 := Keep.mk (HH2.out.below hbx HH2.out.lt)
 have B3 : Keep (Below w.heap.size w w3) := ⟨B2.out.trans (hbx.mono B2.out.size)⟩
 have HT3 : Keep (Tab w3) := ⟨HT.out.below B3.out HZ.out⟩
 clear hbx HJ2 HD2 HK2 HH2 hw3
 obtain ⟨gb, hgb⟩ : ∃ q, Keep (q = w2.heap.size) := ⟨_, ⟨rfl⟩⟩
 rw [← hgb.out] at HR3 ⊢
 simp only [Act.put, pqA, pqB, pqC]
 have hja := japp_none g pd ps 0 (.slice (some ⟨gb, 0, none⟩) 2 2) (.slice none 0 0) (.slice none 0 0) [97, 98] [] ⟨[], 1000, 0, -1, false, 0⟩ [] 0 false w3 HT3.out HJ3.out HK3.out HD3.out (ownP_nil _) (fun k hk => by cases hk) (by decide) rfl rfl (by decide) (by decide) (by decide) (by decide) (by decide) HR3.out
 refine WL.callF (by kernel_rfl) 24 _ _ rfl Tryd.in24 #[ptr g, .slice (some ⟨gb, 0, none⟩) 2 2] (by simp [Act.eval]) ?_
 refine (hja).mono ?_
 rintro e w4 ⟨rfl, vp, vf, cs, h1, h2, h3, h4, h5, h6⟩
 refine ⟨_, rfl, ?_⟩
 have HJ4 := Keep.mk h1
 have HP4 := Keep.mk h2
 obtain ⟨D1, hD1⟩ : ∃ D, Keep (D = DV.appNew ⟨[], 1000, 0, -1, false, 0⟩ 0 (nmS 0) (hl 16 (hdF [97, 98]) ++ [97, 98])) := ⟨_, ⟨rfl⟩⟩
 have HD4 : Keep (DskAt w4 ps vf cs D1) := ⟨by rw [hD1.out]; exact h3⟩
 have B4 : Keep (Below w.heap.size w w4) := ⟨B3.out.trans (h4.to_below (B := w.heap.size) (fun k hk e => by have := LB.out; have := LG.out; rcases e with e | e | e; omega; omega; cases e) B3.out.size)⟩
 have NV : Keep (∀ k, DskS ps vf cs k → w.heap.size ≤ k) := ⟨fun k hk => by rcases h5 k hk with h | h; rcases h with h | h | ⟨i, x, h, _⟩; have := LB.out; omega; cases h; cases h; have := B3.out.size; omega⟩
 have HK4 : Keep (Blk w4 pd 75 #[ptr ps]) := ⟨h4.blk HK3.out fun e => by rcases e with e | e | e; subst e; have := HK3.out.typ.one HD3.out.blk.typ; revert this; decide; subst e; have := HK3.out.typ.one HJ3.out.typ; revert this; decide; cases e⟩
 have HH4 : Keep (Blk w4 ph 77 #[ptr ps]) := ⟨h4.blk HH3.out fun e => by rcases e with e | e | e; subst e; have := HH3.out.typ.one HD3.out.blk.typ; revert this; decide; subst e; have := HH3.out.typ.one HJ3.out.typ; revert this; decide; cases e⟩
 have HT4 : Keep (Tab w4) := ⟨HT.out.below B4.out HZ.out⟩
 have HCl : Keep (cs.length = 1) := ⟨by have h := h3.fcs.len; exact h⟩
 have HFs : Keep (D1.fs = [⟨nmS 0, (hl 16 (hdF [97, 98]) ++ [97, 98]), 0⟩] ∧ D1.out = false ∧ D1.fuse = -1 ∧ D1.acts = 1) := ⟨by rw [hD1.out]; exact ⟨rfl, rfl, rfl, rfl⟩⟩
 clear h1 h2 h3 h4 h5 h6 hja HJ3 HD3 HK3 HH3 HT3 HR3
 simp only [Act.put, pqA, pqB, pqC]
 refine VlS (.bool false) ?_
 refine VlS (.bool false) ?_
 refine VlS (.bool false) ?_
 refine VlS (.pointer (some ⟨g, 0, none⟩)) ?_
 have hjs := jsync_ok g pd ps 0 0 (by omega) vf vp cs D1 (16 + (([97, 98] : List Int).length : Int)) w4 HT4.out HJ4.out HK4.out HD4.out HFs.out.2.1 (by rw [HFs.out.1]; exact fnd_one _ _) (by rw [HCl.out]; decide) (by rw [HFs.out.2.2.2]; decide) (by rw [HFs.out.2.2.1]; decide)
 refine WL.callF (by kernel_rfl) 25 _ _ rfl Tryd.in25 #[ptr g] (by simp [Act.eval]) ?_
 refine (hjs).mono ?_
 rintro e w5 ⟨rfl, cs2, h1, h2, h3, h4⟩
 refine ⟨_, rfl, ?_⟩
 have HJ5 := Keep.mk h1
 have HD5 := Keep.mk h2
 have B5 : Keep (Below w.heap.size w w5) := ⟨B4.out.trans (h3.to_below (B := w.heap.size) (fun k hk e => by have := LB.out; have := LG.out; rcases e with e | e | e; omega; omega; have := NV.out k (.inr (.inl e)); omega) B4.out.size)⟩
 have HH5 : Keep (Blk w5 ph 77 #[ptr ps]) := ⟨h3.blk HH4.out fun e => by rcases e with e | e | e; subst e; have := HH4.out.typ.one HJ4.out.typ; revert this; decide; subst e; have := HH4.out.typ.one HD4.out.blk.typ; revert this; decide; have := HH4.out.typ.one (HD4.out.own.typ e); revert this; decide⟩
 clear h1 h2 h3 h4 hjs HD4 HK4 HH4 HT4
 obtain ⟨va, vc, hvp⟩ := HP4.out.sl
 have hvp : vp = .slice va 1 vc := hvp
 subst hvp
 have c4 := HJ5.out.c 4 (by rfl : (jA pd (.slice va 1 vc) ((0 : Nat) : Int) (16 + (([97, 98] : List Int).length : Int)) false false)[4]? = some (.bool false))
 have c5 := HJ5.out.c 5 (by rfl : (jA pd (.slice va 1 vc) ((0 : Nat) : Int) (16 + (([97, 98] : List Int).length : Int)) false false)[5]? = some (.bool false))
 have c1 := HJ5.out.c 1 (by rfl : (jA pd (.slice va 1 vc) ((0 : Nat) : Int) (16 + (([97, 98] : List Int).length : Int)) false false)[1]? = some (.slice va 1 vc))
 have C4 := Keep.mk c4
 have C5 := Keep.mk c5
 have C1 := Keep.mk c1
 clear c4 c5 c1
 simp only [Act.put, pqA, pqB, pqC]
 refine VlS (.bool false) ?_
 refine VlS (.bool false) ?_
 refine VlS (.bool false) ?_
 refine VlS (.pointer (some ⟨g, 0, none⟩)) ?_
 refine WL.callF (by kernel_rfl) 25 _ _ rfl Tryd.in25 #[ptr g] (by simp [Act.eval]) ?_
 refine (jsync_idle g w5 C5.out C4.out).mono ?_
 rintro e wy ⟨rfl, hy⟩
 refine ⟨_, rfl, ?_⟩
 subst hy
 simp only [Act.put, pqA, pqB, pqC]
 refine VlS (.bool false) ?_
 refine VlS (.bool false) ?_
 refine VlS (.bool false) ?_
 refine VlS (.pointer (some ⟨g, 0, none⟩)) ?_
 refine WL.callF (by kernel_rfl) 26 _ _ rfl Tryd.in26 #[ptr g] (by simp [Act.eval]) ?_
 refine (len_any g va 1 vc wy C1.out).mono ?_
 rintro e wx ⟨rfl, hx⟩
 refine ⟨_, rfl, ?_⟩
 subst hx
 simp only [Act.put, pqA, pqB, pqC]
 refine VlS (.bool false) ?_
 refine VlS (.bool false) ?_
 refine VlS (.bool false) ?_
 refine VlS (.pointer (some ⟨ph, 0, none⟩)) ?_
 refine WL.callF (by kernel_rfl) 27 _ _ rfl Tryd.in27 #[ptr ph] (by simp [Act.eval]) ?_
 refine (acts_any ph ps 2 wx (HH5.out.c 0 rfl) (HD5.out.blk.c 5 (by show some (Value.int .i64 (D1.acts + 1)) = _; rw [HFs.out.2.2.2]; rfl))).mono ?_
 rintro e wu ⟨rfl, hu⟩
 refine ⟨_, rfl, ?_⟩
 subst hu
 simp only [Act.put, pqA, pqB, pqC]
 refine VlS (.bool false) ?_
 refine VlS (.bool false) ?_
 refine WL.nil (hK5 _ _ ?_)
 refine wp_cond_false rfl ?_
 refine wp_skip ?_
 refine hK4 _ _ ?_
 refine wp_seq_k fun K6 hK6 => rgn ?_
 refine VlS (.pointer (some ⟨ph, 0, none⟩)) ?_
 have hfs : (D1.act.sync 0).fs = [⟨nmS 0, (hl 16 (hdF [97, 98]) ++ [97, 98]), ((hl 16 (hdF [97, 98]) ++ [97, 98]).length : Int)⟩] := by show D1.fs.modify 0 PF.sync = _; rw [HFs.out.1]; rfl
 have hfi := files_any ph ps vf cs2 (D1.act.sync 0) wu HH5.out HD5.out (by have h := HD5.out.fcs.len; rw [hfs] at h; simp at h; omega) (by rw [hfs]; intro f hf; simp at hf; subst hf; simp [hl_len])
 refine WL.callF (by kernel_rfl) 28 _ _ rfl Tryd.in28 #[ptr ph] (by simp [Act.eval]) ?_
 refine (hfi).mono ?_
 rintro e w7 ⟨v7, ct, rfl, h1, h2, h3, h4, h5⟩
 refine ⟨_, rfl, ?_⟩
 have B7 : Keep (Below w.heap.size w w7) := ⟨B5.out.trans (h5.mono B5.out.size)⟩
 rw [hfs] at h2
 have hcl : ct.length = 1 := h2.len
 obtain ⟨x, hx⟩ : ∃ x, ct = [x] := by rcases ct with _ | ⟨x, _ | ⟨y, r⟩⟩ <;> simp at hcl; exact ⟨x, rfl⟩
 subst hx
 have hxf := h2.each 0 x _ rfl rfl
 obtain ⟨va7, vc7, e7⟩ := h1.sl
 have e7 : v7 = .slice va7 1 vc7 := e7
 subst e7
 obtain ⟨gv, ea, hrg⟩ := h1.at (t := 0) (c := x) rfl
 subst ea
 obtain ⟨xn, xb, xs⟩ := x
 obtain ⟨hx1, hx2, hx3⟩ := hxf
 change xn = nmS 0 at hx1
 change xs = _ at hx2
 rw [nmS_0] at hx1
 have hx2 : xs = 18 := by rw [hx2]; simp [hl_len]
 subst hx1 hx2
 have hrw := hx3.row
 rw [ab_frame] at hrw
 obtain ⟨xa, xc, exb⟩ := row_form hrw
 have exb : xb = .slice xa 18 xc := exb
 subst exb
 have q0 : w7.cell? ⟨gv, 0, none⟩ = some (.string ⟨#[106, 48, 48, 48, 48]⟩) := hrg 0 _ rfl
 have q1 : w7.cell? ⟨gv, 1, none⟩ = some (.slice xa 18 xc) := hrg 1 _ rfl
 have q2 : w7.cell? ⟨gv, 2, none⟩ = some (.int .i64 18) := hrg 2 _ rfl
 have hcv := conv_row _ _ w7 hrw
 rw [ab_str] at hcv
 clear h1 h2 h3 h4 h5 hfi hfs hrg hx3 hrw hcl
 simp only [Act.put, pqA, pqB, pqC]
 refine VlS (.slice (some ⟨gv, 0, none⟩) 1 vc7) ?_
 refine WL.nil (hK6 _ _ ?_)
 refine wp_seq_k fun K7 hK7 => rgn ?_
 refine VlS (.slice (some ⟨gv, 0, none⟩) 1 vc7) ?_
 refine VlS (.int .i64 1) ?_
 refine VlS (.bool true) ?_
 refine VlS (.bool true) ?_
 refine VlS (.slice (some ⟨gv, 0, none⟩) 1 vc7) ?_
 refine VlS (.pointer (some ⟨gv, 0, none⟩)) ?_
 refine VlS (.pointer (some ⟨gv, 0, none⟩)) ?_
 refine VlS (.string ⟨#[106, 48, 48, 48, 48]⟩) ?_
 refine VlS (.bool true) ?_
 refine VlS (.bool true) ?_
 refine VlS (.bool true) ?_
 refine VlS (.slice (some ⟨gv, 0, none⟩) 1 vc7) ?_
 refine VlS (.pointer (some ⟨gv, 0, none⟩)) ?_
 refine VlS (.pointer (some ⟨gv, 2, none⟩)) ?_
 refine VlS (.int .i64 18) ?_
 refine VlS (.bool true) ?_
 refine VlS (.bool true) ?_
 refine VlS (.bool true) ?_
 refine VlS (.slice (some ⟨gv, 0, none⟩) 1 vc7) ?_
 refine VlS (.pointer (some ⟨gv, 0, none⟩)) ?_
 refine VlS (.pointer (some ⟨gv, 1, none⟩)) ?_
 refine VlS (.slice xa 18 xc) ?_
 refine VlS (.string ⟨#[2, 0, 0, 0, 253, 255, 255, 255, 251, 142, 32, 252, 46, 76, 63, 36, 97, 98]⟩) ?_
 refine VlS (.bool true) ?_
 refine VlS (.bool true) ?_
 refine VlS (.bool true) ?_
 refine WL.nil (hK7 _ _ ?_)
 refine wp_ret ?_
 go_ret
 exact ⟨rfl, B7.out⟩
theorem Tryd.in52 (w : World) (vs : Array Value) : (callFunc 52 vs).run Tryd.prog w = .ok (.enter 52 vs) w := by kernel_rfl
theorem Tryd.in18 (w : World) (vs : Array Value) : (callFunc 18 vs).run Tryd.prog w = .ok (.enter 18 vs) w := by kernel_rfl
def PF.app (f : PF) (l : List Int) : PF := { f with bs := f.bs ++ l }
def DV.appIs (D : DV) (i : Nat) (f : PF) (l : List Int) : DV := DV.act { D with fs := D.fs.set i (f.app l), used := D.used + (l.length : Int) }
theorem dsk_app {w w9 : World} {p g n7 k7 i : Nat} {cs : List FC} {D : DV} {x : FC} {f : PF} {l : List Int} {v9 : Value} (h : DskAt w p (.slice (some ⟨g, 0, none⟩) n7 k7) cs D) (hx : cs[i]? = some x) (hf : D.fs[i]? = some f) (ha : AppPost w.drew x.b (f.bs ++ l) v9 w9) :
  DskAt (w9.setCell ⟨g, i * 3 + 1, none⟩ v9) p (.slice (some ⟨g, 0, none⟩) n7 k7) (cs.set i { x with b := v9 }) { D with fs := D.fs.set i (f.app l) } := by
 have hxf := h.fcs.each i x f hx hf
 have g1 : Grown w w9 fun k => x.b.ownBlock = some k := (Grown.refl w _).drew.trans ha.grown
 have htx : ∀ k, x.b.ownBlock = some k → Typ w k 5 := fun k hk => hxf.2.2.typ hk
 have hg : Grown w9 (w9.setCell ⟨g, i * 3 + 1, none⟩ v9) fun k => k = g := Grown.setCell w9 g _ _ fun _ => rfl
 have ho9 : OwnF w9 (.slice (some ⟨g, 0, none⟩) n7 k7) cs := h.own.grown g1 fun k hk e => by have := (htx k e).one (h.own.typ hk); revert this; decide
 have ht : Typ w9 g 70 := ho9.typ rfl
 have hb9 : Blk w9 p 73 (stA (.slice (some ⟨g, 0, none⟩) n7 k7) D) := g1.blk h.blk fun e => by have := (htx p e).one h.blk.typ; revert this; decide
 have hl : i < cs.length := (List.getElem?_eq_some_iff.1 hx).1
 refine ⟨hg.blk hb9 fun e => ?_, ho9.set hx (by omega) rfl, ?_⟩
 ·subst e; have := ht.one hb9.typ; revert this; decide
 ·refine h.fcs.set hl ⟨hxf.1, hxf.2.1, ?_⟩ (fun j y z hj hy hz => ?_) (fun j y k hj hy hk hyk => ?_)
  ·exact ha.1.grown hg fun k hk e => by subst e; have := (ha.1.typ hk).one ht; revert this; decide
  ·have h1 := h.fcs.each j y z hy hz
   refine ⟨h1.1, h1.2.1, (h1.2.2.grown g1 fun k hk e => ?_).grown hg fun k hk e => ?_⟩
   ·exact h.fcs.apart j i y x hy hx hj k hk e
   ·subst e; have := ((h1.2.2.grown g1 fun k hk e => h.fcs.apart j i y x hy hx hj k hk e).typ hk).one ht; revert this; decide
  ·have hjl := (List.getElem?_eq_some_iff.1 hy).1
   rw [h.fcs.len] at hjl
   have h2 := (h.fcs.each j y _ hy (List.getElem?_eq_getElem hjl)).2.2.lt k hyk
   rcases ha.moved with e | ⟨q, e, hq⟩
   ·rw [hk] at e; exact h.fcs.apart j i y x hy hx hj k hyk e.symm
   ·rw [hk] at e; have := Option.some.inj e; have : w.heap.size ≤ q := hq; omega
theorem dskS_app {w w9 : World} {p : Nat} {vf : Value} {cs : List FC} {i : Nat} {x : FC} {m : List Int} {v9 : Value} (hx : cs[i]? = some x) (ha : AppPost w x.b m v9 w9) {k : Nat} (h : DskS p vf (cs.set i { x with b := v9 }) k) : DskS p vf cs k ∨ w.heap.size ≤ k := by
 rcases h with h | h | ⟨j, y, hy, hk⟩
 ·exact .inl (.inl h)
 ·exact .inl (.inr (.inl h))
 ·by_cases e : i = j
  ·subst e
   rw [List.getElem?_set_self (List.getElem?_eq_some_iff.1 hx).1] at hy
   injection hy with hy
   subst hy
   rcases ha.moved with e | ⟨q, e, hq⟩
   ·exact .inl (.inr (.inr ⟨i, x, hx, by rw [← e]; exact hk⟩))
   ·right; have hk : v9.ownBlock = some k := hk; rw [hk] at e; have := Option.some.inj e; omega
  ·rw [List.getElem?_set_ne e] at hy
   exact .inl (.inr (.inr ⟨j, y, hy, hk⟩))
set_option maxRecDepth 8000 in
set_option maxHeartbeats 2000000 in
theorem app_is (d p i : Nat) (n : ByteArray) (v vf : Value) (l : List Int) (cs : List FC) (D : DV) (f : PF) (w : World) (hDk : Blk w d 75 #[ptr p]) (hD : DskAt w p vf cs D) (hO : D.out = false) (hRg : rgt n = true) (hF : fnd n D.fs 0 = (i, true)) (hFi : D.fs[i]? = some f) (hFl : (f.bs.length : Int) ≤ D.used) (hL : cs.length ≤ 256)
  (hU : 0 ≤ D.used ∧ 0 ≤ D.room ∧ D.room ≤ 70368744177664 ∧ (l.length : Int) ≤ D.room - D.used) (hA : 0 ≤ D.acts ∧ D.acts ≤ 4611686018427387904) (hFu : -9223372036854775808 < D.fuse ∧ D.fuse ≤ 9223372036854775807) (hR : RowAt w v l) :
  Calls Tryd.prog 45 #[ptr d, .string n, v] w fun e w' => e = .returned (.int .i64 (pw D)) ∧ ∃ vf' cs', DskAt w' p vf' cs' (D.appIs i f l) ∧ (Grown w w' (DskS p vf cs)) ∧ ∀ k, DskS p vf' cs' k → DskS p vf cs k ∨ w.heap.size ≤ k := by
 obtain ⟨va, vc, rfl⟩ := hD.own.sl
 obtain ⟨ba, bc, rfl⟩ := row_form hR
 have HDk := Keep.mk hDk
 have HD := Keep.mk hD
 have HO := Keep.mk hO
 have HRg := Keep.mk hRg
 have HF := Keep.mk hF
 have HFi := Keep.mk hFi
 have HFl := Keep.mk hFl
 have HL := Keep.mk hL
 have HU := Keep.mk hU
 have HA := Keep.mk hA
 have HFu := Keep.mk hFu
 have HR := Keep.mk hR
 clear hDk hD hO hRg hF hFi hFl hL hU hA hFu hR
 go_enter Tryd.func45, Tryd.ntmps45
 have cd := HDk.out.c 0 (by rfl : (#[ptr p] : Array Value)[0]? = some (ptr p))
 have c4 : w.cell? ⟨p, 4, none⟩ = some (.bool false) := by have h := HD.out.blk.c 4 (by rfl : (stA (.slice va cs.length vc) D)[4]? = some (.bool D.out)); rw [HO.out] at h; exact h
 refine wp_seq_k fun K1 hK1 => rgn ?_
 refine VlS (.int .i64 0) ?_
 refine WL.nil (hK1 _ _ ?_)
 refine wp_seq_k fun K2 hK2 => rgn ?_
 refine VlS (.pointer (some ⟨d, 0, none⟩)) ?_
 refine VlS (.pointer (some ⟨d, 0, none⟩)) ?_
 refine VlS (.pointer (some ⟨d, 0, none⟩)) ?_
 refine VlS (.pointer (some ⟨p, 0, none⟩)) ?_
 refine VlS (.pointer (some ⟨p, 0, none⟩)) ?_
 refine WL.nil (hK2 _ _ ?_)
 refine wp_seq_k fun K3 hK3 => ?_
 refine wp_seq_k fun K4 hK4 => rgn ?_
 refine VlS (.pointer (some ⟨p, 0, none⟩)) ?_
 refine VlS (.pointer (some ⟨p, 0, none⟩)) ?_
 refine VlS (.pointer (some ⟨p, 4, none⟩)) ?_
 refine VlS (.bool false) ?_
 refine WL.nil (hK4 _ _ ?_)
 refine wp_cond_false rfl ?_
 refine wp_skip ?_
 refine hK3 _ _ ?_
 refine wp_seq_k fun K5 hK5 => ?_
 refine wp_seq_k fun K6 hK6 => rgn ?_
 refine VlS (.string n) ?_
 clear cd c4
 have hrt := right_any n w
 rw [HRg.out] at hrt
 refine WL.callF (by kernel_rfl) 34 _ _ rfl Tryd.in34 #[.string n] (by simp [Act.eval]) ?_
 refine (hrt).mono ?_
 rintro e wz ⟨rfl, hz⟩
 refine ⟨_, rfl, ?_⟩
 subst hz
 clear hrt
 simp only [Act.put, pqA, pqB, pqC]
 refine VlS (.bool false) ?_
 refine WL.nil (hK6 _ _ ?_)
 refine wp_cond_false rfl ?_
 refine wp_skip ?_
 refine hK5 _ _ ?_
 refine wp_seq_k fun K7 hK7 => rgn ?_
 refine VlS (.pointer (some ⟨p, 0, none⟩)) ?_
 refine VlS (.string n) ?_
 have hfd := find_any p n _ cs D wz HD.out (by have := HL.out; omega)
 rw [HF.out] at hfd
 refine WL.callF (by kernel_rfl) 33 _ _ rfl Tryd.in33 #[ptr p, .string n] (by simp [Act.eval]) ?_
 refine (hfd).mono ?_
 rintro e w1 ⟨rfl, hb1⟩
 refine ⟨_, rfl, ?_⟩
 have HD1 := Keep.mk (HD.out.below hb1)
 have B1 := Keep.mk hb1
 clear hb1 hfd
 simp only [Act.put, pqA, pqB, pqC]
 refine VlS (.tuple #[.int .i64 (i : Int), .bool true]) ?_
 refine VlS (.int .i64 (i : Int)) ?_
 refine VlS (.bool true) ?_
 refine VlS (.int .i64 (i : Int)) ?_
 refine VlS (.bool true) ?_
 refine WL.nil (hK7 _ _ ?_)
 refine wp_seq_k fun K8 hK8 => ?_
 refine wp_seq_k fun K9 hK9 => rgn ?_
 refine VlS (.bool true) ?_
 refine VlS (.bool false) ?_
 refine VlS (.bool false) ?_
 refine SkS ?_
 refine SkS ?_
 refine SkS ?_
 refine SkS ?_
 refine SkS ?_
 refine SkS ?_
 refine VlS (.bool false) ?_
 refine WL.nil (hK9 _ _ ?_)
 refine wp_cond_false rfl ?_
 refine wp_skip ?_
 refine hK8 _ _ ?_
 refine wp_seq_k fun K10 hK10 => ?_
 refine wp_seq_k fun K11 hK11 => ?_
 have hS0 : Keep (w1.drew.cell? ⟨p, 1, none⟩ = some (.int .i64 D.room) ∧ w1.drew.cell? ⟨p, 2, none⟩ = some (.int .i64 D.used)) := ⟨HD1.out.blk.drew.c 1 rfl, HD1.out.blk.drew.c 2 rfl⟩
 have hwr : IntKind.i64.wrap (D.room - D.used) = D.room - D.used := by rw [IntKind.wrap_i64]; have := HU.out; omega
 have hle : ¬ D.room - D.used < (l.length : Int) := by have := HU.out; omega
 refine wp_region_held_drew (S := fun wx => wx.cell? ⟨p, 1, none⟩ = some (.int .i64 D.room) ∧ wx.cell? ⟨p, 2, none⟩ = some (.int .i64 D.used)) (by kernel_rfl) (hS0.out) (fun hHeld => ?_)
 refine tkS (i := 0) (oi := ⟨some 38, Op.move (Operand.tmp 2), 37, _, _, none⟩) (v := .slice ba l.length bc) rfl (Or.inl ⟨by rfl, fun w hS => by obtain ⟨hS1, hS2⟩ := hS; go_simp⟩) hHeld ?_
 refine tkS (i := 1) (oi := ⟨some 39, Op.call { callee := Callee.builtin Builtin.len, args := #[Operand.tmp 38], argTypes := #[37] }, 3, _, _, none⟩) (v := .int .i64 (l.length : Int)) rfl (Or.inl ⟨by rfl, fun w hS => by obtain ⟨hS1, hS2⟩ := hS; go_simp⟩) hHeld ?_
 refine tkS (i := 2) (oi := ⟨some 40, Op.move (Operand.tmp 7), 71, _, _, none⟩) (v := .pointer (some ⟨p, 0, none⟩)) rfl (Or.inl ⟨by rfl, fun w hS => by obtain ⟨hS1, hS2⟩ := hS; go_simp⟩) hHeld ?_
 refine tkS (i := 3) (oi := ⟨some 41, Op.nilCheck (Operand.tmp 40), 0, _, _, none⟩) (v := .pointer (some ⟨p, 0, none⟩)) rfl (Or.inl ⟨by rfl, fun w hS => by obtain ⟨hS1, hS2⟩ := hS; go_simp⟩) hHeld ?_
 refine tkS (i := 4) (oi := ⟨some 42, Op.fieldAddr 73 (Operand.tmp 41) 1, 0, _, _, none⟩) (v := .pointer (some ⟨p, 1, none⟩)) rfl (Or.inl ⟨by rfl, fun w hS => by obtain ⟨hS1, hS2⟩ := hS; go_simp⟩) hHeld ?_
 refine tkS (i := 5) (oi := ⟨some 43, Op.load 3 (Operand.tmp 42), 3, _, _, none⟩) (v := .int .i64 D.room) rfl (Or.inl ⟨by rfl, fun w hS => by obtain ⟨hS1, hS2⟩ := hS; go_simp⟩) hHeld ?_
 refine tkS (i := 6) (oi := ⟨some 44, Op.move (Operand.tmp 7), 71, _, _, none⟩) (v := .pointer (some ⟨p, 0, none⟩)) rfl (Or.inl ⟨by rfl, fun w hS => by obtain ⟨hS1, hS2⟩ := hS; go_simp⟩) hHeld ?_
 refine tkS (i := 7) (oi := ⟨some 45, Op.nilCheck (Operand.tmp 44), 0, _, _, none⟩) (v := .pointer (some ⟨p, 0, none⟩)) rfl (Or.inl ⟨by rfl, fun w hS => by obtain ⟨hS1, hS2⟩ := hS; go_simp⟩) hHeld ?_
 refine tkS (i := 8) (oi := ⟨some 46, Op.fieldAddr 73 (Operand.tmp 45) 2, 0, _, _, none⟩) (v := .pointer (some ⟨p, 2, none⟩)) rfl (Or.inl ⟨by rfl, fun w hS => by obtain ⟨hS1, hS2⟩ := hS; go_simp⟩) hHeld ?_
 refine tkS (i := 9) (oi := ⟨some 47, Op.load 3 (Operand.tmp 46), 3, _, _, none⟩) (v := .int .i64 D.used) rfl (Or.inl ⟨by rfl, fun w hS => by obtain ⟨hS1, hS2⟩ := hS; go_simp⟩) hHeld ?_
 refine tkS (i := 10) (oi := ⟨some 48, Op.binOp BinOp.sub 3 (Operand.tmp 43) (Operand.tmp 47) 3, 3, _, _, none⟩) (v := .int .i64 (D.room - D.used)) rfl (Or.inl ⟨by rfl, fun w hS => by obtain ⟨hS1, hS2⟩ := hS; go_simp⟩) hHeld ?_
 refine tkS (i := 11) (oi := ⟨some 49, Op.binOp BinOp.gtr 3 (Operand.tmp 39) (Operand.tmp 48) 3, 4, _, _, none⟩) (v := .bool false) rfl (Or.inl ⟨by rfl, fun w hS => by obtain ⟨hS1, hS2⟩ := hS; go_simp⟩) hHeld ?_
 refine wpAnyH_done (by kernel_rfl) ?_ _
 refine hK11 _ _ ?_
 refine wp_cond_false rfl ?_
 refine wp_skip ?_
 refine hK10 _ _ ?_
 refine wp_seq_k fun K12 hK12 => ?_
 refine wp_seq_k fun K13 hK13 => rgn ?_
 refine VlS (.bool true) ?_
 refine VlS (.bool false) ?_
 refine WL.nil (hK13 _ _ ?_)
 refine wp_cond_false rfl ?_
 refine wp_skip ?_
 refine hK12 _ _ ?_
 refine wp_seq_k fun K14 hK14 => ?_
 have HD8 := Keep.mk (HD1.out.grown (Grown.refl w1 (fun _ => False)).drew fun _ _ h => h)
 have B8 : Keep (Below wz.heap.size wz w1.drew) := ⟨B1.out.drew⟩
 clear hS0 hwr hle HD1 B1
 generalize w1.drew = w8 at *
 have HR8 := Keep.mk (HR.out.below B8.out)
 obtain ⟨f_, hf_⟩ : ∃ f, D.fs[i]? = some f := ⟨f, HFi.out⟩
 obtain rfl : f = f_ := Option.some.inj (HFi.out.symm.trans hf_)
 have hci : i < cs.length := by have h := HD8.out.fcs.len; have h2 := (List.getElem?_eq_some_iff.1 hf_).1; omega
 obtain ⟨x, hx⟩ : ∃ x, cs[i]? = some x := ⟨cs[i], List.getElem?_eq_getElem hci⟩
 have HX := Keep.mk hx
 obtain ⟨g7, ha, hrg⟩ := HD8.out.own.at hx
 subst ha
 have hec := HD8.out.fcs.each i x f hx hf_
 have HOx : Keep (Own w8 x.b f.bs) := ⟨hec.2.2⟩
 obtain ⟨xn, xb, xs⟩ := x
 obtain ⟨xa, xm, xc, hxb⟩ := hec.2.2.sl
 change xb = _ at hxb
 subst hxb
 have HR1 : Keep (w8.cell? ⟨g7, i * 3 + 1, none⟩ = some (.slice xa xm xc)) := ⟨hrg 1 _ rfl⟩
 have hgp : Keep (g7 ≠ p) := ⟨fun e => HD8.out.own.ne HD8.out.blk (by decide) (by rw [e]; rfl)⟩
 have hilc : (i : Int) < (cs.length : Int) := by omega
 clear hrg hec hx hf_ hci
 have hS0 : Keep (w8.drew.cell? ⟨p, 0, none⟩ = some (.slice (some ⟨g7, 0, none⟩) cs.length vc)) := ⟨HD8.out.blk.drew.c 0 rfl⟩
 refine wp_region_held_drew (S := fun wx => wx.cell? ⟨p, 0, none⟩ = some (.slice (some ⟨g7, 0, none⟩) cs.length vc)) (by kernel_rfl) (hS0.out) (fun hHeld => ?_)
 refine tkS (i := 0) (oi := ⟨some 76, Op.move (Operand.tmp 7), 71, _, _, none⟩) (v := .pointer (some ⟨p, 0, none⟩)) rfl (Or.inl ⟨by rfl, fun w hS => by go_simp⟩) hHeld ?_
 refine tkS (i := 1) (oi := ⟨some 77, Op.nilCheck (Operand.tmp 76), 0, _, _, none⟩) (v := .pointer (some ⟨p, 0, none⟩)) rfl (Or.inl ⟨by rfl, fun w hS => by go_simp⟩) hHeld ?_
 refine tkS (i := 2) (oi := ⟨some 78, Op.fieldAddr 73 (Operand.tmp 77) 0, 0, _, _, none⟩) (v := .pointer (some ⟨p, 0, none⟩)) rfl (Or.inl ⟨by rfl, fun w hS => by go_simp⟩) hHeld ?_
 refine tkS (i := 3) (oi := ⟨some 79, Op.load 44 (Operand.tmp 78), 44, _, _, none⟩) (v := .slice (some ⟨g7, 0, none⟩) cs.length vc) rfl (Or.inl ⟨by rfl, fun w hS => by go_simp⟩) hHeld ?_
 refine tkS (i := 4) (oi := ⟨some 80, Op.move (Operand.tmp 8), 3, _, _, none⟩) (v := .int .i64 (i : Int)) rfl (Or.inl ⟨by rfl, fun w hS => by go_simp⟩) hHeld ?_
 refine tkS (i := 5) (oi := ⟨some 81, Op.move (Operand.tmp 7), 71, _, _, none⟩) (v := .pointer (some ⟨p, 0, none⟩)) rfl (Or.inl ⟨by rfl, fun w hS => by go_simp⟩) hHeld ?_
 refine tkS (i := 6) (oi := ⟨some 82, Op.nilCheck (Operand.tmp 81), 0, _, _, none⟩) (v := .pointer (some ⟨p, 0, none⟩)) rfl (Or.inl ⟨by rfl, fun w hS => by go_simp⟩) hHeld ?_
 refine tkS (i := 7) (oi := ⟨some 83, Op.fieldAddr 73 (Operand.tmp 82) 0, 0, _, _, none⟩) (v := .pointer (some ⟨p, 0, none⟩)) rfl (Or.inl ⟨by rfl, fun w hS => by go_simp⟩) hHeld ?_
 refine tkS (i := 8) (oi := ⟨some 84, Op.load 44 (Operand.tmp 83), 44, _, _, none⟩) (v := .slice (some ⟨g7, 0, none⟩) cs.length vc) rfl (Or.inl ⟨by rfl, fun w hS => by go_simp⟩) hHeld ?_
 refine tkS (i := 9) (oi := ⟨some 85, Op.move (Operand.tmp 8), 3, _, _, none⟩) (v := .int .i64 (i : Int)) rfl (Or.inl ⟨by rfl, fun w hS => by go_simp⟩) hHeld ?_
 refine tkS (i := 10) (oi := ⟨some 86, Op.indexAddr 44 (Operand.tmp 84) (Operand.tmp 85), 0, _, _, none⟩) (v := .pointer (some ⟨g7, i * 3, none⟩)) rfl (Or.inl ⟨by rfl, fun w hS => by go_simp⟩) hHeld ?_
 refine tkS (i := 11) (oi := ⟨some 87, Op.fieldAddr 70 (Operand.tmp 86) 1, 0, _, _, none⟩) (v := .pointer (some ⟨g7, i * 3 + 1, none⟩)) rfl (Or.inl ⟨by rfl, fun w hS => by go_simp⟩) hHeld ?_
 refine tkS (i := 13) (oi := ⟨some 89, Op.move (Operand.tmp 2), 37, _, _, none⟩) (v := .slice ba l.length bc) rfl (Or.inl ⟨by rfl, fun w hS => by go_simp⟩) hHeld ?_
 refine wpAnyH_ready (rs := [12]) (by kernel_rfl) (by simp) ?_
 refine AllReadyH.cons (o := ⟨some 88, Op.load 37 (Operand.tmp 87), 37, _, _, none⟩) rfl (fun K hK => ?_) AllReadyH.nil
 rw [if_pos (by rfl)]
 have cl : w8.drew.cell? ⟨g7, i * 3 + 1, none⟩ = some (.slice xa xm xc) := HR1.out
 refine wp_val (.slice xa xm xc) (by go_simp) ?_
 clear cl
 refine hK _ _ hS0.out fun hH1 => ?_
 clear hK
 simp only [Act.put, pqA, pqB, pqC]
 refine wpAnyH_ready (rs := [14]) (by kernel_rfl) (by simp) ?_
 refine AllReadyH.cons (o := ⟨some 90, Op.call { callee := Callee.builtin Builtin.append, args := #[Operand.tmp 88, Operand.tmp 89], argTypes := #[37, 37] }, 37, _, _, none⟩) rfl (fun K hK => ?_) AllReadyH.nil
 rw [if_pos (by rfl)]
 refine wp_app (.tmp 88) (.tmp 89) rfl (.slice xa xm xc) (.slice ba l.length bc) f.bs l rfl rfl (HOx.out.grown (Grown.refl w8 (fun _ => False)).drew fun _ _ h => h) (HR8.out.below (Below.refl _ _).drew) (by have := HU.out; have := HFl.out; omega) fun v9 w9 hp => ?_
 have HA9 := Keep.mk hp
 clear hp
 obtain ⟨a9, n9, k9, e9⟩ := HA9.out.1.sl
 subst e9
 have GA9 : Keep (Grown w8 w9 fun k => (Value.slice xa xm xc).ownBlock = some k) := ⟨(Grown.refl w8 _).drew.trans HA9.out.grown⟩
 have hxt : Keep (∀ k, (Value.slice xa xm xc).ownBlock = some k → Typ w8 k 5) := ⟨fun k hk => HOx.out.typ hk⟩
 have HB9 : Keep (Blk w9 p 73 (stA (.slice (some ⟨g7, 0, none⟩) cs.length vc) D)) := ⟨GA9.out.blk HD8.out.blk fun e => by have := (hxt.out p e).one HD8.out.blk.typ; revert this; decide⟩
 have HG9 : Keep (OwnF w9 (.slice (some ⟨g7, 0, none⟩) cs.length vc) cs) := ⟨HD8.out.own.grown GA9.out fun k hk e => by have := (hxt.out k e).one (HD8.out.own.typ hk); revert this; decide⟩
 have C9 : Keep (w9.cell? ⟨g7, i * 3 + 1, none⟩ = some (.slice xa xm xc)) := ⟨GA9.out.cell HR1.out fun e => by have := (hxt.out g7 e).one (HD8.out.own.typ rfl); revert this; decide⟩
 refine hK _ _ (HB9.out.c 0 rfl) fun hH2 => ?_
 clear hK
 simp only [Act.put, pqA, pqB, pqC]
 refine tkS (i := 15) (oi := ⟨some 91, Op.indexAddr 44 (Operand.tmp 79) (Operand.tmp 80), 0, _, _, none⟩) (v := .pointer (some ⟨g7, i * 3, none⟩)) rfl (Or.inl ⟨by rfl, fun w hS => by go_simp⟩) hH2 ?_
 refine tkS (i := 16) (oi := ⟨some 92, Op.fieldAddr 70 (Operand.tmp 91) 1, 0, _, _, none⟩) (v := .pointer (some ⟨g7, i * 3 + 1, none⟩)) rfl (Or.inl ⟨by rfl, fun w hS => by go_simp⟩) hH2 ?_
 refine wpAnyH_ready (rs := [17]) (by kernel_rfl) (by simp) ?_
 refine AllReadyH.cons (o := ⟨none, Op.store 37 (Operand.tmp 92) (Operand.tmp 90), 0, _, _, none⟩) rfl (fun K hK => ?_) AllReadyH.nil
 rw [if_pos (by rfl)]
 have f_o : w9.frozen? ⟨g7, i * 3 + 1, none⟩ = false := ownF_frozen HG9.out _
 have cl := C9.out
 refine wp_cellS (w9.setCell ⟨g7, i * 3 + 1, none⟩ (.slice a9 n9 k9)) (by go_simp) ?_
 clear f_o cl
 refine hK _ _ ((Grown.setCell w9 g7 (i * 3 + 1) _ (S := fun k => k = g7) fun _ => rfl).cell (HB9.out.c 0 rfl) (fun e => hgp.out e.symm)) fun hH3 => ?_
 clear hK
 simp only [Act.put, pqA, pqB, pqC]
 refine wpAnyH_done (by kernel_rfl) ?_ _
 refine hK14 _ _ ?_
 refine wp_seq_k fun K15 hK15 => ?_
 obtain ⟨w10, hw10⟩ : ∃ wx, Keep (wx = w9.setCell ⟨g7, i * 3 + 1, none⟩ (.slice a9 n9 k9)) := ⟨_, ⟨rfl⟩⟩
 rw [← hw10.out]
 have HD10 : Keep (DskAt w10 p (.slice (some ⟨g7, 0, none⟩) cs.length vc) (cs.set i (⟨xn, .slice a9 n9 k9, xs⟩ : FC)) { D with fs := D.fs.set i (f.app l) }) := ⟨by rw [hw10.out]; exact dsk_app HD8.out HX.out HFi.out HA9.out⟩
 have G10 : Keep (Grown wz w10 fun k => k = p ∨ k = g7 ∨ (Value.slice xa xm xc).ownBlock = some k) := ⟨by rw [hw10.out]; exact ((Grown.below B8.out).trans (GA9.out.mono fun k _ h => .inr (.inr h))).next (Grown.setCell w9 g7 _ _ (S := fun k => k = g7) fun _ => rfl) fun k hk e => .inr (.inl e)⟩
 have N10 : Keep (∀ k, DskS p (.slice (some ⟨g7, 0, none⟩) cs.length vc) (cs.set i (⟨xn, .slice a9 n9 k9, xs⟩ : FC)) k → DskS p (.slice (some ⟨g7, 0, none⟩) cs.length vc) cs k ∨ wz.heap.size ≤ k) := ⟨fun k hk => (dskS_app HX.out HA9.out hk).imp id fun h => Nat.le_trans B8.out.size h⟩
 clear HD8 HA9 GA9 hw10 HR8 HR1 hS0 HB9 HG9 C9
 have c2 := HD10.out.blk.c 2 (by rfl : (stA (.slice (some ⟨g7, 0, none⟩) cs.length vc) { D with fs := D.fs.set i (f.app l) })[2]? = some (.int .i64 D.used))
 have f_o := HD10.out.blk.frozen 2
 have hwu : IntKind.i64.wrap (D.used + (l.length : Int)) = D.used + (l.length : Int) := by rw [IntKind.wrap_i64]; have := HU.out; omega
 refine rgn ?_
 refine VlS (.pointer (some ⟨p, 0, none⟩)) ?_
 refine VlS (.pointer (some ⟨p, 0, none⟩)) ?_
 refine VlS (.pointer (some ⟨p, 2, none⟩)) ?_
 refine VlS (.int .i64 D.used) ?_
 refine VlS (.slice ba l.length bc) ?_
 refine VlS (.int .i64 (l.length : Int)) ?_
 refine VlS (.int .i64 (D.used + (l.length : Int))) ?_
 refine VlS (.pointer (some ⟨p, 0, none⟩)) ?_
 refine VlS (.pointer (some ⟨p, 2, none⟩)) ?_
 refine WL.cell (by kernel_rfl) (w10.setCell ⟨p, 2, none⟩ (.int .i64 (D.used + (l.length : Int)))) (by go_simp) ?_
 clear f_o c2
 have HD11 : Keep (DskAt (w10.setCell ⟨p, 2, none⟩ (.int .i64 (D.used + (l.length : Int)))) p (.slice (some ⟨g7, 0, none⟩) cs.length vc) (cs.set i (⟨xn, .slice a9 n9 k9, xs⟩ : FC)) { D with fs := D.fs.set i (f.app l), used := D.used + (l.length : Int) }) := ⟨HD10.out.put rfl rfl⟩
 have G11 : Keep (Grown wz (w10.setCell ⟨p, 2, none⟩ (.int .i64 (D.used + (l.length : Int)))) fun k => k = p ∨ k = g7 ∨ (Value.slice xa xm xc).ownBlock = some k) := ⟨G10.out.trans (Grown.setCell w10 p 2 _ fun _ => .inl rfl)⟩
 clear HD10 G10
 generalize w10.setCell ⟨p, 2, none⟩ (.int .i64 (D.used + (l.length : Int))) = w11 at *
 simp only [Act.put]
 refine WL.nil (hK15 _ _ ?_)
 refine wp_seq_k fun K16 hK16 => ?_
 refine wp_seq_k fun K17 hK17 => rgn ?_
 refine VlS (.pointer (some ⟨p, 0, none⟩)) ?_
 have hac := act_any p _ _ _ w11 HD11.out HA.out ⟨HFu.out.1, HFu.out.2⟩
 refine WL.callF (by kernel_rfl) 47 _ _ rfl Tryd.in47 #[ptr p] (by simp [Act.eval]) ?_
 refine (hac).mono ?_
 rintro e wq ⟨rfl, h1, h2⟩
 refine ⟨_, rfl, ?_⟩
 have HD12 := Keep.mk h1
 have G12 : Keep (Grown wz wq fun k => k = p ∨ k = g7 ∨ (Value.slice xa xm xc).ownBlock = some k) := ⟨G11.out.trans (h2.mono fun k _ e => .inl e)⟩
 clear h1 h2 hac
 simp only [Act.put, pqA, pqB, pqC]
 rcases Decidable.em (D.fuse = 0) with hfu | hfu
 ·rw [show decide (D.fuse = 0) = true from decide_eq_true hfu]
  refine WL.nil (hK17 _ _ ?_)
  refine wp_cond_true rfl ?_
  refine wp_seq_k fun K18 hK18 => rgn ?_
  refine VlS (.int .i64 7) ?_
  refine WL.nil (hK18 _ _ ?_)
  refine wp_ret ?_
  go_ret
  exact ⟨by unfold pw; rw [if_pos hfu]; rfl, _, _, HD12.out, G12.out.mono fun k _ h => h.imp id fun h => h.imp (fun e => by rw [e]; rfl) fun h => ⟨i, _, HX.out, h⟩, N10.out⟩
 ·rw [show decide (D.fuse = 0) = false from decide_eq_false hfu]
  refine WL.nil (hK17 _ _ ?_)
  refine wp_cond_false rfl ?_
  refine wp_skip ?_
  refine hK16 _ _ ?_
  refine wp_seq_k fun K19 hK19 => rgn ?_
  refine VlS (.int .i64 0) ?_
  refine WL.nil (hK19 _ _ ?_)
  refine wp_ret ?_
  go_ret
  exact ⟨by unfold pw; rw [if_neg hfu]; rfl, _, _, HD12.out, G12.out.mono fun k _ h => h.imp id fun h => h.imp (fun e => by rw [e]; rfl) fun h => ⟨i, _, HX.out, h⟩, N10.out⟩
theorem Tryd.in32 (w : World) (vs : Array Value) : (callFunc 32 vs).run Tryd.prog w = .ok (.enter 32 vs) w := by kernel_rfl
theorem Tryd.in30 (w : World) (vs : Array Value) : (callFunc 30 vs).run Tryd.prog w = .ok (.enter 30 vs) w := by kernel_rfl
theorem Tryd.in53 (w : World) (vs : Array Value) : (callFunc 53 vs).run Tryd.prog w = .ok (.enter 53 vs) w := by kernel_rfl
set_option maxRecDepth 8000 in
theorem syn_absent (d p i : Nat) (n : ByteArray) (vf : Value) (cs : List FC) (D : DV) (w : World) (hDk : Blk w d 75 #[ptr p]) (hD : DskAt w p vf cs D) (hO : D.out = false) (hF : fnd n D.fs 0 = (i, false)) (hL : cs.length ≤ 256) : Calls Tryd.prog 43 #[ptr d, .string n] w fun e w' => e = .returned (.int .i64 6) ∧ Below w.heap.size w w' := by
 obtain ⟨va, vc, rfl⟩ := hD.own.sl
 have HDk := Keep.mk hDk
 have HD := Keep.mk hD
 have HO := Keep.mk hO
 have HF := Keep.mk hF
 have HL := Keep.mk hL
 clear hDk hD hO hF hL
 go_enter Tryd.func43, Tryd.ntmps43
 have cd := HDk.out.c 0 (by rfl : (#[ptr p] : Array Value)[0]? = some (ptr p))
 have c4 : w.cell? ⟨p, 4, none⟩ = some (.bool false) := by have h := HD.out.blk.c 4 (by rfl : (stA (.slice va cs.length vc) D)[4]? = some (.bool D.out)); rw [HO.out] at h; exact h
 refine wp_seq_k fun K1 hK1 => rgn ?_
 refine VlS (.int .i64 0) ?_
 refine WL.nil (hK1 _ _ ?_)
 refine wp_seq_k fun K2 hK2 => rgn ?_
 refine VlS (.pointer (some ⟨d, 0, none⟩)) ?_
 refine VlS (.pointer (some ⟨d, 0, none⟩)) ?_
 refine VlS (.pointer (some ⟨d, 0, none⟩)) ?_
 refine VlS (.pointer (some ⟨p, 0, none⟩)) ?_
 refine VlS (.pointer (some ⟨p, 0, none⟩)) ?_
 refine WL.nil (hK2 _ _ ?_)
 refine wp_seq_k fun K3 hK3 => ?_
 refine wp_seq_k fun K4 hK4 => rgn ?_
 refine VlS (.pointer (some ⟨p, 0, none⟩)) ?_
 refine VlS (.pointer (some ⟨p, 0, none⟩)) ?_
 refine VlS (.pointer (some ⟨p, 4, none⟩)) ?_
 refine VlS (.bool false) ?_
 refine WL.nil (hK4 _ _ ?_)
 refine wp_cond_false rfl ?_
 refine wp_skip ?_
 refine hK3 _ _ ?_
 refine wp_seq_k fun K5 hK5 => rgn ?_
 refine VlS (.pointer (some ⟨p, 0, none⟩)) ?_
 refine VlS (.string n) ?_
 clear cd c4
 have hfd := find_any p n _ cs D w HD.out (by have := HL.out; omega)
 rw [HF.out] at hfd
 refine WL.callF (by kernel_rfl) 33 _ _ rfl Tryd.in33 #[ptr p, .string n] (by simp [Act.eval]) ?_
 refine (hfd).mono ?_
 rintro e w1 ⟨rfl, hb1⟩
 refine ⟨_, rfl, ?_⟩
 have B1 := Keep.mk hb1
 clear hb1 hfd
 simp only [Act.put, pqA, pqB, pqC]
 refine VlS (.tuple #[.int .i64 (i : Int), .bool false]) ?_
 refine VlS (.int .i64 (i : Int)) ?_
 refine VlS (.bool false) ?_
 refine VlS (.int .i64 (i : Int)) ?_
 refine VlS (.bool false) ?_
 refine WL.nil (hK5 _ _ ?_)
 refine wp_seq_k fun K6 hK6 => ?_
 refine wp_seq_k fun K7 hK7 => rgn ?_
 refine VlS (.bool false) ?_
 refine VlS (.bool true) ?_
 refine WL.nil (hK7 _ _ ?_)
 refine wp_cond_true rfl ?_
 refine wp_seq_k fun K8 hK8 => rgn ?_
 refine VlS (.int .i64 6) ?_
 refine WL.nil (hK8 _ _ ?_)
 refine wp_ret ?_
 go_ret
 exact ⟨rfl, B1.out⟩
theorem WL.sl2 {ops : Array Oper} {rest : List Oper} {o : Oper} {a : Act} {w : World} {Q : Exit → Act → World → Prop} (hw : Region.wanted o (yielded ops a.tmps) = true) (x lo hi : Operand) (ho : o.op = .slice 37 x (some lo) (some hi) none)
  (vx vl vh vs : Value) (hx : a.eval x = vx) (hl : a.eval lo = vl) (hh : a.eval hi = vh) (hr : (Instr.sliceAt 37 vx (some vl) (some vh) none).run Tryd.prog w = .ok vs w) (h : WL Tryd.prog ops Q rest (a.put o.dst vs) w) : WL Tryd.prog ops Q (o :: rest) a w :=
 WL.val hw vs (by unfold execOp; simp only [ho, hx, hl, hh, Option.map_some, Option.map_none, Sem.run_bind, hr, Result.andThen_ok, Sem.run_pure]) h
set_option maxRecDepth 8000 in
theorem size_is (d p i : Nat) (n : ByteArray) (vf : Value) (cs : List FC) (D : DV) (f : PF) (w : World) (hDk : Blk w d 75 #[ptr p]) (hD : DskAt w p vf cs D) (hO : D.out = false) (hF : fnd n D.fs 0 = (i, true)) (hFi : D.fs[i]? = some f) (hL : cs.length ≤ 256) : Calls Tryd.prog 52 #[ptr d, .string n] w fun e w' => e = .returned (.tuple #[.int .i64 (f.bs.length : Int), .int .i64 0]) ∧ Below w.heap.size w w' := by
 obtain ⟨va, vc, rfl⟩ := hD.own.sl
 have HDk := Keep.mk hDk
 have HD := Keep.mk hD
 have HO := Keep.mk hO
 have HF := Keep.mk hF
 have HFi := Keep.mk hFi
 have HL := Keep.mk hL
 clear hDk hD hO hF hFi hL
 go_enter Tryd.func52, Tryd.ntmps52
 have cd := HDk.out.c 0 (by rfl : (#[ptr p] : Array Value)[0]? = some (ptr p))
 have c4 : w.cell? ⟨p, 4, none⟩ = some (.bool false) := by have h := HD.out.blk.c 4 (by rfl : (stA (.slice va cs.length vc) D)[4]? = some (.bool D.out)); rw [HO.out] at h; exact h
 refine wp_seq_k fun K1 hK1 => rgn ?_
 refine VlS (.int .i64 0) ?_
 refine VlS (.int .i64 0) ?_
 refine WL.nil (hK1 _ _ ?_)
 refine wp_seq_k fun K2 hK2 => rgn ?_
 refine VlS (.pointer (some ⟨d, 0, none⟩)) ?_
 refine VlS (.pointer (some ⟨d, 0, none⟩)) ?_
 refine VlS (.pointer (some ⟨d, 0, none⟩)) ?_
 refine VlS (.pointer (some ⟨p, 0, none⟩)) ?_
 refine VlS (.pointer (some ⟨p, 0, none⟩)) ?_
 refine WL.nil (hK2 _ _ ?_)
 refine wp_seq_k fun K3 hK3 => ?_
 refine wp_seq_k fun K4 hK4 => rgn ?_
 refine VlS (.pointer (some ⟨p, 0, none⟩)) ?_
 refine VlS (.pointer (some ⟨p, 0, none⟩)) ?_
 refine VlS (.pointer (some ⟨p, 4, none⟩)) ?_
 refine VlS (.bool false) ?_
 refine WL.nil (hK4 _ _ ?_)
 refine wp_cond_false rfl ?_
 refine wp_skip ?_
 refine hK3 _ _ ?_
 refine wp_seq_k fun K5 hK5 => rgn ?_
 refine VlS (.pointer (some ⟨p, 0, none⟩)) ?_
 refine VlS (.string n) ?_
 clear cd c4
 have hfd := find_any p n _ cs D w HD.out (by have := HL.out; omega)
 rw [HF.out] at hfd
 refine WL.callF (by kernel_rfl) 33 _ _ rfl Tryd.in33 #[ptr p, .string n] (by simp [Act.eval]) ?_
 refine (hfd).mono ?_
 rintro e w1 ⟨rfl, hb1⟩
 refine ⟨_, rfl, ?_⟩
 have B1 := Keep.mk hb1
 have HD1 := Keep.mk (HD.out.below hb1)
 clear hb1 hfd
 obtain ⟨f_, hf_⟩ : ∃ f, D.fs[i]? = some f := ⟨f, HFi.out⟩
 obtain rfl : f = f_ := Option.some.inj (HFi.out.symm.trans hf_)
 have hci : i < cs.length := by have h := HD1.out.fcs.len; have h2 := (List.getElem?_eq_some_iff.1 hf_).1; omega
 obtain ⟨x, hx⟩ : ∃ x, cs[i]? = some x := ⟨cs[i], List.getElem?_eq_getElem hci⟩
 obtain ⟨g, ha, hrg⟩ := HD1.out.own.at hx
 subst ha
 have hec := HD1.out.fcs.each i x f hx hf_
 obtain ⟨xn, xb, xs⟩ := x
 obtain ⟨xa, xc, hxb⟩ := row_form hec.2.2.row
 change xb = _ at hxb
 subst hxb
 have HXr : Keep (RowAt w1 (.slice xa f.bs.length xc) f.bs) := ⟨hec.2.2.row⟩
 have c1 : w1.cell? ⟨g, i * 3 + 1, none⟩ = some (.slice xa f.bs.length xc) := hrg 1 _ rfl
 have hilc : (i : Int) < (cs.length : Int) := by omega
 have p0 := HD1.out.blk.c 0 (by rfl : (stA (.slice (some ⟨g, 0, none⟩) cs.length vc) D)[0]? = some (.slice (some ⟨g, 0, none⟩) cs.length vc))
 clear hrg hec hx hf_ hci
 simp only [Act.put, pqA, pqB, pqC]
 refine VlS (.tuple #[.int .i64 (i : Int), .bool true]) ?_
 refine VlS (.int .i64 (i : Int)) ?_
 refine VlS (.bool true) ?_
 refine VlS (.int .i64 (i : Int)) ?_
 refine VlS (.bool true) ?_
 refine WL.nil (hK5 _ _ ?_)
 refine wp_seq_k fun K6 hK6 => ?_
 refine wp_seq_k fun K7 hK7 => rgn ?_
 refine VlS (.bool true) ?_
 refine VlS (.bool false) ?_
 refine WL.nil (hK7 _ _ ?_)
 refine wp_cond_false rfl ?_
 refine wp_skip ?_
 refine hK6 _ _ ?_
 refine wp_seq_k fun K8 hK8 => rgn ?_
 refine VlS (.pointer (some ⟨p, 0, none⟩)) ?_
 refine VlS (.pointer (some ⟨p, 0, none⟩)) ?_
 refine VlS (.pointer (some ⟨p, 0, none⟩)) ?_
 refine VlS (.slice (some ⟨g, 0, none⟩) cs.length vc) ?_
 refine VlS (.int .i64 (i : Int)) ?_
 refine VlS (.pointer (some ⟨g, i * 3, none⟩)) ?_
 refine VlS (.pointer (some ⟨g, i * 3 + 1, none⟩)) ?_
 refine VlS (.slice xa f.bs.length xc) ?_
 refine VlS (.int .i64 (f.bs.length : Int)) ?_
 refine VlS (.int .i64 (f.bs.length : Int)) ?_
 refine VlS (.int .i64 0) ?_
 refine WL.nil (hK8 _ _ ?_)
 refine wp_ret ?_
 go_ret2
 exact ⟨rfl, B1.out⟩
set_option maxRecDepth 8000 in
theorem read_is (d p i : Nat) (n : ByteArray) (vf : Value) (cs : List FC) (D : DV) (f : PF) (w : World) (hDk : Blk w d 75 #[ptr p]) (hD : DskAt w p vf cs D) (hO : D.out = false) (hF : fnd n D.fs 0 = (i, true)) (hFi : D.fs[i]? = some f) (hL : cs.length ≤ 256) (hB : f.bs.length ≤ 70368744177664) : Calls Tryd.prog 53 #[ptr d, .string n, .int .i64 0, .int .i64 (f.bs.length : Int)] w fun e w' => ∃ v, e = .returned (.tuple #[v, .int .i64 0]) ∧ Own w' v f.bs ∧ (∀ k, v.ownBlock = some k → w.heap.size ≤ k) ∧ Below w.heap.size w w' := by
 obtain ⟨va, vc, rfl⟩ := hD.own.sl
 have HDk := Keep.mk hDk
 have HD := Keep.mk hD
 have HO := Keep.mk hO
 have HF := Keep.mk hF
 have HFi := Keep.mk hFi
 have HL := Keep.mk hL
 have HB := Keep.mk hB
 clear hDk hD hO hF hFi hL hB
 go_enter Tryd.func53, Tryd.ntmps53
 have cd := HDk.out.c 0 (by rfl : (#[ptr p] : Array Value)[0]? = some (ptr p))
 have c4 : w.cell? ⟨p, 4, none⟩ = some (.bool false) := by have h := HD.out.blk.c 4 (by rfl : (stA (.slice va cs.length vc) D)[4]? = some (.bool D.out)); rw [HO.out] at h; exact h
 refine wp_seq_k fun K1 hK1 => rgn ?_
 refine VlS (.slice none 0 0) ?_
 refine VlS (.int .i64 0) ?_
 refine WL.nil (hK1 _ _ ?_)
 refine wp_seq_k fun K2 hK2 => rgn ?_
 refine VlS (.pointer (some ⟨d, 0, none⟩)) ?_
 refine VlS (.pointer (some ⟨d, 0, none⟩)) ?_
 refine VlS (.pointer (some ⟨d, 0, none⟩)) ?_
 refine VlS (.pointer (some ⟨p, 0, none⟩)) ?_
 refine VlS (.pointer (some ⟨p, 0, none⟩)) ?_
 refine WL.nil (hK2 _ _ ?_)
 refine wp_seq_k fun K3 hK3 => ?_
 refine wp_seq_k fun K4 hK4 => rgn ?_
 refine VlS (.pointer (some ⟨p, 0, none⟩)) ?_
 refine VlS (.pointer (some ⟨p, 0, none⟩)) ?_
 refine VlS (.pointer (some ⟨p, 4, none⟩)) ?_
 refine VlS (.bool false) ?_
 refine WL.nil (hK4 _ _ ?_)
 refine wp_cond_false rfl ?_
 refine wp_skip ?_
 refine hK3 _ _ ?_
 refine wp_seq_k fun K5 hK5 => rgn ?_
 refine VlS (.pointer (some ⟨p, 0, none⟩)) ?_
 refine VlS (.string n) ?_
 clear cd c4
 have hfd := find_any p n _ cs D w HD.out (by have := HL.out; omega)
 rw [HF.out] at hfd
 refine WL.callF (by kernel_rfl) 33 _ _ rfl Tryd.in33 #[ptr p, .string n] (by simp [Act.eval]) ?_
 refine (hfd).mono ?_
 rintro e w1 ⟨rfl, hb1⟩
 refine ⟨_, rfl, ?_⟩
 have B1 := Keep.mk hb1
 have HD1 := Keep.mk (HD.out.below hb1)
 clear hb1 hfd
 obtain ⟨f_, hf_⟩ : ∃ f, D.fs[i]? = some f := ⟨f, HFi.out⟩
 obtain rfl : f = f_ := Option.some.inj (HFi.out.symm.trans hf_)
 have hci : i < cs.length := by have h := HD1.out.fcs.len; have h2 := (List.getElem?_eq_some_iff.1 hf_).1; omega
 obtain ⟨x, hx⟩ : ∃ x, cs[i]? = some x := ⟨cs[i], List.getElem?_eq_getElem hci⟩
 obtain ⟨g, ha, hrg⟩ := HD1.out.own.at hx
 subst ha
 have hec := HD1.out.fcs.each i x f hx hf_
 obtain ⟨xn, xb, xs⟩ := x
 obtain ⟨xa, xc, hxb⟩ := row_form hec.2.2.row
 change xb = _ at hxb
 subst hxb
 have HXr : Keep (RowAt w1 (.slice xa f.bs.length xc) f.bs) := ⟨hec.2.2.row⟩
 have c1 : w1.cell? ⟨g, i * 3 + 1, none⟩ = some (.slice xa f.bs.length xc) := hrg 1 _ rfl
 have hilc : (i : Int) < (cs.length : Int) := by omega
 have p0 := HD1.out.blk.c 0 (by rfl : (stA (.slice (some ⟨g, 0, none⟩) cs.length vc) D)[0]? = some (.slice (some ⟨g, 0, none⟩) cs.length vc))
 clear hrg hec hx hf_ hci
 have hl0 : ¬ (f.bs.length : Int) < 0 := by omega
 have hl1 : ¬ (f.bs.length : Int) < (f.bs.length : Int) := by omega
 have hws : IntKind.i64.wrap (f.bs.length : Int) = (f.bs.length : Int) := by rw [IntKind.wrap_i64]; have := HB.out; omega
 simp only [Act.put, pqA, pqB, pqC]
 refine VlS (.tuple #[.int .i64 (i : Int), .bool true]) ?_
 refine VlS (.int .i64 (i : Int)) ?_
 refine VlS (.bool true) ?_
 refine VlS (.int .i64 (i : Int)) ?_
 refine VlS (.bool true) ?_
 refine WL.nil (hK5 _ _ ?_)
 refine wp_seq_k fun K6 hK6 => ?_
 refine wp_seq_k fun K7 hK7 => rgn ?_
 refine VlS (.bool true) ?_
 refine VlS (.bool false) ?_
 refine WL.nil (hK7 _ _ ?_)
 refine wp_cond_false rfl ?_
 refine wp_skip ?_
 refine hK6 _ _ ?_
 refine wp_seq_k fun K8 hK8 => rgn ?_
 refine VlS (.pointer (some ⟨p, 0, none⟩)) ?_
 refine VlS (.pointer (some ⟨p, 0, none⟩)) ?_
 refine VlS (.pointer (some ⟨p, 0, none⟩)) ?_
 refine VlS (.slice (some ⟨g, 0, none⟩) cs.length vc) ?_
 refine VlS (.int .i64 (i : Int)) ?_
 refine VlS (.pointer (some ⟨g, i * 3, none⟩)) ?_
 refine VlS (.pointer (some ⟨g, i * 3 + 1, none⟩)) ?_
 refine VlS (.slice xa f.bs.length xc) ?_
 refine VlS (.slice xa f.bs.length xc) ?_
 refine WL.nil (hK8 _ _ ?_)
 refine wp_seq_k fun K9 hK9 => ?_
 refine wp_seq_k fun K10 hK10 => rgn ?_
 refine VlS (.int .i64 0) ?_
 refine VlS (.bool false) ?_
 refine VlS (.bool false) ?_
 refine VlS (.int .i64 (f.bs.length : Int)) ?_
 refine VlS (.bool false) ?_
 refine VlS (.bool false) ?_
 refine VlS (.bool false) ?_
 refine VlS (.int .i64 0) ?_
 refine VlS (.slice xa f.bs.length xc) ?_
 refine VlS (.int .i64 (f.bs.length : Int)) ?_
 refine VlS (.bool false) ?_
 refine VlS (.bool false) ?_
 refine VlS (.bool false) ?_
 refine VlS (.int .i64 (f.bs.length : Int)) ?_
 refine VlS (.slice xa f.bs.length xc) ?_
 refine VlS (.int .i64 (f.bs.length : Int)) ?_
 refine VlS (.int .i64 0) ?_
 refine VlS (.int .i64 (f.bs.length : Int)) ?_
 refine VlS (.bool false) ?_
 refine VlS (.bool false) ?_
 refine WL.nil (hK10 _ _ ?_)
 refine wp_cond_false rfl ?_
 refine wp_skip ?_
 refine hK9 _ _ ?_
 refine wp_seq_k fun K11 hK11 => rgn ?_
 refine WL.bs (by kernel_rfl) 37 0 _ rfl #[] (by simp) _ _ (bsBE w1) ?_
 have hbx := below_new w1 (.cells #[] 5)
 have HE : Keep (Own (w1.alloc (.cells #[] 5)) (.slice (some ⟨w1.heap.size, 0, none⟩) 0 0) []) := ⟨own_empty _ _ (Blk.new w1 5 #[])⟩
 have HX2 := Keep.mk (HXr.out.below hbx)
 have B2 : Keep (Below w.heap.size w (w1.alloc (.cells #[] 5))) := ⟨B1.out.trans (hbx.mono B1.out.size)⟩
 have L2 : Keep (w.heap.size ≤ w1.heap.size) := ⟨B1.out.size⟩
 clear hbx c1 p0 HXr hl0 hl1
 generalize w1.alloc (.cells #[] 5) = w2 at *
 obtain ⟨ge, hge⟩ : ∃ q, Keep (q = w1.heap.size) := ⟨_, ⟨rfl⟩⟩
 rw [← hge.out] at HE L2 ⊢
 simp only [Act.put, pqA, pqB, pqC]
 refine VlS (.slice xa f.bs.length xc) ?_
 refine VlS (.int .i64 0) ?_
 refine VlS (.int .i64 0) ?_
 refine VlS (.int .i64 (f.bs.length : Int)) ?_
 refine VlS (.int .i64 (f.bs.length : Int)) ?_
 obtain ⟨vs, hs1, hs2⟩ := mid_any (.slice xa f.bs.length xc) f.bs w2 HX2.out 0 f.bs.length (by omega)
 have hs := hs1 w2
 rw [show (((0 : Nat) : Int) + (f.bs.length : Int)) = (f.bs.length : Int) by omega] at hs
 have HV : Keep (RowAt w2 vs f.bs) := ⟨by have h := hs2 w2 HX2.out; rw [List.drop_zero, List.take_length] at h; exact h⟩
 refine WL.sl2 (by kernel_rfl) (.tmp 59) (.tmp 60) (.tmp 63) rfl (.slice xa f.bs.length xc) (.int .i64 0) (.int .i64 (f.bs.length : Int)) vs rfl rfl rfl hs ?_
 clear hs hs1 hs2
 simp only [Act.put, pqA, pqB, pqC]
 refine WL.call (by kernel_rfl) fun K hK => ?_
 refine wp_app (.tmp 58) (.tmp 64) rfl (.slice (some ⟨ge, 0, none⟩) 0 0) vs [] f.bs rfl rfl HE.out HV.out (by have := HB.out; simp; omega) fun v6 w6 hp => ?_
 refine hK _ _ ?_
 have HA6 := Keep.mk hp
 clear hp
 simp only [Act.put, pqA, pqB, pqC]
 refine VlS (v6) ?_
 refine VlS (.int .i64 0) ?_
 refine WL.nil (hK11 _ _ ?_)
 refine wp_ret ?_
 go_ret2
 refine ⟨v6, rfl, by have h := HA6.out.1; rw [List.nil_append] at h; exact h, own_new HA6.out B2.out.size fun k hk => by have e : ge = k := Option.some.inj hk; have := L2.out; omega, B2.out.trans (HA6.out.grown.to_below (B := w.heap.size) (fun k hk e => by have e : ge = k := Option.some.inj e; have := L2.out; omega) B2.out.size)⟩
end Go.Proofs.YtennogmeeefopaaDoor
