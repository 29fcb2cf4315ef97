import Derived.Test.YtennogmeeefopaaDoorA10
import Derived.Deep.RegionHeld3
import Derived.Lib.Small
import Derived.Lib.SliceRun
import Derived.Lib.ConvBytes
namespace Go.Proofs.YtennogmeeefopaaDoor
open Go.RowKit
set_option linter.unusedSimpArgs false
set_option linter.unusedVariables false

theorem Tryd.in42 (w : World) (vs : Array Value) : (callFunc 42 vs).run Tryd.prog w = .ok (.enter 42 vs) w := by kernel_rfl
theorem run_bldP (a b : Int) (w : World) : (Next.value <$> Instr.build 79 #[(0, .int .i64 a), (1, .int .i64 b)]).run Tryd.prog w = .ok (.value (.agg #[.int .i64 a, .int .i64 b])) w := by kernel_rfl
set_option maxRecDepth 8000 in
set_option maxHeartbeats 4000000 in
theorem read_any (g d p : Nat) (vn vf : Value) (cs : List FC) (D : DV) (w : World) (hT : Tab w) (hg0 : g ≠ 0) (hJ : Blk w g 61 (jA d (.slice none 0 0) (-1) 0 false false)) (hDk : Blk w d 75 #[ptr p]) (hD : DskAt w p vf cs D) (hOk : DOk D) (hO : D.out = false) (hVn : OwnS w vn (D.fs.map PF.nm)) :
  Calls Tryd.prog 22 #[ptr g, vn] w fun e w' => ∃ vl vp, e = .returned (.tuple #[vl, .bool (openV (Fk D.fs)).torn, .int .i64 0]) ∧ RS w w' g d vp vl (openV (Fk D.fs)) := by
 have HT := Keep.mk hT
 have Hg0 := Keep.mk hg0
 have HJ := Keep.mk hJ
 have HDk := Keep.mk hDk
 have HD := Keep.mk hD
 have HOk := Keep.mk hOk
 have HO := Keep.mk hO
 have HVn := Keep.mk hVn
 clear hT hg0 hJ hDk hD hOk hO hVn
 go_enter Tryd.func22, Tryd.ntmps22
 refine wp_seq_k fun K1 hK1 => rgn ?_
 refine VlS (.slice none 0 0) ?_
 refine VlS (.bool false) ?_
 refine VlS (.int .i64 0) ?_
 refine WL.nil (hK1 _ _ ?_)
 refine wp_scope_straight ?_
 refine wp_seq_k fun K2 hK2 => rgn ?_
 refine WL.bs (by kernel_rfl) 23 0 _ rfl #[] (by simp) _ _ (bsRE w) ?_
 have hb1 := below_new w (.cells #[] 37)
 have R1 : Keep (RS w (w.alloc (.cells #[] 37)) g d (.slice none 0 0) (.slice (some ⟨w.heap.size, 0, none⟩) 0 0) JV.nil) := ⟨⟨HJ.out.below hb1 HJ.out.lt, ownP_nil _, fun k h => by simp [Value.ownBlock] at h, ⟨[], ownR_empty w, fun k h => by have e : w.heap.size = k := Option.some.inj h; omega, rfl, fun i hi => by simp [JV.nil] at hi⟩, Grown.below hb1⟩⟩
 clear hb1
 generalize w.alloc (.cells #[] 37) = w1 at *
 obtain ⟨pg, hpg⟩ : ∃ p, Keep (p = w.heap.size) := ⟨_, ⟨rfl⟩⟩
 rw [← hpg.out] at R1 ⊢
 simp only [Act.put, pqA, pqB, pqC]
 refine VlS (.slice (some ⟨pg, 0, none⟩) 0 0) ?_
 refine WL.nil (hK2 _ _ ?_)
 refine wp_seq_k fun K3 hK3 => rgn ?_
 refine VlS (.bool false) ?_
 refine WL.nil (hK3 _ _ ?_)
 refine wp_seq_k fun K4 hK4 => ?_
 refine wp_label ?_
 refine hK4 _ _ ?_
 refine wp_seq_k fun K5 hK5 => ?_
 refine wp_seq_k fun K6 hK6 => rgn ?_
 refine VlS (.int .i64 0) ?_
 refine WL.nil (hK6 _ _ ?_)
 refine wp_block ?_
 refine wp_loop (fun ac wr => ∃ (fz : Nat → Value) (t : Nat) (la : Option Addr) (ln lc : Nat) (vp : Value) (V : JV), ac = { tmps := #[.pointer (some ⟨g, 0, none⟩), vn, undef, undef, fz 4, fz 5, fz 6, .slice la ln lc, .bool false, fz 9, fz 10, fz 11, fz 12, .slice (some ⟨pg, 0, none⟩) 0 0, .int .i64 (t : Int), fz 15, fz 16, fz 17, fz 18, fz 19, fz 20, fz 21, fz 22, fz 23, fz 24, fz 25, fz 26, fz 27, fz 28, fz 29, fz 30, fz 31, fz 32, fz 33, fz 34, fz 35, fz 36, fz 37, fz 38, fz 39, fz 40, fz 41, fz 42, fz 43, fz 44, fz 45, fz 46, fz 47, fz 48, fz 49, fz 50, fz 51, fz 52, fz 53, fz 54, fz 55, fz 56, fz 57, fz 58, fz 59, fz 60, fz 61, fz 62, fz 63, fz 64, fz 65, fz 66, fz 67, fz 68, fz 69, fz 70, fz 71, fz 72, fz 73, fz 74, fz 75, fz 76, fz 77, fz 78, fz 79, fz 80, fz 81, fz 82, fz 83, fz 84, undef, undef], defers := [] } ∧ t ≤ 256 ∧ V.pr = (t : Int) - 1 ∧ V.torn = false ∧ openV (Fk D.fs) = rdJ (Fk D.fs) (256 - t) t V ∧ V.ps.length ≤ t * 1000000000 ∧ V.pl.length = V.ps.length ∧ RS w wr g d vp (.slice la ln lc) V) (fun a wr => 256 - (intOf (a.tmps.getD 14 undef)).toNat) ⟨fun zz => [.pointer (some ⟨g, 0, none⟩), vn, undef, undef, .slice none 0 0, .bool false, .int .i64 0, .slice (some ⟨pg, 0, none⟩) 0 0, .bool false, undef, undef, undef, undef, .slice (some ⟨pg, 0, none⟩) 0 0, .int .i64 0, undef, undef, undef, undef, undef, undef, undef, undef, undef, undef, undef, undef, undef, undef, undef, undef, undef, undef, undef, undef, undef, undef, undef, undef, undef, undef, undef, undef, undef, undef, undef, undef, undef, undef, undef, undef, undef, undef, undef, undef, undef, undef, undef, undef, undef, undef, undef, undef, undef, undef, undef, undef, undef, undef, undef, undef, undef, undef, undef, undef, undef, undef, undef, undef, undef, undef, undef, undef, undef, undef, undef, undef].getD zz undef, 0, some ⟨pg, 0, none⟩, 0, 0, .slice none 0 0, JV.nil, rfl, Nat.zero_le _, rfl, rfl, rfl, Nat.zero_le _, rfl, R1.out⟩ ?_
 clear R1 hpg
 rintro ac wr ⟨fz, t, la, ln, lc, vp, V, rfl, ht, hv1, hv2, hv3, hv4, hv5, hR⟩
 have JV1 := Keep.mk hv1
 have JV2 := Keep.mk hv2
 have JV3 := Keep.mk hv3
 have JV4 := Keep.mk hv4
 have JV5 := Keep.mk hv5
 have JR := Keep.mk hR
 clear hv1 hv2 hv3 hv4 hv5 hR
 have T_wr : Keep (Tab wr) := ⟨HT.out.grown JR.out.gr (fun e => Hg0.out e.symm)⟩
 have K_wr : Keep (Blk wr d 75 #[ptr p]) := ⟨JR.out.gr.blk HDk.out fun e => by rw [e] at HDk; have := HDk.out.typ.one HJ.out.typ; revert this; decide⟩
 have D_wr : Keep (DskAt wr p vf cs D) := ⟨HD.out.grown JR.out.gr fun k hk e => by subst e; rcases hk with h | h | h <;> (have := h.one HJ.out.typ; revert this; decide)⟩
 have N_wr : Keep (OwnS wr vn (D.fs.map PF.nm)) := ⟨HVn.out.grown JR.out.gr fun k hk e => by subst e; have := (HVn.out.typ hk).one HJ.out.typ; revert this; decide⟩
 by_cases hlt : t < 256
 ·have hlt' : (t : Int) < 256 := by omega
  have hwt : IntKind.i64.wrap ((t : Int) + 1) = (t : Int) + 1 := by rw [IntKind.wrap_i64]; omega
  refine wp_seq_k fun K7 hK7 => rgn ?_
  refine VlS (.bool true) ?_
  refine WL.nil (hK7 _ _ ?_)
  refine wp_seq_k fun K8 hK8 => ?_
  refine wp_cond_true rfl ?_
  refine wp_skip ?_
  refine hK8 _ _ ?_
  refine wp_seq_k fun K9 hK9 => ?_
  refine wp_block ?_
  refine wp_seq_k fun K10 hK10 => rgn ?_
  refine VlS (.int .i64 (t : Int)) ?_
  refine VlS (.int .i64 (t : Int)) ?_
  refine WL.nil (hK10 _ _ ?_)
  refine wp_seq_k fun K11 hK11 => ?_
  refine wp_seq_k fun K12 hK12 => rgn ?_
  refine VlS (vn) ?_
  refine VlS (.int .i64 (t : Int)) ?_
  refine WL.callF (by kernel_rfl) 31 _ _ rfl Tryd.in31 #[.int .i64 (t : Int)] (by simp [Act.eval]) ?_
  refine (name_any t (by omega) wr T_wr.out).mono ?_
  rintro e w2 ⟨rfl, hb1⟩
  refine ⟨_, rfl, ?_⟩
  have R2 := Keep.mk (JR.out.below hb1)
  clear hb1 T_wr K_wr D_wr N_wr JR
  have T_w2 : Keep (Tab w2) := ⟨HT.out.grown R2.out.gr (fun e => Hg0.out e.symm)⟩
  have K_w2 : Keep (Blk w2 d 75 #[ptr p]) := ⟨R2.out.gr.blk HDk.out fun e => by rw [e] at HDk; have := HDk.out.typ.one HJ.out.typ; revert this; decide⟩
  have D_w2 : Keep (DskAt w2 p vf cs D) := ⟨HD.out.grown R2.out.gr fun k hk e => by subst e; rcases hk with h | h | h <;> (have := h.one HJ.out.typ; revert this; decide)⟩
  have N_w2 : Keep (OwnS w2 vn (D.fs.map PF.nm)) := ⟨HVn.out.grown R2.out.gr fun k hk e => by subst e; have := (HVn.out.typ hk).one HJ.out.typ; revert this; decide⟩
  obtain ⟨nn, hnn⟩ : ∃ s, Keep (s = nmS t) := ⟨_, ⟨rfl⟩⟩
  rw [← hnn.out]
  simp only [Act.put, pqA, pqB, pqC]
  refine WL.callF (by kernel_rfl) 39 _ _ rfl Tryd.in39 #[vn, .string nn] (by simp [Act.eval]) ?_
  refine (contains_any vn _ nn w2 N_w2.out (by rw [List.length_map]; have := HOk.out.len; omega)).mono ?_
  rintro e w3 ⟨rfl, hw⟩
  refine ⟨_, rfl, ?_⟩
  obtain rfl : w2 = w3 := hw.symm
  clear hw
  obtain ⟨bb, hbb⟩ : ∃ s, Keep (s = Lib.containsS (D.fs.map PF.nm) nn) := ⟨_, ⟨rfl⟩⟩
  rw [← hbb.out]
  simp only [Act.put, pqA, pqB, pqC]
  by_cases h6_4 : bb = true
  ·obtain ⟨f, hf⟩ := (cont_lk D.fs nn).1 (by rw [← hbb.out]; exact h6_4)
   obtain ⟨i, hfi, hfn, hfd⟩ := fnd_is HOk.out.srt hf
   have HFt : Keep ((Fk D.fs) t = some f.bs) := ⟨by unfold Fk; rw [← hnn.out, hf]; rfl⟩
   have HFb : Keep (Byts f.bs ∧ f.bs.length ≤ 1000000000) := ⟨HOk.out.byt f (List.mem_of_getElem? hfi), by have h1 := usd_at hfi; have h2 := HOk.out.big; omega⟩
   have HFi := Keep.mk hfi
   have HFd : Keep (fnd (nmS t) D.fs 0 = (i, true)) := ⟨by rw [← hnn.out]; exact hfd⟩
   clear hf hfi hfn hfd hbb
   refine VlS (.bool false) ?_
   refine WL.nil (hK12 _ _ ?_)
   refine wp_cond_false rfl ?_
   refine wp_skip ?_
   refine hK11 _ _ ?_
   refine wp_seq_k fun K13 hK13 => rgn ?_
   refine VlS (.pointer (some ⟨g, 0, none⟩)) ?_
   refine VlS (.int .i64 (t : Int)) ?_
   refine WL.callF (by kernel_rfl) 40 _ _ rfl Tryd.in40 #[ptr g, .int .i64 (t : Int)] (by simp [Act.eval]) ?_
   refine (bytesOf_is g d p i t (by omega) vf cs D f w2 T_w2.out (R2.out.blk.c 0 rfl) K_w2.out D_w2.out HO.out HFd.out HFi.out (by rw [HD.out.fcs.len]; exact HOk.out.len) (by have := HFb.out; omega)).mono ?_
   rintro e w3 ⟨vb, rfl, h1, h2, h3⟩
   refine ⟨_, rfl, ?_⟩
   have OB := Keep.mk h1
   have R3 := Keep.mk (R2.out.below h3)
   clear h1 h2 h3 R2 T_w2 K_w2 D_w2 N_w2
   obtain ⟨ba, bc, hba⟩ := row_form OB.out.row
   subst hba
   simp only [Act.put, pqA, pqB, pqC]
   refine VlS (.tuple #[.slice ba f.bs.length bc, .int .i64 0]) ?_
   refine VlS (.slice ba f.bs.length bc) ?_
   refine VlS (.int .i64 0) ?_
   refine VlS (.slice ba f.bs.length bc) ?_
   refine VlS (.int .i64 0) ?_
   refine WL.nil (hK13 _ _ ?_)
   refine wp_seq_k fun K14 hK14 => ?_
   refine wp_seq_k fun K15 hK15 => rgn ?_
   refine VlS (.int .i64 0) ?_
   refine VlS (.bool false) ?_
   refine WL.nil (hK15 _ _ ?_)
   refine wp_cond_false rfl ?_
   refine wp_skip ?_
   refine hK14 _ _ ?_
   refine wp_seq_k fun K16 hK16 => rgn ?_
   refine VlS (.pointer (some ⟨g, 0, none⟩)) ?_
   refine VlS (.pointer (some ⟨g, 0, none⟩)) ?_
   refine VlS (.int .i64 (t : Int)) ?_
   refine VlS (.pointer (some ⟨g, 0, none⟩)) ?_
   refine VlS (.pointer (some ⟨g, 2, none⟩)) ?_
   have f_o := R3.out.blk.frozen 2
   have cl := R3.out.blk.c 2 (by rfl : (jA d vp V.pr V.sz false false)[2]? = some (.int .i64 V.pr))
   refine WL.cell (by kernel_rfl) (w3.setCell ⟨g, 2, none⟩ (.int .i64 (t : Int))) (by go_simp) ?_
   have R4 : Keep (RS w (w3.setCell ⟨g, 2, none⟩ (.int .i64 (t : Int))) g d vp (.slice la ln lc) { V with pr := (t : Int) }) := ⟨R3.out.cell rfl rfl rfl⟩
   have OB4 : Keep (Own (w3.setCell ⟨g, 2, none⟩ (.int .i64 (t : Int))) (.slice ba f.bs.length bc) f.bs) := ⟨OB.out.grown (Grown.setCell w3 g 2 _ (S := fun k => k = g) fun _ => rfl) fun k hk e => by subst e; have := (OB.out.typ hk).one R3.out.blk.typ; revert this; decide⟩
   clear f_o cl R3 OB
   generalize w3.setCell ⟨g, 2, none⟩ (.int .i64 (t : Int)) = w4 at *
   simp only [Act.put]
   refine VlS (.pointer (some ⟨g, 0, none⟩)) ?_
   refine VlS (.pointer (some ⟨g, 3, none⟩)) ?_
   have f_o := R4.out.blk.frozen 3
   have cl := R4.out.blk.c 3 (by rfl : (jA d vp (t : Int) V.sz false false)[3]? = some (.int .i64 V.sz))
   refine WL.cell (by kernel_rfl) (w4.setCell ⟨g, 3, none⟩ (.int .i64 0)) (by go_simp) ?_
   have R5 : Keep (RS w (w4.setCell ⟨g, 3, none⟩ (.int .i64 0)) g d vp (.slice la ln lc) { V with pr := (t : Int), sz := 0 }) := ⟨R4.out.cell rfl rfl rfl⟩
   have OB5 : Keep (Own (w4.setCell ⟨g, 3, none⟩ (.int .i64 0)) (.slice ba f.bs.length bc) f.bs) := ⟨OB4.out.grown (Grown.setCell w4 g 3 _ (S := fun k => k = g) fun _ => rfl) fun k hk e => by subst e; have := (OB4.out.typ hk).one R4.out.blk.typ; revert this; decide⟩
   clear f_o cl R4 OB4
   generalize w4.setCell ⟨g, 3, none⟩ (.int .i64 0) = w5 at *
   simp only [Act.put]
   refine WL.nil (hK16 _ _ ?_)
   refine wp_block ?_
   obtain ⟨lA, hlA⟩ : ∃ z, Keep (z = la) := ⟨_, ⟨rfl⟩⟩
   clear lA hlA
   refine wp_loop (fun ac wq => ∃ (fy : Nat → Value) (s : Nat) (la : Option Addr) (ln lc : Nat) (vp : Value) (P : List (List Int)), ac = { tmps := #[.pointer (some ⟨g, 0, none⟩), vn, undef, undef, fz 4, fz 5, fz 6, .slice la ln lc, .bool false, .int .i64 (t : Int), .slice ba f.bs.length bc, .int .i64 0, fy 12, .slice (some ⟨pg, 0, none⟩) 0 0, .int .i64 (t : Int), .bool true, .int .i64 (t : Int), vn, .int .i64 (t : Int), .string nn, .bool bb, .bool false, .tuple #[.slice ba f.bs.length bc, .int .i64 0], .pointer (some ⟨g, 0, none⟩), .int .i64 (t : Int), .tuple #[.slice ba f.bs.length bc, .int .i64 0], .slice ba f.bs.length bc, .int .i64 0, .int .i64 0, .bool false, fz 30, .pointer (some ⟨g, 0, none⟩), .pointer (some ⟨g, 0, none⟩), .int .i64 (t : Int), .pointer (some ⟨g, 0, none⟩), .pointer (some ⟨g, 2, none⟩), .pointer (some ⟨g, 0, none⟩), .pointer (some ⟨g, 3, none⟩), fy 38, fy 39, fy 40, fy 41, fy 42, fy 43, fy 44, fy 45, fy 46, fy 47, fy 48, fy 49, fy 50, fy 51, fy 52, fy 53, fy 54, fy 55, fy 56, fy 57, fy 58, fy 59, fy 60, fy 61, fy 62, fy 63, fy 64, fy 65, fy 66, fy 67, fy 68, fy 69, fy 70, fy 71, fy 72, fy 73, fy 74, fy 75, fy 76, fy 77, fy 78, fy 79, fy 80, fy 81, fy 82, fy 83, fz 84, undef, undef], defers := [] } ∧ s ≤ f.bs.length ∧ s = (frs P).length ∧ rdB f.bs = P ++ rdB (f.bs.drop s) ∧ Own wq (.slice ba f.bs.length bc) f.bs ∧ RS w wq g d vp (.slice la ln lc) ({ ps := V.ps ++ P, pl := V.pl ++ plc (t : Int) 0 P, pr := (t : Int), sz := (s : Int), torn := false } : JV)) (fun a wq => f.bs.length - szOf wq g) ⟨fun zz => [.pointer (some ⟨g, 0, none⟩), vn, undef, undef, fz 4, fz 5, fz 6, .slice la ln lc, .bool false, .int .i64 (t : Int), .slice ba f.bs.length bc, .int .i64 0, fz 12, .slice (some ⟨pg, 0, none⟩) 0 0, .int .i64 (t : Int), .bool true, .int .i64 (t : Int), vn, .int .i64 (t : Int), .string nn, .bool bb, .bool false, .tuple #[.slice ba f.bs.length bc, .int .i64 0], .pointer (some ⟨g, 0, none⟩), .int .i64 (t : Int), .tuple #[.slice ba f.bs.length bc, .int .i64 0], .slice ba f.bs.length bc, .int .i64 0, .int .i64 0, .bool false, fz 30, .pointer (some ⟨g, 0, none⟩), .pointer (some ⟨g, 0, none⟩), .int .i64 (t : Int), .pointer (some ⟨g, 0, none⟩), .pointer (some ⟨g, 2, none⟩), .pointer (some ⟨g, 0, none⟩), .pointer (some ⟨g, 3, none⟩), fz 38, fz 39, fz 40, fz 41, fz 42, fz 43, fz 44, fz 45, fz 46, fz 47, fz 48, fz 49, fz 50, fz 51, fz 52, fz 53, fz 54, fz 55, fz 56, fz 57, fz 58, fz 59, fz 60, fz 61, fz 62, fz 63, fz 64, fz 65, fz 66, fz 67, fz 68, fz 69, fz 70, fz 71, fz 72, fz 73, fz 74, fz 75, fz 76, fz 77, fz 78, fz 79, fz 80, fz 81, fz 82, fz 83, fz 84, undef, undef].getD zz undef, 0, la, ln, lc, vp, [], rfl, Nat.zero_le _, rfl, rfl, OB5.out, by have h := R5.out; rw [show ({ ps := V.ps ++ [], pl := V.pl ++ plc (t : Int) 0 [], pr := (t : Int), sz := ((0 : Nat) : Int), torn := false } : JV) = { V with pr := (t : Int), sz := 0 } by simp [plc, ← JV2.out]]; exact h⟩ ?_
   clear R5 OB5
   clear vp
   rintro ac wq ⟨fy, s, la, ln, lc, vp, P, rfl, hs, hp1, hp2, hO, hR⟩
   have IP1 := Keep.mk hp1
   have IP2 := Keep.mk hp2
   have IO := Keep.mk hO
   have IR := Keep.mk hR
   clear hp1 hp2 hO hR
   have c3 := IR.out.blk.c 3 (by rfl : (jA d vp (t : Int) (s : Int) false false)[3]? = some (.int .i64 (s : Int)))
   by_cases hsl : s < f.bs.length
   ·have hsl' : (s : Int) < (f.bs.length : Int) := by omega
    have HSl := Keep.mk hsl
    have IRb : Keep (Blk wq g 61 (jA d vp (t : Int) (s : Int) false false)) := ⟨IR.out.blk⟩
    have HPn : Keep ((V.pl ++ plc (t : Int) 0 P).length ≤ 1000000000000) := ⟨by rw [List.length_append, plc_len]; have h1 := JV4.out; have h2 := JV5.out; have h3 := frs_ge P; have h4 := IP1.out; have h5 := HFb.out.2; have h6 : t * 1000000000 ≤ 255 * 1000000000 := Nat.mul_le_mul_right _ (by omega); omega⟩
    have HLn : Keep ((V.ps ++ P).length ≤ 1000000000000) := ⟨by rw [List.length_append]; have h1 := JV4.out; have h3 := frs_ge P; have h4 := IP1.out; have h5 := HFb.out.2; have h6 : t * 1000000000 ≤ 255 * 1000000000 := Nat.mul_le_mul_right _ (by omega); omega⟩
    refine wp_seq_k fun K17 hK17 => ?_
    refine wp_seq_k fun K18 hK18 => rgn ?_
    refine VlS (.pointer (some ⟨g, 0, none⟩)) ?_
    refine VlS (.pointer (some ⟨g, 0, none⟩)) ?_
    refine VlS (.pointer (some ⟨g, 3, none⟩)) ?_
    refine VlS (.int .i64 (s : Int)) ?_
    refine VlS (.slice ba f.bs.length bc) ?_
    refine VlS (.int .i64 (f.bs.length : Int)) ?_
    refine VlS (.bool true) ?_
    refine WL.nil (hK18 _ _ ?_)
    refine wp_cond_true rfl ?_
    refine wp_skip ?_
    refine hK17 _ _ ?_
    refine wp_block ?_
    refine wp_seq_k fun K19 hK19 => ?_
    obtain ⟨vs, hs1, hs2⟩ := slB_lo (.slice ba f.bs.length bc) f.bs wq IO.out.row s hs
    have HS1 := Keep.mk hs1
    have HSa := Keep.mk hs2
    have HS2 : Keep (RowAt wq vs (f.bs.drop s)) := ⟨hs2 wq IO.out.row⟩
    have HBd : Keep (Byts (f.bs.drop s)) := ⟨fun c hc => HFb.out.1 c (List.mem_of_mem_drop hc)⟩
    clear hs1 hs2
    rcases hbg : bgn (f.bs.drop s) with _ | pp
    ·have q37 : ∀ (w : World) (a : Option Addr) (n c n' c' : Nat), (binOp .eql 37 (.slice a n c) (.slice none n' c')).run Tryd.prog w = .ok (.bool a.isNone) w := fun w a n c n' c' => Lib.run_eql_slice_nil w _ _ a n c n' c' Tryd.underlying37
     refine rgn ?_
     refine VlS (.slice ba f.bs.length bc) ?_
     refine VlS (.pointer (some ⟨g, 0, none⟩)) ?_
     refine VlS (.pointer (some ⟨g, 0, none⟩)) ?_
     refine VlS (.pointer (some ⟨g, 3, none⟩)) ?_
     refine VlS (.int .i64 (s : Int)) ?_
     refine WL.slLoB (by kernel_rfl) (.tmp 45) (.tmp 49) rfl (.slice ba f.bs.length bc) (.int .i64 (s : Int)) vs rfl rfl (HS1.out _) ?_
     simp only [Act.put, pqA, pqB, pqC]
     clear c3
     refine WL.callF (by kernel_rfl) 41 _ _ rfl Tryd.in41 #[vs] (by simp [Act.eval]) ?_
     refine (begun_none vs _ wq HS2.out HBd.out hbg).mono ?_
     rintro e w6 ⟨rfl, hb6⟩
     refine ⟨_, rfl, ?_⟩
     have R6 := Keep.mk (IR.out.below hb6)
     clear hb6 HS1 HS2 HBd HSa
     simp only [Act.put, pqA, pqB, pqC]
     refine VlS (.slice none 0 0) ?_
     refine WL.nil (hK19 _ _ ?_)
     refine wp_seq_k fun K20 hK20 => ?_
     refine wp_seq_k fun K21 hK21 => rgn ?_
     refine VlS (.slice none 0 0) ?_
     refine VlS (.bool true) ?_
     refine WL.nil (hK21 _ _ ?_)
     refine wp_cond_true rfl ?_
     refine wp_seq_k fun K22 hK22 => rgn ?_
     refine VlS (.bool true) ?_
     refine WL.nil (hK22 _ _ ?_)
     refine wp_exit ?_
     refine hK5 _ _ ?_
     refine wp_seq_k fun K23 hK23 => rgn ?_
     refine VlS (.slice la ln lc) ?_
     refine VlS (.bool true) ?_
     refine VlS (.slice la ln lc) ?_
     refine VlS (.bool true) ?_
     refine VlS (.int .i64 0) ?_
     refine WL.nil (hK23 _ _ ?_)
     refine wp_ret ?_
     try rw [Exit.noGoto_ret]
     go_ret3
     obtain ⟨h1, h2⟩ := rd_last IP1.out IP2.out hbg
     have hM : V.more t f.bs = { ps := V.ps ++ P, pl := V.pl ++ plc (t : Int) 0 P, pr := (t : Int), sz := (s : Int), torn := true } := by
      unfold JV.more
      rw [h1, h2, decide_eq_true HSl.out]
     have e : openV (Fk D.fs) = V.more t f.bs := by rw [JV3.out, rdJ_seg hlt HFt.out, if_pos (by rw [hM])]
     rw [e, hM]
     exact ⟨_, vp, rfl, ⟨R6.out.blk, R6.out.own, R6.out.new, R6.out.row, R6.out.gr⟩⟩
    ·have q37 : ∀ (w : World) (a : Option Addr) (n c n' c' : Nat), (binOp .eql 37 (.slice a n c) (.slice none n' c')).run Tryd.prog w = .ok (.bool a.isNone) w := fun w a n c n' c' => Lib.run_eql_slice_nil w _ _ a n c n' c' Tryd.underlying37
     refine rgn ?_
     refine VlS (.slice ba f.bs.length bc) ?_
     refine VlS (.pointer (some ⟨g, 0, none⟩)) ?_
     refine VlS (.pointer (some ⟨g, 0, none⟩)) ?_
     refine VlS (.pointer (some ⟨g, 3, none⟩)) ?_
     refine VlS (.int .i64 (s : Int)) ?_
     refine WL.slLoB (by kernel_rfl) (.tmp 45) (.tmp 49) rfl (.slice ba f.bs.length bc) (.int .i64 (s : Int)) vs rfl rfl (HS1.out _) ?_
     simp only [Act.put, pqA, pqB, pqC]
     clear c3
     refine WL.callF (by kernel_rfl) 41 _ _ rfl Tryd.in41 #[vs] (by simp [Act.eval]) ?_
     refine (begun_some vs _ pp wq HS2.out HBd.out hbg).mono ?_
     rintro e w6 ⟨q, qo, qc, rfl, hr6, hb6⟩
     refine ⟨_, rfl, ?_⟩
     have R6 := Keep.mk (IR.out.below hb6)
     have O6 : Keep (Own w6 (.slice ba f.bs.length bc) f.bs) := ⟨IO.out.grown (Grown.below (S := fun _ => False) hb6) fun _ _ h => h⟩
     have QA : Keep (∀ wx, RowAt wx (.slice ba f.bs.length bc) f.bs → RowAt wx (.slice (some ⟨q, qo, none⟩) pp.length qc) pp) := ⟨fun wx hx => hr6 wx (HSa.out wx hx)⟩
     have HPp : Keep (PayOk pp) := ⟨(bgn_some hbg).1⟩
     have HBg := Keep.mk hbg
     clear hb6 hr6 HS1 HS2 HBd HSa IR IO hbg
     simp only [Act.put, pqA, pqB, pqC]
     refine VlS (.slice (some ⟨q, qo, none⟩) pp.length qc) ?_
     refine WL.nil (hK19 _ _ ?_)
     refine wp_seq_k fun K24 hK24 => ?_
     refine wp_seq_k fun K25 hK25 => rgn ?_
     refine VlS (.slice (some ⟨q, qo, none⟩) pp.length qc) ?_
     refine VlS (.bool false) ?_
     refine WL.nil (hK25 _ _ ?_)
     refine wp_cond_false rfl ?_
     refine wp_skip ?_
     refine hK24 _ _ ?_
     refine wp_seq_k fun K26 hK26 => ?_
     have R7 : Keep (RS w w6.drew g d vp (.slice la ln lc) ({ ps := V.ps ++ P, pl := V.pl ++ plc (t : Int) 0 P, pr := (t : Int), sz := (s : Int), torn := false } : JV)) := ⟨R6.out.drew⟩
     have O7 : Keep (Own w6.drew (.slice ba f.bs.length bc) f.bs) := ⟨O6.out⟩
     clear R6 O6
     obtain ⟨pa, pc, hvp⟩ := R7.out.own.sl
     subst hvp
     obtain ⟨pn, hpn⟩ : ∃ z, Keep (z = (V.pl ++ plc (t : Int) 0 P).length) := ⟨_, ⟨rfl⟩⟩
     change Keep (RS w w6.drew g d (.slice pa (V.pl ++ plc (t : Int) 0 P).length pc) (.slice la ln lc) ({ ps := V.ps ++ P, pl := V.pl ++ plc (t : Int) 0 P, pr := (t : Int), sz := (s : Int), torn := false } : JV)) at R7
     rw [← hpn.out] at R7
     refine wp_region_held_drew (S := fun wx => wx.cell? ⟨g, 3, none⟩ = some (.int .i64 (s : Int))) (by kernel_rfl) (R7.out.blk.c 3 rfl) (fun hHeld => ?_)
     generalize w6.drew = w7 at *
     skip
     refine tkS (i := 0) (oi := ⟨some 54, Op.move (Operand.tmp 0), 22, _, _, none⟩) (v := .pointer (some ⟨g, 0, none⟩)) rfl (Or.inl ⟨by rfl, fun w hS => by go_simp⟩) hHeld ?_
     refine tkS (i := 1) (oi := ⟨some 55, Op.move (Operand.tmp 0), 22, _, _, none⟩) (v := .pointer (some ⟨g, 0, none⟩)) rfl (Or.inl ⟨by rfl, fun w hS => by go_simp⟩) hHeld ?_
     refine tkS (i := 2) (oi := ⟨some 56, Op.nilCheck (Operand.tmp 55), 0, _, _, none⟩) (v := .pointer (some ⟨g, 0, none⟩)) rfl (Or.inl ⟨by rfl, fun w hS => by go_simp⟩) hHeld ?_
     refine tkS (i := 3) (oi := ⟨some 57, Op.fieldAddr 61 (Operand.tmp 56) 1, 0, _, _, none⟩) (v := .pointer (some ⟨g, 1, none⟩)) rfl (Or.inl ⟨by rfl, fun w hS => by go_simp⟩) hHeld ?_
     refine tkS (i := 5) (oi := ⟨some 59, Op.move (Operand.tmp 9), 3, _, _, none⟩) (v := .int .i64 (t : Int)) rfl (Or.inl ⟨by rfl, fun w hS => by go_simp⟩) hHeld ?_
     refine tkS (i := 6) (oi := ⟨some 60, Op.move (Operand.tmp 0), 22, _, _, none⟩) (v := .pointer (some ⟨g, 0, none⟩)) rfl (Or.inl ⟨by rfl, fun w hS => by go_simp⟩) hHeld ?_
     refine tkS (i := 7) (oi := ⟨some 61, Op.nilCheck (Operand.tmp 60), 0, _, _, none⟩) (v := .pointer (some ⟨g, 0, none⟩)) rfl (Or.inl ⟨by rfl, fun w hS => by go_simp⟩) hHeld ?_
     refine tkS (i := 8) (oi := ⟨some 62, Op.fieldAddr 61 (Operand.tmp 61) 3, 0, _, _, none⟩) (v := .pointer (some ⟨g, 3, none⟩)) rfl (Or.inl ⟨by rfl, fun w hS => by go_simp⟩) hHeld ?_
     refine tkS (i := 9) (oi := ⟨some 63, Op.load 3 (Operand.tmp 62), 3, _, _, none⟩) (v := .int .i64 (s : Int)) rfl (Or.inl ⟨by rfl, fun w hS => by go_simp⟩) hHeld ?_
     refine tkS (i := 10) (oi := ⟨some 64, Op.build 79 #[(0, Operand.tmp 59), (1, Operand.tmp 63)], 79, _, _, none⟩) (v := .agg #[.int .i64 (t : Int), .int .i64 (s : Int)]) rfl (yieldsIf_bld (by rfl) 79 _ rfl #[(0, .int .i64 (t : Int)), (1, .int .i64 (s : Int))] (by simp [Act.eval]) (.agg #[.int .i64 (t : Int), .int .i64 (s : Int)]) (fun w => run_bldP _ _ w)) hHeld ?_
     refine wpAnyH_ready (rs := [4, 11]) (by kernel_rfl) (by simp) ?_
     refine AllReadyH.cons (o := ⟨some 58, Op.load 59 (Operand.tmp 57), 59, _, _, none⟩) rfl (fun K hK => ?_) (AllReadyH.cons (o := ⟨some 65, Op.buildSlice 59 1 #[(0, Operand.tmp 64)], 59, _, _, none⟩) rfl (fun K hK => ?_) AllReadyH.nil)
     rw [if_pos (by rfl)]
     have cl : w7.cell? ⟨g, 1, none⟩ = some (.slice pa pn pc) := R7.out.blk.c 1 rfl
     refine wp_val (.slice pa pn pc) (by go_simp) ?_
     clear cl
     refine hK _ _ (R7.out.blk.c 3 rfl) fun hL7 => ?_
     clear hK
     simp only [Act.put, pqA, pqB, pqC]
     refine wpAnyH_ready (rs := [11]) (by kernel_rfl) (by simp) ?_
     refine AllReadyH.cons (o := ⟨some 65, Op.buildSlice 59 1 #[(0, Operand.tmp 64)], 59, _, _, none⟩) rfl (fun K hK => ?_) AllReadyH.nil
     rw [if_pos (by rfl)]
     refine wp_bs 59 1 _ rfl #[(0, .agg #[.int .i64 (t : Int), .int .i64 (s : Int)])] (by simp [Act.eval]) _ _ (bsP (t : Int) (s : Int) w7) ?_
     have hbx := below_new w7 (.cells #[.int .i64 (t : Int), .int .i64 (s : Int)] 79)
     have H9 := Keep.mk (Blk.new w7 79 #[.int .i64 (t : Int), .int .i64 (s : Int)])
     have R9 := Keep.mk (R7.out.below hbx)
     have O9 : Keep (Own (w7.alloc (.cells #[.int .i64 (t : Int), .int .i64 (s : Int)] 79)) (.slice ba f.bs.length bc) f.bs) := ⟨O7.out.grown (Grown.below (S := fun _ => False) hbx) fun _ _ h => h⟩
     clear hbx
     generalize w7.alloc (.cells #[.int .i64 (t : Int), .int .i64 (s : Int)] 79) = w9 at *
     obtain ⟨g9, hg9⟩ : ∃ p, Keep (p = w7.heap.size) := ⟨_, ⟨rfl⟩⟩
     rw [← hg9.out] at H9 ⊢
     refine hK _ _ (R9.out.blk.c 3 rfl) fun hB9 => ?_
     clear hK
     simp only [Act.put, pqA, pqB, pqC]
     refine wpAnyH_ready (rs := [12]) (by kernel_rfl) (by simp) ?_
     refine AllReadyH.cons (o := ⟨some 66, Op.call { callee := Callee.builtin Builtin.append, args := #[Operand.tmp 58, Operand.tmp 65], argTypes := #[59, 59] }, 59, _, _, none⟩) rfl (fun K hK => ?_) AllReadyH.nil
     rw [if_pos (by rfl)]
     refine wp_appP (.tmp 58) (.tmp 65) rfl (.slice pa pn pc) (V.pl ++ plc (t : Int) 0 P) g9 1 ((t : Int), (s : Int)) rfl rfl R9.out.own H9.out (by have := HPn.out; have := hpn.out; omega) fun v10 w10 h1 h2 h3 => ?_
     obtain ⟨a10, n10, c10, e10⟩ : ∃ a n c, v10 = .slice a n c := by obtain ⟨a, c, e⟩ := h1.sl; exact ⟨_, _, _, e⟩
     subst e10
     have h4 := R9.out.place h1 h2 h3 HJ.out.lt
     have hj : Blk w10 g 61 (jA d (.slice pa pn pc) (t : Int) (s : Int) false false) := h2.blk R9.out.blk fun e => by have := (R9.out.own.typ e).one R9.out.blk.typ; revert this; decide
     have HJ10 := Keep.mk hj
     have R10 := Keep.mk h4
     have O10 : Keep (Own w10 (.slice ba f.bs.length bc) f.bs) := ⟨O9.out.grown h2 fun k hk e => by have := (O9.out.typ hk).one (R9.out.own.typ e); revert this; decide⟩
     clear h1 h2 h3 h4 hj
     refine hK _ _ (HJ10.out.c 3 rfl) fun hA10 => ?_
     clear hK
     simp only [Act.put, pqA, pqB, pqC]
     refine tkS (i := 13) (oi := ⟨some 67, Op.nilCheck (Operand.tmp 54), 0, _, _, none⟩) (v := .pointer (some ⟨g, 0, none⟩)) rfl (Or.inl ⟨by rfl, fun w hS => by go_simp⟩) hA10 ?_
     refine tkS (i := 14) (oi := ⟨some 68, Op.fieldAddr 61 (Operand.tmp 67) 1, 0, _, _, none⟩) (v := .pointer (some ⟨g, 1, none⟩)) rfl (Or.inl ⟨by rfl, fun w hS => by go_simp⟩) hA10 ?_
     refine wpAnyH_ready (rs := [15]) (by kernel_rfl) (by simp) ?_
     refine AllReadyH.cons (o := ⟨none, Op.store 59 (Operand.tmp 68) (Operand.tmp 66), 0, _, _, none⟩) rfl (fun K hK => ?_) AllReadyH.nil
     rw [if_pos (by rfl)]
     have f_o := HJ10.out.frozen 1
     have cl : w10.cell? ⟨g, 1, none⟩ = some (.slice pa pn pc) := HJ10.out.c 1 rfl
     refine wp_cellS (w10.setCell ⟨g, 1, none⟩ (.slice a10 n10 c10)) (by go_simp) ?_
     clear f_o cl
     have hgs : Grown w10 (w10.setCell ⟨g, 1, none⟩ (.slice a10 n10 c10)) fun k => k = g := Grown.setCell w10 g 1 _ fun _ => rfl
     have O11 : Keep (Own (w10.setCell ⟨g, 1, none⟩ (.slice a10 n10 c10)) (.slice ba f.bs.length bc) f.bs) := ⟨O10.out.grown hgs fun k hk e => by subst e; have := (O10.out.typ hk).one HJ10.out.typ; revert this; decide⟩
     clear hgs O10 HJ10 R7 O7 R9 O9 H9 hg9
     generalize (w10.setCell ⟨g, 1, none⟩ (.slice a10 n10 c10)) = w11 at *
     refine hK _ _ (R10.out.blk.c 3 rfl) fun hS11 => ?_
     clear hK
     simp only [Act.put, pqA, pqB, pqC]
     refine wpAnyH_done (by kernel_rfl) ?_ _
     rotate_left
     rw [if_pos (by rfl)]
     refine wp_bs 59 1 _ rfl #[(0, .agg #[.int .i64 (t : Int), .int .i64 (s : Int)])] (by simp [Act.eval]) _ _ (bsP (t : Int) (s : Int) w7) ?_
     have hbx := below_new w7 (.cells #[.int .i64 (t : Int), .int .i64 (s : Int)] 79)
     have H9 := Keep.mk (Blk.new w7 79 #[.int .i64 (t : Int), .int .i64 (s : Int)])
     have R9 := Keep.mk (R7.out.below hbx)
     have O9 : Keep (Own (w7.alloc (.cells #[.int .i64 (t : Int), .int .i64 (s : Int)] 79)) (.slice ba f.bs.length bc) f.bs) := ⟨O7.out.grown (Grown.below (S := fun _ => False) hbx) fun _ _ h => h⟩
     clear hbx
     generalize w7.alloc (.cells #[.int .i64 (t : Int), .int .i64 (s : Int)] 79) = w9 at *
     obtain ⟨g9, hg9⟩ : ∃ p, Keep (p = w7.heap.size) := ⟨_, ⟨rfl⟩⟩
     rw [← hg9.out] at H9 ⊢
     refine hK _ _ (R9.out.blk.c 3 rfl) fun hB9 => ?_
     clear hK
     simp only [Act.put, pqA, pqB, pqC]
     refine wpAnyH_ready (rs := [4]) (by kernel_rfl) (by simp) ?_
     refine AllReadyH.cons (o := ⟨some 58, Op.load 59 (Operand.tmp 57), 59, _, _, none⟩) rfl (fun K hK => ?_) AllReadyH.nil
     rw [if_pos (by rfl)]
     have cl : w9.cell? ⟨g, 1, none⟩ = some (.slice pa pn pc) := R9.out.blk.c 1 rfl
     refine wp_val (.slice pa pn pc) (by go_simp) ?_
     clear cl
     refine hK _ _ (R9.out.blk.c 3 rfl) fun hL9 => ?_
     clear hK
     simp only [Act.put, pqA, pqB, pqC]
     refine wpAnyH_ready (rs := [12]) (by kernel_rfl) (by simp) ?_
     refine AllReadyH.cons (o := ⟨some 66, Op.call { callee := Callee.builtin Builtin.append, args := #[Operand.tmp 58, Operand.tmp 65], argTypes := #[59, 59] }, 59, _, _, none⟩) rfl (fun K hK => ?_) AllReadyH.nil
     rw [if_pos (by rfl)]
     refine wp_appP (.tmp 58) (.tmp 65) rfl (.slice pa pn pc) (V.pl ++ plc (t : Int) 0 P) g9 1 ((t : Int), (s : Int)) rfl rfl R9.out.own H9.out (by have := HPn.out; have := hpn.out; omega) fun v10 w10 h1 h2 h3 => ?_
     obtain ⟨a10, n10, c10, e10⟩ : ∃ a n c, v10 = .slice a n c := by obtain ⟨a, c, e⟩ := h1.sl; exact ⟨_, _, _, e⟩
     subst e10
     have h4 := R9.out.place h1 h2 h3 HJ.out.lt
     have hj : Blk w10 g 61 (jA d (.slice pa pn pc) (t : Int) (s : Int) false false) := h2.blk R9.out.blk fun e => by have := (R9.out.own.typ e).one R9.out.blk.typ; revert this; decide
     have HJ10 := Keep.mk hj
     have R10 := Keep.mk h4
     have O10 : Keep (Own w10 (.slice ba f.bs.length bc) f.bs) := ⟨O9.out.grown h2 fun k hk e => by have := (O9.out.typ hk).one (R9.out.own.typ e); revert this; decide⟩
     clear h1 h2 h3 h4 hj
     refine hK _ _ (HJ10.out.c 3 rfl) fun hA10 => ?_
     clear hK
     simp only [Act.put, pqA, pqB, pqC]
     refine tkS (i := 13) (oi := ⟨some 67, Op.nilCheck (Operand.tmp 54), 0, _, _, none⟩) (v := .pointer (some ⟨g, 0, none⟩)) rfl (Or.inl ⟨by rfl, fun w hS => by go_simp⟩) hA10 ?_
     refine tkS (i := 14) (oi := ⟨some 68, Op.fieldAddr 61 (Operand.tmp 67) 1, 0, _, _, none⟩) (v := .pointer (some ⟨g, 1, none⟩)) rfl (Or.inl ⟨by rfl, fun w hS => by go_simp⟩) hA10 ?_
     refine wpAnyH_ready (rs := [15]) (by kernel_rfl) (by simp) ?_
     refine AllReadyH.cons (o := ⟨none, Op.store 59 (Operand.tmp 68) (Operand.tmp 66), 0, _, _, none⟩) rfl (fun K hK => ?_) AllReadyH.nil
     rw [if_pos (by rfl)]
     have f_o := HJ10.out.frozen 1
     have cl : w10.cell? ⟨g, 1, none⟩ = some (.slice pa pn pc) := HJ10.out.c 1 rfl
     refine wp_cellS (w10.setCell ⟨g, 1, none⟩ (.slice a10 n10 c10)) (by go_simp) ?_
     clear f_o cl
     have hgs : Grown w10 (w10.setCell ⟨g, 1, none⟩ (.slice a10 n10 c10)) fun k => k = g := Grown.setCell w10 g 1 _ fun _ => rfl
     have O11 : Keep (Own (w10.setCell ⟨g, 1, none⟩ (.slice a10 n10 c10)) (.slice ba f.bs.length bc) f.bs) := ⟨O10.out.grown hgs fun k hk e => by subst e; have := (O10.out.typ hk).one HJ10.out.typ; revert this; decide⟩
     clear hgs O10 HJ10 R7 O7 R9 O9 H9 hg9
     generalize (w10.setCell ⟨g, 1, none⟩ (.slice a10 n10 c10)) = w11 at *
     refine hK _ _ (R10.out.blk.c 3 rfl) fun hS11 => ?_
     clear hK
     simp only [Act.put, pqA, pqB, pqC]
     refine wpAnyH_done (by kernel_rfl) ?_ _
     rotate_left
     all_goals
      refine hK26 _ _ ?_
      refine wp_seq_k fun K28 hK28 => rgn ?_
      refine VlS (.slice la ln lc) ?_
      refine VlS (.slice (some ⟨q, qo, none⟩) pp.length qc) ?_
      have HPp1 := HPp.out
      refine WL.callF (by kernel_rfl) 42 _ _ rfl Tryd.in42 #[.slice (some ⟨q, qo, none⟩) pp.length qc] (by simp [Act.eval]) ?_
      refine (clone_row q qo qc pp w11 (QA.out w11 O11.out.row) (by have := HPp.out.1; omega) (by have := HPp.out.2; omega)).mono ?_
      rintro e w12 ⟨vc, rfl, h1, h2, h3⟩
      refine ⟨_, rfl, ?_⟩
      have R12 := Keep.mk (R10.out.below h3)
      have C12 := Keep.mk h1
      have CN : Keep (∀ k, vc.ownBlock = some k → w.heap.size ≤ k) := ⟨fun k hk => Nat.le_trans R10.out.gr.size (h2 k hk)⟩
      have O12 : Keep (Own w12 (.slice ba f.bs.length bc) f.bs) := ⟨O11.out.grown (Grown.below (S := fun _ => False) h3) fun _ _ h => h⟩
      clear h1 h2 h3 R10 O11 QA
      obtain ⟨ca, cn, cc, ec⟩ : ∃ a n c, vc = .slice a n c := by obtain ⟨a, c, e⟩ := row_form C12.out.row; exact ⟨_, _, _, e⟩
      subst ec
      simp only [Act.put, pqA, pqB, pqC]
      refine WL.bs (by kernel_rfl) 23 1 _ rfl #[(0, .slice ca cn cc)] (by simp [Act.eval]) _ _ (bsR1 ca cn cc w12) ?_
      have hbx := below_new w12 (.cells #[.slice ca cn cc] 37)
      have H13 := Keep.mk (Blk.new w12 37 #[.slice ca cn cc])
      have R13 := Keep.mk (R12.out.below hbx)
      have C13 : Keep (Own (w12.alloc (.cells #[.slice ca cn cc] 37)) (.slice ca cn cc) pp) := ⟨C12.out.grown (Grown.below (S := fun _ => False) hbx) fun _ _ h => h⟩
      have O13 : Keep (Own (w12.alloc (.cells #[.slice ca cn cc] 37)) (.slice ba f.bs.length bc) f.bs) := ⟨O12.out.grown (Grown.below (S := fun _ => False) hbx) fun _ _ h => h⟩
      clear hbx R12 C12 O12
      generalize w12.alloc (.cells #[.slice ca cn cc] 37) = w13 at *
      obtain ⟨g13, hg13⟩ : ∃ p, Keep (p = w12.heap.size) := ⟨_, ⟨rfl⟩⟩
      rw [← hg13.out] at H13 ⊢
      obtain ⟨rs, hl1, hl2, hl3, hl4⟩ := R13.out.row
      have L1 := Keep.mk hl1
      have L2 := Keep.mk hl2
      have L3 := Keep.mk hl3
      have L4 := Keep.mk hl4
      clear hl1 hl2 hl3 hl4
      simp only [Act.put, pqA, pqB, pqC]
      refine WL.appR (by kernel_rfl) (.tmp 69) (.tmp 72) rfl (.slice la ln lc) rs g13 (.slice ca cn cc) rfl rfl rfl L1.out H13.out (by have h1 : rs.length = (V.ps ++ P).length := L3.out; have h2 := HLn.out; omega) fun v14 w14 h1 h2 h3 => ?_
      have R14 := Keep.mk (R13.out.pay L1.out L3.out L4.out L2.out h1 h2 h3 C13.out CN.out)
      have O14 : Keep (Own w14 (.slice ba f.bs.length bc) f.bs) := ⟨O13.out.grown h2 fun k hk e => by have := (O13.out.typ hk).one (L1.out.typ e); revert this; decide⟩
      obtain ⟨a14, n14, c14, e14⟩ : ∃ a n c, v14 = .slice a n c := by obtain ⟨a, c, e⟩ := h1.sl; exact ⟨_, _, _, e⟩
      subst e14
      clear h1 h2 h3 L1 L2 L3 L4 R13 C13 O13 H13 hg13 CN
      have c3 := R14.out.blk.c 3 (by rfl : (jA d (.slice a10 n10 c10) (t : Int) (s : Int) false false)[3]? = some (.int .i64 (s : Int)))
      have f_o := R14.out.blk.frozen 3
      obtain ⟨s2, hs2⟩ : ∃ z : Nat, Keep (z = s + 16 + pp.length) := ⟨_, ⟨rfl⟩⟩
      have hw1 : IntKind.i64.wrap (16 + (pp.length : Int)) = 16 + (pp.length : Int) := by rw [IntKind.wrap_i64]; have := HPp.out.2; omega
      have hw2 : IntKind.i64.wrap ((s : Int) + (16 + (pp.length : Int))) = (s2 : Int) := by rw [IntKind.wrap_i64]; have := HPp.out.2; have := HFb.out.2; have := hs2.out; omega
      simp only [Act.put, pqA, pqB, pqC]
      refine VlS (.slice a14 n14 c14) ?_
      refine WL.nil (hK28 _ _ ?_)
      refine rgn ?_
      refine VlS (.pointer (some ⟨g, 0, none⟩)) ?_
      refine VlS (.pointer (some ⟨g, 0, none⟩)) ?_
      refine VlS (.pointer (some ⟨g, 3, none⟩)) ?_
      refine VlS (.int .i64 (s : Int)) ?_
      refine VlS (.slice (some ⟨q, qo, none⟩) pp.length qc) ?_
      refine VlS (.int .i64 (pp.length : Int)) ?_
      refine VlS (.int .i64 (16 + (pp.length : Int))) ?_
      refine VlS (.int .i64 (s2 : Int)) ?_
      refine VlS (.pointer (some ⟨g, 0, none⟩)) ?_
      refine VlS (.pointer (some ⟨g, 3, none⟩)) ?_
      refine WL.cell (by kernel_rfl) (w14.setCell ⟨g, 3, none⟩ (.int .i64 (s2 : Int))) (by go_simp) ?_
      have R15 : Keep (RS w (w14.setCell ⟨g, 3, none⟩ (.int .i64 (s2 : Int))) g d (.slice a10 n10 c10) (.slice a14 n14 c14) ({ ps := V.ps ++ (P ++ [pp]), pl := V.pl ++ plc (t : Int) 0 (P ++ [pp]), pr := (t : Int), sz := (s2 : Int), torn := false } : JV)) := ⟨R14.out.cell rfl (by show V.pl ++ plc (t : Int) 0 (P ++ [pp]) = (V.pl ++ plc (t : Int) 0 P) ++ [((t : Int), (s : Int))]; rw [plc_app, Int.zero_add, ← IP1.out, List.append_assoc]; rfl) (by show V.ps ++ (P ++ [pp]) = (V.ps ++ P) ++ [pp]; rw [List.append_assoc])⟩
      have O15 : Keep (Own (w14.setCell ⟨g, 3, none⟩ (.int .i64 (s2 : Int))) (.slice ba f.bs.length bc) f.bs) := ⟨O14.out.grown (Grown.setCell w14 g 3 _ (S := fun k => k = g) fun _ => rfl) fun k hk e => by subst e; have := (O14.out.typ hk).one R14.out.blk.typ; revert this; decide⟩
      clear f_o c3 R14 O14 hw1 hw2
      generalize (w14.setCell ⟨g, 3, none⟩ (.int .i64 (s2 : Int))) = w15 at *
      simp only [Act.put]
      refine WL.nil ?_
      obtain ⟨h1, h2, h3⟩ := rd_one IP1.out IP2.out HBg.out hs
      rw [← hs2.out] at h1 h2 h3
      refine ⟨⟨fun zz => [.pointer (some ⟨g, 0, none⟩), vn, undef, undef, fz 4, fz 5, fz 6, .slice a14 n14 c14, .bool false, .int .i64 (t : Int), .slice ba f.bs.length bc, .int .i64 0, .slice (some ⟨q, qo, none⟩) pp.length qc, .slice (some ⟨pg, 0, none⟩) 0 0, .int .i64 (t : Int), .bool true, .int .i64 (t : Int), vn, .int .i64 (t : Int), .string nn, .bool bb, .bool false, .tuple #[.slice ba f.bs.length bc, .int .i64 0], .pointer (some ⟨g, 0, none⟩), .int .i64 (t : Int), .tuple #[.slice ba f.bs.length bc, .int .i64 0], .slice ba f.bs.length bc, .int .i64 0, .int .i64 0, .bool false, fz 30, .pointer (some ⟨g, 0, none⟩), .pointer (some ⟨g, 0, none⟩), .int .i64 (t : Int), .pointer (some ⟨g, 0, none⟩), .pointer (some ⟨g, 2, none⟩), .pointer (some ⟨g, 0, none⟩), .pointer (some ⟨g, 3, none⟩), .pointer (some ⟨g, 0, none⟩), .pointer (some ⟨g, 0, none⟩), .pointer (some ⟨g, 3, none⟩), .int .i64 (s : Int), .slice ba f.bs.length bc, .int .i64 (f.bs.length : Int), .bool true, .slice ba f.bs.length bc, .pointer (some ⟨g, 0, none⟩), .pointer (some ⟨g, 0, none⟩), .pointer (some ⟨g, 3, none⟩), .int .i64 (s : Int), vs, .slice (some ⟨q, qo, none⟩) pp.length qc, .slice (some ⟨q, qo, none⟩) pp.length qc, .bool false, .pointer (some ⟨g, 0, none⟩), .pointer (some ⟨g, 0, none⟩), .pointer (some ⟨g, 0, none⟩), .pointer (some ⟨g, 1, none⟩), .slice pa pn pc, .int .i64 (t : Int), .pointer (some ⟨g, 0, none⟩), .pointer (some ⟨g, 0, none⟩), .pointer (some ⟨g, 3, none⟩), .int .i64 (s : Int), .agg #[.int .i64 (t : Int), .int .i64 (s : Int)], .slice (some ⟨g9, 0, none⟩) 1 1, .slice a10 n10 c10, .pointer (some ⟨g, 0, none⟩), .pointer (some ⟨g, 1, none⟩), .slice la ln lc, .slice (some ⟨q, qo, none⟩) pp.length qc, .slice ca cn cc, .slice (some ⟨g13, 0, none⟩) 1 1, .slice a14 n14 c14, .pointer (some ⟨g, 0, none⟩), .pointer (some ⟨g, 0, none⟩), .pointer (some ⟨g, 3, none⟩), .int .i64 (s : Int), .slice (some ⟨q, qo, none⟩) pp.length qc, .int .i64 (pp.length : Int), .int .i64 (16 + (pp.length : Int)), .int .i64 (s2 : Int), .pointer (some ⟨g, 0, none⟩), .pointer (some ⟨g, 3, none⟩), fz 84, undef, undef].getD zz undef, s2, a14, n14, c14, .slice a10 n10 c10, P ++ [pp], rfl, h3, h1, h2, O15.out, R15.out⟩, ?_⟩
      rw [szOf_blk R15.out.blk, szOf_blk IRb.out]
      have := hs2.out
      simp only [Int.toNat_natCast]
      omega
   ·have hsl' : ¬ (s : Int) < (f.bs.length : Int) := by omega
    refine wp_seq_k fun K28 hK28 => ?_
    refine wp_seq_k fun K29 hK29 => rgn ?_
    refine VlS (.pointer (some ⟨g, 0, none⟩)) ?_
    refine VlS (.pointer (some ⟨g, 0, none⟩)) ?_
    refine VlS (.pointer (some ⟨g, 3, none⟩)) ?_
    refine VlS (.int .i64 (s : Int)) ?_
    refine VlS (.slice ba f.bs.length bc) ?_
    refine VlS (.int .i64 (f.bs.length : Int)) ?_
    refine VlS (.bool false) ?_
    refine WL.nil (hK29 _ _ ?_)
    refine wp_cond_false rfl ?_
    refine wp_exit ?_
    refine hK9 _ _ ?_
    refine rgn ?_
    refine VlS (.int .i64 ((t : Int) + 1)) ?_
    refine VlS (.int .i64 ((t : Int) + 1)) ?_
    refine WL.nil ?_
    obtain ⟨h1, h2⟩ := rd_end IP1.out IP2.out (by omega)
    have hM : V.more t f.bs = ({ ps := V.ps ++ P, pl := V.pl ++ plc (t : Int) 0 P, pr := (t : Int), sz := (s : Int), torn := false } : JV) := by
     unfold JV.more
     rw [h1, h2, decide_eq_false (by omega)]
    refine ⟨⟨fun zz => [.pointer (some ⟨g, 0, none⟩), vn, undef, undef, fz 4, fz 5, fz 6, .slice la ln lc, .bool false, .int .i64 (t : Int), .slice ba f.bs.length bc, .int .i64 0, fy 12, .slice (some ⟨pg, 0, none⟩) 0 0, .int .i64 ((t : Int) + 1), .bool true, .int .i64 (t : Int), vn, .int .i64 (t : Int), .string nn, .bool bb, .bool false, .tuple #[.slice ba f.bs.length bc, .int .i64 0], .pointer (some ⟨g, 0, none⟩), .int .i64 (t : Int), .tuple #[.slice ba f.bs.length bc, .int .i64 0], .slice ba f.bs.length bc, .int .i64 0, .int .i64 0, .bool false, fz 30, .pointer (some ⟨g, 0, none⟩), .pointer (some ⟨g, 0, none⟩), .int .i64 (t : Int), .pointer (some ⟨g, 0, none⟩), .pointer (some ⟨g, 2, none⟩), .pointer (some ⟨g, 0, none⟩), .pointer (some ⟨g, 3, none⟩), .pointer (some ⟨g, 0, none⟩), .pointer (some ⟨g, 0, none⟩), .pointer (some ⟨g, 3, none⟩), .int .i64 (s : Int), .slice ba f.bs.length bc, .int .i64 (f.bs.length : Int), .bool false, fy 45, fy 46, fy 47, fy 48, fy 49, fy 50, fy 51, fy 52, fy 53, fy 54, fy 55, fy 56, fy 57, fy 58, fy 59, fy 60, fy 61, fy 62, fy 63, fy 64, fy 65, fy 66, fy 67, fy 68, fy 69, fy 70, fy 71, fy 72, fy 73, fy 74, fy 75, fy 76, fy 77, fy 78, fy 79, fy 80, fy 81, fy 82, fy 83, .int .i64 ((t : Int) + 1), undef, undef].getD zz undef, t + 1, la, ln, lc, vp, V.more t f.bs, rfl, by omega, ?_, by rw [hM], ?_, ?_, ?_, ?_⟩, ?_⟩
    ·rw [hM]; show (t : Int) = ((t + 1 : Nat) : Int) - 1; omega
    ·rw [JV3.out, rdJ_seg hlt HFt.out, if_neg (by rw [hM]; simp)]
    ·rw [hM]
     show (V.ps ++ P).length ≤ _
     rw [List.length_append, Nat.succ_mul]
     have e1 := JV4.out
     have e2 := frs_ge P
     have e3 := IP1.out
     have e4 := HFb.out.2
     omega
    ·rw [hM]
     show (V.pl ++ plc (t : Int) 0 P).length = (V.ps ++ P).length
     rw [List.length_append, List.length_append, plc_len, JV5.out]
    ·rw [hM]; exact IR.out
    ·simp only [intOf]; show 256 - ((t : Int) + 1).toNat < 256 - ((t : Int)).toNat; omega
  ·have HNo : Keep ((Fk D.fs) t = none) := ⟨by have h := (cont_lk D.fs nn).2 (by rw [← hbb.out]; exact h6_4); unfold Fk; rw [← hnn.out, h]; rfl⟩
   clear hbb
   refine VlS (.bool true) ?_
   refine WL.nil (hK12 _ _ ?_)
   refine wp_cond_true rfl ?_
   refine wp_exit ?_
   refine hK5 _ _ ?_
   refine wp_seq_k fun K30 hK30 => rgn ?_
   refine VlS (.slice la ln lc) ?_
   refine VlS (.bool false) ?_
   refine VlS (.slice la ln lc) ?_
   refine VlS (.bool false) ?_
   refine VlS (.int .i64 0) ?_
   refine WL.nil (hK30 _ _ ?_)
   refine wp_ret ?_
   try rw [Exit.noGoto_ret]
   go_ret3
   have e : openV (Fk D.fs) = V := by rw [JV3.out, rdJ_none HNo.out]
   rw [e, JV2.out]
   exact ⟨_, vp, rfl, R2.out⟩
 ·have hlt' : ¬ (t : Int) < 256 := by omega
  refine wp_seq_k fun K31 hK31 => rgn ?_
  refine VlS (.bool false) ?_
  refine WL.nil (hK31 _ _ ?_)
  refine wp_seq_k fun K32 hK32 => ?_
  refine wp_cond_false rfl ?_
  refine wp_exit ?_
  refine hK5 _ _ ?_
  refine wp_seq_k fun K33 hK33 => rgn ?_
  refine VlS (.slice la ln lc) ?_
  refine VlS (.bool false) ?_
  refine VlS (.slice la ln lc) ?_
  refine VlS (.bool false) ?_
  refine VlS (.int .i64 0) ?_
  refine WL.nil (hK33 _ _ ?_)
  refine wp_ret ?_
  try rw [Exit.noGoto_ret]
  go_ret3
  have e : openV (Fk D.fs) = V := by rw [JV3.out, show 256 - t = 0 by omega]; rfl
  rw [e, JV2.out]
  exact ⟨_, vp, rfl, JR.out⟩
def DskN (w : World) (d p : Nat) (D : DV) (N : Nat → Prop) : Prop := Blk w d 75 #[ptr p] ∧ ∃ vf cs, DskAt w p vf cs D ∧ ∀ k, DskS p vf cs k → N k
theorem DskAt.sLt {w : World} {p : Nat} {vf : Value} {cs : List FC} {D : DV} (h : DskAt w p vf cs D) {k : Nat} (hk : DskS p vf cs k) : k < w.heap.size := by
 rcases h.sTyp hk with h | h | h <;> exact h.lt
def JAt (w : World) (j d : Nat) (V : JV) (la de : Bool) (M : Nat → Prop) : Prop := M j ∧ ∃ vp, Blk w j 61 (jA d vp V.pr V.sz la de) ∧ OwnP w vp V.pl ∧ ∀ k, vp.ownBlock = some k → M k
theorem JAt.cell {w : World} {j d : Nat} {V : JV} {la de : Bool} {M : Nat → Prop} (h : JAt w j d V la de M) : ∃ a c, w.cell? ⟨j, 1, none⟩ = some (.slice a V.pl.length c) := by
 obtain ⟨h0, vp, h1, h2, h3⟩ := h
 obtain ⟨a, c, rfl⟩ := h2.sl
 exact ⟨a, c, h1.c 1 rfl⟩
def OpenPost (D : DV) (d p : Nat) (N : Nat → Prop) (w : World) (e : Ending) (w' : World) : Prop :=
  ∃ (ee : Int) (D' : DV) (B : Nat), MPost D D' ee (openV (Fk D.fs)) ∧ w.heap.size ≤ B ∧ B ≤ w'.heap.size ∧ DskN w' d p D' (fun k => (N k ∨ B ≤ k) ∧ k < w'.heap.size) ∧ Grown w w' N ∧
    ((ee = 0 ∧ ∃ j vl, e = .returned (.tuple #[ptr j, vl, .int .i64 0]) ∧ JAt w' j d (openV (Fk D.fs)) false false (fun k => w.heap.size ≤ k ∧ k < B) ∧ RwN w' vl (openV (Fk D.fs)).ps fun k => w.heap.size ≤ k ∧ k < B) ∨
     (ee = 7 ∧ e = .returned (.tuple #[.pointer none, .slice none 0 0, .int .i64 7])))
set_option maxRecDepth 8000 in
set_option maxHeartbeats 4000000 in
theorem open_any (d p : Nat) (D : DV) (N : Nat → Prop) (w : World) (hT : Tab w) (hDN : DskN w d p D N) (hN0 : ¬ N 0) (hNd : ¬ N d) (hNl : ∀ k, N k → k < w.heap.size) (hOk : DOk D) (hO : D.out = false) (hA : D.acts ≤ 4611686018427380000) :
  Calls Tryd.prog 7 #[ptr d] w (OpenPost D d p N w) := by
 obtain ⟨hDk, vf, cs, hD, hN⟩ := hDN
 have HT := Keep.mk hT
 have HDk := Keep.mk hDk
 have HD := Keep.mk hD
 have HN := Keep.mk hN
 have HN0 := Keep.mk hN0
 have HNd := Keep.mk hNd
 have HNl := Keep.mk hNl
 have HOk := Keep.mk hOk
 have HO := Keep.mk hO
 have HA := Keep.mk hA
 have HZ : Keep (0 < w.heap.size) := ⟨Nat.lt_of_le_of_lt (Nat.zero_le _) hDk.lt⟩
 clear hT hDk hD hN hN0 hNd hNl hOk hO hA
 go_enter Tryd.func7, Tryd.ntmps7
 refine wp_seq_k fun K1 hK1 => rgn ?_
 refine VlS (.pointer none) ?_
 refine VlS (.slice none 0 0) ?_
 refine VlS (.int .i64 0) ?_
 refine WL.nil (hK1 _ _ ?_)
 refine wp_seq_k fun K2 hK2 => ?_
 refine wp_seq_k fun K3 hK3 => rgn ?_
 refine VlS (.pointer (some ⟨d, 0, none⟩)) ?_
 refine VlS (.bool false) ?_
 refine WL.nil (hK3 _ _ ?_)
 refine wp_cond_false rfl ?_
 refine wp_skip ?_
 refine hK2 _ _ ?_
 refine wp_seq_k fun K4 hK4 => rgn ?_
 refine VlS (.pointer (some ⟨d, 0, none⟩)) ?_
 refine WL.callF (by kernel_rfl) 21 _ _ rfl Tryd.in21 #[.pointer (some ⟨d, 0, none⟩)] (by simp [Act.eval]) ?_
 refine (names_any d p vf cs D w HDk.out HD.out HO.out (by rw [HD.out.fcs.len]; have := HOk.out.len; omega)).mono ?_
 rintro e w1 ⟨vn, rfl, h1, h2, hb1⟩
 refine ⟨_, rfl, ?_⟩
 have B1 := Keep.mk hb1
 have HVn := Keep.mk h1
 have HVw := Keep.mk h2
 clear hb1 h1 h2
 simp only [Act.put, pqA, pqB, pqC]
 refine VlS (.tuple #[vn, .int .i64 0]) ?_
 refine VlS (vn) ?_
 refine VlS (.int .i64 0) ?_
 refine VlS (vn) ?_
 refine VlS (.int .i64 0) ?_
 refine WL.nil (hK4 _ _ ?_)
 refine wp_seq_k fun K5 hK5 => ?_
 refine wp_seq_k fun K6 hK6 => rgn ?_
 refine VlS (.int .i64 0) ?_
 refine VlS (.bool false) ?_
 refine WL.nil (hK6 _ _ ?_)
 refine wp_cond_false rfl ?_
 refine wp_skip ?_
 refine hK5 _ _ ?_
 refine wp_seq_k fun K7 hK7 => rgn ?_
 refine VlS (.pointer (some ⟨d, 0, none⟩)) ?_
 refine WL.bld (by kernel_rfl) 61 _ rfl [(0, ptr d), (2, .int .i64 (-1))] (by simp [Act.eval]) _ (j_built _) ?_
 simp only [Act.put, pqA, pqB, pqC]
 refine WL.box (by kernel_rfl) 61 (.tmp 22) rfl _ rfl ?_
 have HJ := Keep.mk (Blk.new w1 61 (jA d (.slice none 0 0) (-1) 0 false false))
 have hbx := below_new w1 (.cells (jA d (.slice none 0 0) (-1) 0 false false) 61)
 have B2 : Keep (Below w.heap.size w (w1.alloc (.cells (jA d (.slice none 0 0) (-1) 0 false false) 61))) := ⟨B1.out.trans (hbx.mono B1.out.size)⟩
 have HVn2 := Keep.mk (HVn.out.below hbx)
 clear hbx HVn
 generalize w1.alloc (.cells (jA d (.slice none 0 0) (-1) 0 false false) 61) = w2 at *
 obtain ⟨g, hg⟩ : ∃ p, Keep (p = w1.heap.size) := ⟨_, ⟨rfl⟩⟩
 rw [← hg.out] at HJ ⊢
 have hlt2 : Keep (g < w2.heap.size ∧ w.heap.size ≤ g) := ⟨HJ.out.lt, by rw [hg.out]; exact B1.out.size⟩
 simp only [Act.put, pqA, pqB, pqC]
 refine VlS (.pointer (some ⟨g, 0, none⟩)) ?_
 refine WL.nil (hK7 _ _ ?_)
 refine wp_seq_k fun K8 hK8 => rgn ?_
 refine VlS (.pointer (some ⟨g, 0, none⟩)) ?_
 refine VlS (vn) ?_
 refine WL.callF (by kernel_rfl) 22 _ _ rfl Tryd.in22 #[ptr g, vn] (by simp [Act.eval]) ?_
 refine (read_any g d p vn vf cs D w2 (HT.out.below B2.out HZ.out) (by have := hlt2.out; have := HZ.out; omega) HJ.out (HDk.out.below B2.out HDk.out.lt) (HD.out.below B2.out) HOk.out HO.out HVn2.out).mono ?_
 rintro e w3 ⟨vl, vp, rfl, hR⟩
 refine ⟨_, rfl, ?_⟩
 have R3 := Keep.mk hR
 clear hR
 obtain ⟨tn, htn⟩ : ∃ z, Keep (z = (openV (Fk D.fs)).torn) := ⟨_, ⟨rfl⟩⟩
 rw [← htn.out]
 have GW3 : Keep (Grown w w3 fun _ => False) := ⟨(Grown.below B2.out).next R3.out.gr fun k hk e => by have := hlt2.out; omega⟩
 obtain ⟨xa, xc, hvl⟩ := R3.out.row.form
 subst hvl
 obtain ⟨xn, hxn⟩ : ∃ z, Keep (z = (openV (Fk D.fs)).ps.length) := ⟨_, ⟨rfl⟩⟩
 rw [← hxn.out] at R3 ⊢
 simp only [Act.put, pqA, pqB, pqC]
 refine VlS (.tuple #[.slice xa xn xc, .bool tn, .int .i64 0]) ?_
 refine VlS (.slice xa xn xc) ?_
 refine VlS (.bool tn) ?_
 refine VlS (.int .i64 0) ?_
 refine VlS (.slice xa xn xc) ?_
 refine VlS (.bool tn) ?_
 refine VlS (.int .i64 0) ?_
 refine WL.nil (hK8 _ _ ?_)
 refine wp_seq_k fun K9 hK9 => ?_
 refine wp_seq_k fun K10 hK10 => rgn ?_
 refine VlS (.int .i64 0) ?_
 refine VlS (.bool false) ?_
 refine WL.nil (hK10 _ _ ?_)
 refine wp_cond_false rfl ?_
 refine wp_skip ?_
 refine hK9 _ _ ?_
 refine wp_seq_k fun K11 hK11 => ?_
 refine wp_seq_k fun K12 hK12 => rgn ?_
 refine VlS (.pointer (some ⟨g, 0, none⟩)) ?_
 refine VlS (vn) ?_
 refine VlS (.bool tn) ?_
 refine WL.callF (by kernel_rfl) 23 _ _ rfl Tryd.in23 #[ptr g, vn, .bool tn] (by simp [Act.eval]) ?_
 refine (mend_any g d p vn vf vp cs D (openV (Fk D.fs)) tn false false N w3 (HT.out.grown GW3.out (fun h => h)) R3.out.blk (GW3.out.blk HDk.out fun h => h) (HD.out.grown GW3.out fun _ _ h => h) HN.out ⟨HN0.out, fun h => by have := HNl.out g h; have := hlt2.out; omega, HNd.out, fun k hk h => by have h1 := HNl.out k h; have h2 := HVw.out k hk; omega⟩ HOk.out HO.out HA.out (HVn2.out.grown R3.out.gr fun k hk e => by subst e; have := (HVn2.out.typ hk).one HJ.out.typ; revert this; decide) rfl htn.out.symm).mono ?_
 rintro e w4 ⟨ee, D', vf4, cs4, rfl, h1, h2, h3, h4⟩
 refine ⟨_, rfl, ?_⟩
 have MP := Keep.mk h1
 have D4 := Keep.mk h2
 have N4 := Keep.mk h3
 have G4 := Keep.mk h4
 clear h1 h2 h3 h4
 simp only [Act.put, pqA, pqB, pqC]
 refine VlS (.int .i64 ee) ?_
 refine WL.nil (hK12 _ _ ?_)
 refine wp_seq_k fun K13 hK13 => ?_
 rcases MP.out.ans with ⟨he, ho, hm⟩ | ⟨he, ho, hm⟩
 ·subst he
  refine rgn ?_
  refine VlS (.int .i64 0) ?_
  refine VlS (.bool false) ?_
  refine WL.nil (hK13 _ _ ?_)
  refine wp_cond_false rfl ?_
  refine wp_skip ?_
  refine hK11 _ _ ?_
  refine wp_seq_k fun K14 hK14 => rgn ?_
  refine VlS (.pointer (some ⟨g, 0, none⟩)) ?_
  refine VlS (.slice xa xn xc) ?_
  refine VlS (.pointer (some ⟨g, 0, none⟩)) ?_
  refine VlS (.slice xa xn xc) ?_
  refine VlS (.int .i64 0) ?_
  refine WL.nil (hK14 _ _ ?_)
  refine wp_ret ?_
  go_ret3
  have hs3 : w.heap.size ≤ w3.heap.size := GW3.out.size
  have hs4 : w3.heap.size ≤ w4.heap.size := G4.out.size
  have hGW : Grown w w4 N := (GW3.out.mono fun k _ h => h.elim).next G4.out fun k _ h => h
  have hDN : DskN w4 d p D' (fun k => (N k ∨ w3.heap.size ≤ k) ∧ k < w4.heap.size) := ⟨hGW.blk HDk.out HNd.out, vf4, cs4, D4.out, fun k hk => ⟨N4.out k hk, D4.out.sLt hk⟩⟩
  refine ⟨0, D', w3.heap.size, MP.out, hs3, hs4, hDN, hGW, .inl ⟨rfl, g, .slice xa xn xc, rfl, ?_, ?_⟩⟩
  ·refine ⟨⟨hlt2.out.2, Nat.lt_of_lt_of_le hlt2.out.1 R3.out.gr.size⟩, vp, G4.out.blk R3.out.blk fun h => by have := HNl.out g h; have := hlt2.out; omega, R3.out.own.grown G4.out fun k hk h => by have h1 := HNl.out k h; have h2 := R3.out.new k hk; have h3 := B2.out.size; omega, fun k hk => ⟨Nat.le_trans B2.out.size (R3.out.new k hk), (R3.out.own.typ hk).lt⟩⟩
  ·have h := R3.out.row.rwn.grown G4.out fun k hk h1 h2 => by have h3 := HNl.out k h2; have h4 := B2.out.size; omega
   exact h.mono (fun k _ h1 => ⟨Nat.le_trans B2.out.size h1.1, h1.2⟩) fun i _ x k _ _ h1 => ⟨Nat.le_trans B2.out.size h1.1, h1.2⟩
 ·subst he
  refine rgn ?_
  refine VlS (.int .i64 7) ?_
  refine VlS (.bool true) ?_
  refine WL.nil (hK13 _ _ ?_)
  refine wp_cond_true rfl ?_
  refine wp_seq_k fun K15 hK15 => rgn ?_
  refine VlS (.int .i64 7) ?_
  refine VlS (.pointer none) ?_
  refine VlS (.slice none 0 0) ?_
  refine VlS (.int .i64 7) ?_
  refine WL.nil (hK15 _ _ ?_)
  refine wp_ret ?_
  go_ret3
  have hs3 : w.heap.size ≤ w3.heap.size := GW3.out.size
  have hs4 : w3.heap.size ≤ w4.heap.size := G4.out.size
  have hGW : Grown w w4 N := (GW3.out.mono fun k _ h => h.elim).next G4.out fun k _ h => h
  have hDN : DskN w4 d p D' (fun k => (N k ∨ w3.heap.size ≤ k) ∧ k < w4.heap.size) := ⟨hGW.blk HDk.out HNd.out, vf4, cs4, D4.out, fun k hk => ⟨N4.out k hk, D4.out.sLt hk⟩⟩
  exact ⟨7, D', w3.heap.size, MP.out, hs3, hs4, hDN, hGW, .inr ⟨rfl, rfl⟩⟩
theorem dec_range (u : Nat) : ∀ c ∈ Lib.decDigits u, 48 ≤ c.toNat ∧ c.toNat ≤ 57 := by
 induction u using Nat.strongRecOn with
 | ind u ih =>
  intro c hc
  rw [Lib.decDigits] at hc
  split at hc
  ·rename_i h
   rw [List.mem_singleton.1 hc]
   have : (UInt8.ofNat (48 + u)).toNat = 48 + u := by simp; omega
   omega
  ·rename_i h
   rcases List.mem_append.1 hc with hc | hc
   ·exact ih (u / 10) (by omega) c hc
   ·rw [List.mem_singleton.1 hc]
    have : (UInt8.ofNat (48 + u % 10)).toNat = 48 + u % 10 := by simp; omega
    omega
theorem rep_range : ∀ (k : Nat), ∀ c ∈ Lib.repeatL [48] k, c.toNat = 48
 | 0, c, h => by simp [Lib.repeatL] at h
 | k + 1, c, h => by
  rw [Lib.repeatL] at h
  rcases List.mem_append.1 h with h | h
  ·rw [List.mem_singleton.1 h]; rfl
  ·exact rep_range k c h
theorem nm_rgt {k : Nat} (hk : k < 10000) : rgt (nmS k) = true := by
 have hl := nmS_list k
 have hd := dig_len hk
 have hsz : (nmS k).size = 5 := by
  show (nmS k).data.size = 5
  rw [← Array.length_toList, hl, List.length_cons, List.length_append, Lib.repeatL_length]
  simp
  omega
 unfold rgt
 rw [hsz]
 have hal : (lst (nmS k)).all okC = true := by
  rw [List.all_eq_true]
  intro c hc
  have hc' : ∃ b ∈ (nmS k).data.toList, c = (b.toNat : Int) := by
   unfold lst at hc
   simp only [List.mem_map] at hc
   obtain ⟨b, hb, e⟩ := hc
   exact ⟨b, by simpa using hb, e.symm⟩
  obtain ⟨b, hb, rfl⟩ := hc'
  rw [hl] at hb
  unfold okC
  rcases List.mem_cons.1 hb with rfl | hb
  ·decide
  ·rcases List.mem_append.1 hb with hb | hb
   ·rw [rep_range _ b hb]; decide
   ·have := dec_range k b hb
    have h1 : (48 : Int) ≤ (b.toNat : Int) := by omega
    have h2 : (b.toNat : Int) ≤ 57 := by omega
    simp [h1, h2]
 rw [hal]
 decide
set_option maxRecDepth 8000 in
theorem told_dead (g d : Nat) (vp : Value) (pr sz : Int) (la de : Bool) (w : World) (hJ : Blk w g 61 (jA d vp pr sz la de)) : Calls Tryd.prog 29 #[ptr g, .int .i64 7] w fun r w' => r = .returned (.int .i64 7) ∧ Blk w' g 61 (jA d vp pr sz la true) ∧ Grown w w' fun k => k = g := by
 have HJ := Keep.mk hJ
 clear hJ
 go_enter Tryd.func29, Tryd.ntmps29
 refine wp_seq_k fun K1 hK1 => rgn ?_
 refine VlS (.int .i64 0) ?_
 refine WL.nil (hK1 _ _ ?_)
 refine wp_seq_k fun K2 hK2 => ?_
 refine wp_seq_k fun K3 hK3 => rgn ?_
 refine VlS (.int .i64 7) ?_
 refine VlS (.bool true) ?_
 refine WL.nil (hK3 _ _ ?_)
 refine wp_cond_true rfl ?_
 refine rgn ?_
 refine VlS (.pointer (some ⟨g, 0, none⟩)) ?_
 refine VlS (.pointer (some ⟨g, 0, none⟩)) ?_
 refine VlS (.pointer (some ⟨g, 5, none⟩)) ?_
 have f_o := HJ.out.frozen 5
 have cl := HJ.out.c 5 (by rfl : (jA d vp pr sz la de)[5]? = some (.bool de))
 refine WL.cell (by kernel_rfl) (w.setCell ⟨g, 5, none⟩ (.bool true)) (by go_simp) ?_
 have J1 : Keep (Blk (w.setCell ⟨g, 5, none⟩ (.bool true)) g 61 (jA d vp pr sz la true)) := ⟨HJ.out.set 5 (.bool true)⟩
 have G1 : Keep (Grown w (w.setCell ⟨g, 5, none⟩ (.bool true)) fun k => k = g) := ⟨Grown.setCell w g 5 _ fun _ => rfl⟩
 clear f_o cl
 generalize w.setCell ⟨g, 5, none⟩ (.bool true) = w1 at *
 simp only [Act.put]
 refine WL.nil (hK2 _ _ ?_)
 refine wp_seq_k fun K4 hK4 => rgn ?_
 refine VlS (.int .i64 7) ?_
 refine VlS (.int .i64 7) ?_
 refine WL.nil (hK4 _ _ ?_)
 refine wp_ret ?_
 go_ret
 exact ⟨rfl, J1.out, G1.out⟩
theorem pl_built1 (a : Int) : Tryd.prog.built 79 [(0, .int .i64 a)] = some #[.int .i64 a, .int .i64 0] := by kernel_rfl
set_option maxRecDepth 8000 in
theorem next_any (g d m : Nat) (vp : Value) (sz n : Int) (la de : Bool) (w : World) (hJ : Blk w g 61 (jA d vp (m : Int) sz la de)) (hB : m < 10000 ∧ 0 ≤ sz ∧ sz ≤ 1000000000 ∧ 0 ≤ n ∧ n ≤ 1000000000) : Calls Tryd.prog 44 #[ptr g, .int .i64 n] w fun r w' => r = .returned (.agg (if 0 < sz ∧ 65536 < sz + n then #[.int .i64 ((m : Int) + 1), .int .i64 0] else #[.int .i64 (m : Int), .int .i64 sz])) ∧ Below w.heap.size w w' := by
 have HJ := Keep.mk hJ
 have HB := Keep.mk hB
 clear hJ hB
 go_enter Tryd.func44, Tryd.ntmps44
 refine wp_seq_k fun K1 hK1 => rgn ?_
 refine WL.new (by kernel_rfl) 79 rfl _ Tryd.newPl ?_
 have HP := Keep.mk (Blk.new w 79 #[.int .i64 0, .int .i64 0])
 have B1 := Keep.mk (below_new w (.cells #[.int .i64 0, .int .i64 0] 79))
 generalize w.alloc (.cells #[.int .i64 0, .int .i64 0] 79) = w1 at *
 obtain ⟨q, hq⟩ : ∃ p, Keep (p = w.heap.size) := ⟨_, ⟨rfl⟩⟩
 rw [← hq.out] at HP ⊢
 have J1 := Keep.mk (HJ.out.below B1.out HJ.out.lt)
 have c2 := J1.out.c 2 (by rfl : (jA d vp (m : Int) sz la de)[2]? = some (.int .i64 (m : Int)))
 have c3 := J1.out.c 3 (by rfl : (jA d vp (m : Int) sz la de)[3]? = some (.int .i64 sz))
 have hm1 : ¬ (m : Int) = -1 := by omega
 have hw1 : IntKind.i64.wrap (sz + n) = sz + n := by rw [IntKind.wrap_i64]; have := HB.out; omega
 have hw2 : IntKind.i64.wrap ((m : Int) + 1) = (m : Int) + 1 := by rw [IntKind.wrap_i64]; have := HB.out; omega
 simp only [Act.put, pqA, pqB, pqC]
 refine WL.nil (hK1 _ _ ?_)
 refine wp_seq_k fun K2 hK2 => ?_
 refine wp_seq_k fun K3 hK3 => rgn ?_
 refine VlS (.pointer (some ⟨g, 0, none⟩)) ?_
 refine VlS (.pointer (some ⟨g, 0, none⟩)) ?_
 refine VlS (.pointer (some ⟨g, 2, none⟩)) ?_
 refine VlS (.int .i64 (m : Int)) ?_
 refine VlS (.bool false) ?_
 refine VlS (.bool false) ?_
 refine VlS (.pointer (some ⟨g, 0, none⟩)) ?_
 refine VlS (.pointer (some ⟨g, 0, none⟩)) ?_
 refine VlS (.pointer (some ⟨g, 3, none⟩)) ?_
 refine VlS (.int .i64 sz) ?_
 by_cases h1_10 : (0 : Int) < sz
 ·skip
  refine VlS (.bool true) ?_
  refine VlS (.bool true) ?_
  refine VlS (.pointer (some ⟨g, 0, none⟩)) ?_
  refine VlS (.pointer (some ⟨g, 0, none⟩)) ?_
  refine VlS (.pointer (some ⟨g, 3, none⟩)) ?_
  refine VlS (.int .i64 sz) ?_
  refine VlS (.int .i64 n) ?_
  refine VlS (.int .i64 (sz + n)) ?_
  by_cases h1_18 : (65536 : Int) < sz + n
  ·skip
   refine VlS (.bool true) ?_
   refine VlS (.bool true) ?_
   refine VlS (.bool true) ?_
   refine WL.nil (hK3 _ _ ?_)
   refine wp_cond_true rfl ?_
   refine wp_seq_k fun K4 hK4 => rgn ?_
   refine VlS (.pointer (some ⟨g, 0, none⟩)) ?_
   refine VlS (.pointer (some ⟨g, 0, none⟩)) ?_
   refine VlS (.pointer (some ⟨g, 2, none⟩)) ?_
   refine VlS (.int .i64 (m : Int)) ?_
   refine VlS (.int .i64 ((m : Int) + 1)) ?_
   refine WL.bld (by kernel_rfl) 79 _ rfl [(0, .int .i64 ((m : Int) + 1))] (by simp [Act.eval]) #[.int .i64 ((m : Int) + 1), .int .i64 0] (pl_built1 _) ?_
   simp only [Act.put, pqA, pqB, pqC]
   refine WL.storeR (by kernel_rfl) 79 (.tmp 4) (.tmp 31) rfl q #[.int .i64 ((m : Int) + 1), .int .i64 0] rfl rfl 79 #[.int .i64 0, .int .i64 0] HP.out (by kernel_rfl) rfl (by kernel_rfl) ?_
   have HP2 := Keep.mk (HP.out.setRow #[.int .i64 ((m : Int) + 1), .int .i64 0])
   have B2 : Keep (Below w.heap.size w (w1.setRow q #[.int .i64 ((m : Int) + 1), .int .i64 0])) := ⟨below_setRow B1.out (by rw [hq.out]; exact Nat.le_refl _) _⟩
   clear HP
   generalize w1.setRow q #[.int .i64 ((m : Int) + 1), .int .i64 0] = w2 at *
   simp only [Act.put]
   refine WL.nil (hK4 _ _ ?_)
   refine wp_ret ?_
   try simp only [Exit.inBlock, Exit.then]
   refine bodyPost_ret (v := .agg #[.int .i64 ((m : Int) + 1), .int .i64 0]) (results_cell1_row Tryd.results44 _ _ q 79 _ (0, 0) _ rfl HP2.out Tryd.underlying79 rfl (by kernel_rfl)) rfl ?_
   refine ⟨?_, B2.out⟩
   rw [if_pos ⟨by omega, by omega⟩]
  ·skip
   refine VlS (.bool false) ?_
   refine VlS (.bool false) ?_
   refine VlS (.bool false) ?_
   refine WL.nil (hK3 _ _ ?_)
   refine wp_cond_false rfl ?_
   refine wp_skip ?_
   refine hK2 _ _ ?_
   refine wp_seq_k fun K5 hK5 => ?_
   have J2 : Keep (Blk w1.drew g 61 (jA d vp (m : Int) sz la de)) := ⟨J1.out.drew⟩
   have HP0 : Keep (Blk w1.drew q 79 #[.int .i64 0, .int .i64 0]) := ⟨HP.out.drew⟩
   have B10 : Keep (Below w.heap.size w w1.drew) := ⟨B1.out.drew⟩
   clear J1 HP B1 c2 c3
   refine wp_region_held_drew (S := fun wx => wx.cell? ⟨g, 2, none⟩ = some (.int .i64 (m : Int)) ∧ wx.cell? ⟨g, 3, none⟩ = some (.int .i64 sz)) (by kernel_rfl) ⟨J2.out.c 2 rfl, J2.out.c 3 rfl⟩ (fun hHeld => ?_)
   generalize w1.drew = w3 at *
   refine tkS (i := 0) (oi := ⟨some 32, Op.move (Operand.tmp 0), 22, _, _, none⟩) (v := .pointer (some ⟨g, 0, none⟩)) rfl (Or.inl ⟨by rfl, fun w hS => by obtain ⟨hS1, hS2⟩ := hS; go_simp⟩) hHeld ?_
   refine tkS (i := 1) (oi := ⟨some 33, Op.nilCheck (Operand.tmp 32), 0, _, _, none⟩) (v := .pointer (some ⟨g, 0, none⟩)) rfl (Or.inl ⟨by rfl, fun w hS => by obtain ⟨hS1, hS2⟩ := hS; go_simp⟩) hHeld ?_
   refine tkS (i := 2) (oi := ⟨some 34, Op.fieldAddr 61 (Operand.tmp 33) 2, 0, _, _, none⟩) (v := .pointer (some ⟨g, 2, none⟩)) rfl (Or.inl ⟨by rfl, fun w hS => by obtain ⟨hS1, hS2⟩ := hS; go_simp⟩) hHeld ?_
   refine tkS (i := 3) (oi := ⟨some 35, Op.load 3 (Operand.tmp 34), 3, _, _, none⟩) (v := .int .i64 (m : Int)) rfl (Or.inl ⟨by rfl, fun w hS => by obtain ⟨hS1, hS2⟩ := hS; go_simp⟩) hHeld ?_
   refine tkS (i := 4) (oi := ⟨some 36, Op.move (Operand.tmp 0), 22, _, _, none⟩) (v := .pointer (some ⟨g, 0, none⟩)) rfl (Or.inl ⟨by rfl, fun w hS => by obtain ⟨hS1, hS2⟩ := hS; go_simp⟩) hHeld ?_
   refine tkS (i := 5) (oi := ⟨some 37, Op.nilCheck (Operand.tmp 36), 0, _, _, none⟩) (v := .pointer (some ⟨g, 0, none⟩)) rfl (Or.inl ⟨by rfl, fun w hS => by obtain ⟨hS1, hS2⟩ := hS; go_simp⟩) hHeld ?_
   refine tkS (i := 6) (oi := ⟨some 38, Op.fieldAddr 61 (Operand.tmp 37) 3, 0, _, _, none⟩) (v := .pointer (some ⟨g, 3, none⟩)) rfl (Or.inl ⟨by rfl, fun w hS => by obtain ⟨hS1, hS2⟩ := hS; go_simp⟩) hHeld ?_
   refine tkS (i := 7) (oi := ⟨some 39, Op.load 3 (Operand.tmp 38), 3, _, _, none⟩) (v := .int .i64 sz) rfl (Or.inl ⟨by rfl, fun w hS => by obtain ⟨hS1, hS2⟩ := hS; go_simp⟩) hHeld ?_
   refine tkS (i := 8) (oi := ⟨some 40, Op.build 79 #[(0, Operand.tmp 35), (1, Operand.tmp 39)], 79, _, _, none⟩) (v := .agg #[.int .i64 (m : Int), .int .i64 sz]) rfl (yieldsIf_bld (by rfl) 79 _ rfl #[(0, .int .i64 (m : Int)), (1, .int .i64 sz)] (by simp [Act.eval]) (.agg #[.int .i64 (m : Int), .int .i64 sz]) (fun w => run_bldP _ _ w)) hHeld ?_
   refine wpAnyH_ready (rs := [9]) (by kernel_rfl) (by simp) ?_
   refine AllReadyH.cons (o := ⟨none, Op.store 79 (Operand.tmp 4) (Operand.tmp 40), 0, _, _, none⟩) rfl (fun K hK => ?_) AllReadyH.nil
   rw [if_pos (by rfl)]
   refine wp_store_row 79 (.tmp 4) (.tmp 40) rfl q #[.int .i64 (m : Int), .int .i64 sz] rfl rfl 79 #[.int .i64 0, .int .i64 0] HP0.out (by kernel_rfl) rfl (by kernel_rfl) ?_
   have HP2 := Keep.mk (HP0.out.setRow #[.int .i64 (m : Int), .int .i64 sz])
   have hlq : Keep (w.heap.size ≤ q) := ⟨by rw [hq.out]; exact Nat.le_refl _⟩
   have B2 : Keep (Below w.heap.size w (w3.setRow q #[.int .i64 (m : Int), .int .i64 sz])) := ⟨below_setRow B10.out hlq.out _⟩
   have J3 : Keep (Blk (w3.setRow q #[.int .i64 (m : Int), .int .i64 sz]) g 61 (jA d vp (m : Int) sz la de)) := ⟨HJ.out.below B2.out HJ.out.lt⟩
   clear HP0
   generalize w3.setRow q #[.int .i64 (m : Int), .int .i64 sz] = w2 at *
   refine hK _ _ ⟨J3.out.c 2 rfl, J3.out.c 3 rfl⟩ fun hH => ?_
   clear hK
   simp only [Act.put, pqA, pqB, pqC]
   refine wpAnyH_done (by kernel_rfl) ?_ _
   refine hK5 _ _ ?_
   refine wp_ret ?_
   try simp only [Exit.inBlock, Exit.then]
   refine bodyPost_ret (v := .agg #[.int .i64 (m : Int), .int .i64 sz]) (results_cell1_row Tryd.results44 _ _ q 79 _ (0, 0) _ rfl HP2.out Tryd.underlying79 rfl (by kernel_rfl)) rfl ?_
   refine ⟨?_, B2.out⟩
   rw [if_neg (by omega)]
 ·skip
  refine VlS (.bool false) ?_
  refine VlS (.bool false) ?_
  refine SkS ?_
  refine SkS ?_
  refine SkS ?_
  refine SkS ?_
  refine SkS ?_
  refine SkS ?_
  refine SkS ?_
  refine VlS (.bool false) ?_
  refine VlS (.bool false) ?_
  refine WL.nil (hK3 _ _ ?_)
  refine wp_cond_false rfl ?_
  refine wp_skip ?_
  refine hK2 _ _ ?_
  refine wp_seq_k fun K6 hK6 => ?_
  have J2 : Keep (Blk w1.drew g 61 (jA d vp (m : Int) sz la de)) := ⟨J1.out.drew⟩
  have HP0 : Keep (Blk w1.drew q 79 #[.int .i64 0, .int .i64 0]) := ⟨HP.out.drew⟩
  have B10 : Keep (Below w.heap.size w w1.drew) := ⟨B1.out.drew⟩
  clear J1 HP B1 c2 c3
  refine wp_region_held_drew (S := fun wx => wx.cell? ⟨g, 2, none⟩ = some (.int .i64 (m : Int)) ∧ wx.cell? ⟨g, 3, none⟩ = some (.int .i64 sz)) (by kernel_rfl) ⟨J2.out.c 2 rfl, J2.out.c 3 rfl⟩ (fun hHeld => ?_)
  generalize w1.drew = w3 at *
  refine tkS (i := 0) (oi := ⟨some 32, Op.move (Operand.tmp 0), 22, _, _, none⟩) (v := .pointer (some ⟨g, 0, none⟩)) rfl (Or.inl ⟨by rfl, fun w hS => by obtain ⟨hS1, hS2⟩ := hS; go_simp⟩) hHeld ?_
  refine tkS (i := 1) (oi := ⟨some 33, Op.nilCheck (Operand.tmp 32), 0, _, _, none⟩) (v := .pointer (some ⟨g, 0, none⟩)) rfl (Or.inl ⟨by rfl, fun w hS => by obtain ⟨hS1, hS2⟩ := hS; go_simp⟩) hHeld ?_
  refine tkS (i := 2) (oi := ⟨some 34, Op.fieldAddr 61 (Operand.tmp 33) 2, 0, _, _, none⟩) (v := .pointer (some ⟨g, 2, none⟩)) rfl (Or.inl ⟨by rfl, fun w hS => by obtain ⟨hS1, hS2⟩ := hS; go_simp⟩) hHeld ?_
  refine tkS (i := 3) (oi := ⟨some 35, Op.load 3 (Operand.tmp 34), 3, _, _, none⟩) (v := .int .i64 (m : Int)) rfl (Or.inl ⟨by rfl, fun w hS => by obtain ⟨hS1, hS2⟩ := hS; go_simp⟩) hHeld ?_
  refine tkS (i := 4) (oi := ⟨some 36, Op.move (Operand.tmp 0), 22, _, _, none⟩) (v := .pointer (some ⟨g, 0, none⟩)) rfl (Or.inl ⟨by rfl, fun w hS => by obtain ⟨hS1, hS2⟩ := hS; go_simp⟩) hHeld ?_
  refine tkS (i := 5) (oi := ⟨some 37, Op.nilCheck (Operand.tmp 36), 0, _, _, none⟩) (v := .pointer (some ⟨g, 0, none⟩)) rfl (Or.inl ⟨by rfl, fun w hS => by obtain ⟨hS1, hS2⟩ := hS; go_simp⟩) hHeld ?_
  refine tkS (i := 6) (oi := ⟨some 38, Op.fieldAddr 61 (Operand.tmp 37) 3, 0, _, _, none⟩) (v := .pointer (some ⟨g, 3, none⟩)) rfl (Or.inl ⟨by rfl, fun w hS => by obtain ⟨hS1, hS2⟩ := hS; go_simp⟩) hHeld ?_
  refine tkS (i := 7) (oi := ⟨some 39, Op.load 3 (Operand.tmp 38), 3, _, _, none⟩) (v := .int .i64 sz) rfl (Or.inl ⟨by rfl, fun w hS => by obtain ⟨hS1, hS2⟩ := hS; go_simp⟩) hHeld ?_
  refine tkS (i := 8) (oi := ⟨some 40, Op.build 79 #[(0, Operand.tmp 35), (1, Operand.tmp 39)], 79, _, _, none⟩) (v := .agg #[.int .i64 (m : Int), .int .i64 sz]) rfl (yieldsIf_bld (by rfl) 79 _ rfl #[(0, .int .i64 (m : Int)), (1, .int .i64 sz)] (by simp [Act.eval]) (.agg #[.int .i64 (m : Int), .int .i64 sz]) (fun w => run_bldP _ _ w)) hHeld ?_
  refine wpAnyH_ready (rs := [9]) (by kernel_rfl) (by simp) ?_
  refine AllReadyH.cons (o := ⟨none, Op.store 79 (Operand.tmp 4) (Operand.tmp 40), 0, _, _, none⟩) rfl (fun K hK => ?_) AllReadyH.nil
  rw [if_pos (by rfl)]
  refine wp_store_row 79 (.tmp 4) (.tmp 40) rfl q #[.int .i64 (m : Int), .int .i64 sz] rfl rfl 79 #[.int .i64 0, .int .i64 0] HP0.out (by kernel_rfl) rfl (by kernel_rfl) ?_
  have HP2 := Keep.mk (HP0.out.setRow #[.int .i64 (m : Int), .int .i64 sz])
  have hlq : Keep (w.heap.size ≤ q) := ⟨by rw [hq.out]; exact Nat.le_refl _⟩
  have B2 : Keep (Below w.heap.size w (w3.setRow q #[.int .i64 (m : Int), .int .i64 sz])) := ⟨below_setRow B10.out hlq.out _⟩
  have J3 : Keep (Blk (w3.setRow q #[.int .i64 (m : Int), .int .i64 sz]) g 61 (jA d vp (m : Int) sz la de)) := ⟨HJ.out.below B2.out HJ.out.lt⟩
  clear HP0
  generalize w3.setRow q #[.int .i64 (m : Int), .int .i64 sz] = w2 at *
  refine hK _ _ ⟨J3.out.c 2 rfl, J3.out.c 3 rfl⟩ fun hH => ?_
  clear hK
  simp only [Act.put, pqA, pqB, pqC]
  refine wpAnyH_done (by kernel_rfl) ?_ _
  refine hK6 _ _ ?_
  refine wp_ret ?_
  try simp only [Exit.inBlock, Exit.then]
  refine bodyPost_ret (v := .agg #[.int .i64 (m : Int), .int .i64 sz]) (results_cell1_row Tryd.results44 _ _ q 79 _ (0, 0) _ rfl HP2.out Tryd.underlying79 rfl (by kernel_rfl)) rfl ?_
  refine ⟨?_, B2.out⟩
  rw [if_neg (by omega)]
def JDN (w : World) (g d p : Nat) (D : DV) (V : JV) (la de : Bool) (N : Nat → Prop) : Prop := Blk w d 75 #[ptr p] ∧ ∃ vf cs vp, DskAt w p vf cs D ∧ Blk w g 61 (jA d vp V.pr V.sz la de) ∧ OwnP w vp V.pl ∧ ∀ k, (DskS p vf cs k ∨ k = g ∨ vp.ownBlock = some k) → N k
structure JX (D : DV) (V : JV) (la : Bool) (sure : Nat) : Prop where
 ji : JI D V
 su : SU D V sure
 ls : la = false → SU D V V.ps.length
 lp : la = true → 0 ≤ V.pr
 out : D.out = false
theorem told_gen (g d : Nat) (vp : Value) (pr sz x : Int) (la de : Bool) (w : World) (hJ : Blk w g 61 (jA d vp pr sz la de)) : Calls Tryd.prog 29 #[ptr g, .int .i64 x] w fun r w' => r = .returned (.int .i64 x) ∧ (∃ de', Blk w' g 61 (jA d vp pr sz la de') ∧ (x ≠ 7 → de' = de)) ∧ Grown w w' fun k => k = g := by
 by_cases h : x = 7
 ·subst h
  refine (told_dead g d vp pr sz la de w hJ).mono ?_
  rintro e w' ⟨rfl, h1, h2⟩
  exact ⟨rfl, ⟨true, h1, fun h => absurd rfl h⟩, h2⟩
 ·refine (told_ok g x h w).mono ?_
  rintro e w' ⟨rfl, rfl⟩
  exact ⟨rfl, ⟨de, hJ, fun _ => rfl⟩, Grown.refl _ _⟩
theorem CR.more {D : DV} {all : List (List Int)} {sure : Nat} (h : CR D all sure) (p : List Int) : CR D (all ++ [p]) sure :=
 ⟨h.ok, h.nm, h.room, h.siz, fun kp => by
  obtain ⟨k, h1, h2, h3⟩ := h.rd kp
  exact ⟨k, h1, by rw [List.length_append]; omega, by rw [h3, List.take_append_of_le_length h2]⟩⟩
theorem CR.less {D : DV} {all : List (List Int)} {a b : Nat} (h : CR D all a) (hb : b ≤ a) : CR D all b :=
 ⟨h.ok, h.nm, h.room, h.siz, fun kp => by
  obtain ⟨k, h1, h2, h3⟩ := h.rd kp
  exact ⟨k, by omega, h2, h3⟩⟩
def JN2 (N : Nat → Prop) (a b : Nat) : Nat → Prop := fun k => (N k ∨ a ≤ k) ∧ k < b
def SynPost (D : DV) (V : JV) (sure g d p : Nat) (N : Nat → Prop) (w : World) (e : Ending) (w' : World) : Prop :=
 ∃ (ee : Int) (D' : DV) (la' de' : Bool), e = .returned (.int .i64 ee) ∧ JDN w' g d p D' V la' de' (JN2 N w.heap.size w'.heap.size) ∧ Grown w w' N ∧ (D.acts ≤ D'.acts ∧ D'.acts ≤ D.acts + 300) ∧
  ((ee = 0 ∧ de' = false ∧ JX D' V la' V.ps.length) ∨ (ee = 7 ∧ CR D' V.ps sure))
set_option maxRecDepth 8000 in
set_option maxHeartbeats 2000000 in
theorem jsync_laid (g d p : Nat) (D : DV) (V : JV) (sure : Nat) (N : Nat → Prop) (w : World) (hT : Tab w) (hDN : JDN w g d p D V true false N) (h0 : ¬ N 0) (hd : ¬ N d) (hX : JX D V true sure) (hA : D.acts ≤ 4611686018427380000) :
  Calls Tryd.prog 25 #[ptr g] w (SynPost D V sure g d p N w) := by
 obtain ⟨hDk, vf, cs, vp, hD, hJ, hP, hN⟩ := hDN
 obtain ⟨m, hm⟩ : ∃ m : Nat, Keep (V.pr = (m : Int)) := ⟨V.pr.toNat, ⟨by have := hX.lp rfl; omega⟩⟩
 obtain ⟨hm256, f, s, hf, _⟩ := hX.ji.last hm.out
 obtain ⟨i, hfi, hfn, hfd⟩ := fnd_is hX.ji.ok.srt hf
 have hm2 := Keep.mk hm256
 have HFi := Keep.mk hfi
 have HFn := Keep.mk hfn
 have HFd := Keep.mk hfd
 have HT := Keep.mk hT
 have HDk := Keep.mk hDk
 have HD := Keep.mk hD
 have HJ := Keep.mk hJ
 have HP := Keep.mk hP
 have HN := Keep.mk hN
 have H0 := Keep.mk h0
 have Hd := Keep.mk hd
 have HX := Keep.mk hX
 have HA := Keep.mk hA
 have HZ : Keep (0 < w.heap.size) := ⟨Nat.lt_of_le_of_lt (Nat.zero_le _) hDk.lt⟩
 clear hT hDk hD hJ hP hN h0 hd hX hA hf hfi hfn hfd hm256
 go_enter Tryd.func25, Tryd.ntmps25
 have c5 := HJ.out.c 5 (by rfl : (jA d vp V.pr V.sz true false)[5]? = some (.bool false))
 have c4 := HJ.out.c 4 (by rfl : (jA d vp V.pr V.sz true false)[4]? = some (.bool true))
 refine wp_seq_k fun K1 hK1 => rgn ?_
 refine VlS (.int .i64 0) ?_
 refine WL.nil (hK1 _ _ ?_)
 refine wp_seq_k fun K2 hK2 => ?_
 refine wp_seq_k fun K3 hK3 => rgn ?_
 refine VlS (.pointer (some ⟨g, 0, none⟩)) ?_
 refine VlS (.pointer (some ⟨g, 0, none⟩)) ?_
 refine VlS (.pointer (some ⟨g, 5, none⟩)) ?_
 refine VlS (.bool false) ?_
 refine WL.nil (hK3 _ _ ?_)
 refine wp_cond_false rfl ?_
 refine wp_skip ?_
 refine hK2 _ _ ?_
 refine wp_seq_k fun K4 hK4 => ?_
 refine wp_seq_k fun K5 hK5 => rgn ?_
 refine VlS (.pointer (some ⟨g, 0, none⟩)) ?_
 refine VlS (.pointer (some ⟨g, 0, none⟩)) ?_
 refine VlS (.pointer (some ⟨g, 4, none⟩)) ?_
 refine VlS (.bool true) ?_
 refine VlS (.bool false) ?_
 refine WL.nil (hK5 _ _ ?_)
 refine wp_cond_false rfl ?_
 refine wp_skip ?_
 refine hK4 _ _ ?_
 refine wp_seq_k fun K6 hK6 => ?_
 refine wp_seq_k fun K7 hK7 => ?_
 clear c5 c4
 have D4 : Keep (Below w.heap.size w w.drew) := ⟨(Below.refl _ _).drew⟩
 have HSx : Keep (∀ wx de, Blk wx g 61 (jA d vp V.pr V.sz true de) → wx.cell? ⟨g, 0, none⟩ = some (ptr d) ∧ wx.cell? ⟨g, 2, none⟩ = some (.int .i64 (m : Int))) := ⟨fun wx de h => ⟨h.c 0 rfl, by rw [← hm.out]; exact h.c 2 rfl⟩⟩
 refine wp_region_held_drew (S := fun wx => wx.cell? ⟨g, 0, none⟩ = some (ptr d) ∧ wx.cell? ⟨g, 2, none⟩ = some (.int .i64 (m : Int))) (by kernel_rfl) (HSx.out _ _ HJ.out.drew) (fun hHeld => ?_)
 refine tkS (i := 0) (oi := ⟨some 13, Op.move (Operand.tmp 0), 22, _, _, none⟩) (v := .pointer (some ⟨g, 0, none⟩)) rfl (Or.inl ⟨by rfl, fun w hS => by obtain ⟨hS1, hS2⟩ := hS; go_simp⟩) hHeld ?_
 refine tkS (i := 1) (oi := ⟨some 14, Op.move (Operand.tmp 0), 22, _, _, none⟩) (v := .pointer (some ⟨g, 0, none⟩)) rfl (Or.inl ⟨by rfl, fun w hS => by obtain ⟨hS1, hS2⟩ := hS; go_simp⟩) hHeld ?_
 refine tkS (i := 2) (oi := ⟨some 15, Op.nilCheck (Operand.tmp 14), 0, _, _, none⟩) (v := .pointer (some ⟨g, 0, none⟩)) rfl (Or.inl ⟨by rfl, fun w hS => by obtain ⟨hS1, hS2⟩ := hS; go_simp⟩) hHeld ?_
 refine tkS (i := 3) (oi := ⟨some 16, Op.fieldAddr 61 (Operand.tmp 15) 0, 0, _, _, none⟩) (v := .pointer (some ⟨g, 0, none⟩)) rfl (Or.inl ⟨by rfl, fun w hS => by obtain ⟨hS1, hS2⟩ := hS; go_simp⟩) hHeld ?_
 refine tkS (i := 4) (oi := ⟨some 17, Op.load 30 (Operand.tmp 16), 30, _, _, none⟩) (v := .pointer (some ⟨d, 0, none⟩)) rfl (Or.inl ⟨by rfl, fun w hS => by obtain ⟨hS1, hS2⟩ := hS; go_simp⟩) hHeld ?_
 refine tkS (i := 5) (oi := ⟨some 18, Op.move (Operand.tmp 0), 22, _, _, none⟩) (v := .pointer (some ⟨g, 0, none⟩)) rfl (Or.inl ⟨by rfl, fun w hS => by obtain ⟨hS1, hS2⟩ := hS; go_simp⟩) hHeld ?_
 refine tkS (i := 6) (oi := ⟨some 19, Op.nilCheck (Operand.tmp 18), 0, _, _, none⟩) (v := .pointer (some ⟨g, 0, none⟩)) rfl (Or.inl ⟨by rfl, fun w hS => by obtain ⟨hS1, hS2⟩ := hS; go_simp⟩) hHeld ?_
 refine tkS (i := 7) (oi := ⟨some 20, Op.fieldAddr 61 (Operand.tmp 19) 2, 0, _, _, none⟩) (v := .pointer (some ⟨g, 2, none⟩)) rfl (Or.inl ⟨by rfl, fun w hS => by obtain ⟨hS1, hS2⟩ := hS; go_simp⟩) hHeld ?_
 refine tkS (i := 8) (oi := ⟨some 21, Op.load 3 (Operand.tmp 20), 3, _, _, none⟩) (v := .int .i64 (m : Int)) rfl (Or.inl ⟨by rfl, fun w hS => by obtain ⟨hS1, hS2⟩ := hS; go_simp⟩) hHeld ?_
 refine wpAnyH_ready (rs := [9]) (by kernel_rfl) (by simp) ?_
 refine AllReadyH.cons (o := ⟨some 22, Op.call { callee := Callee.value (Operand.func 31), args := #[Operand.tmp 21], argTypes := #[3] }, 9, _, _, none⟩) rfl (fun K hK => ?_) AllReadyH.nil
 rw [if_pos (by rfl)]
 refine wp_callF 31 _ _ rfl Tryd.in31 #[.int .i64 (m : Int)] (by simp [Act.eval]) (fun vz wz => vz = .string (nmS m) ∧ Below w.heap.size w wz) ?_ ?_
 ·refine (name_any m (by have := hm2.out; omega) w.drew (HT.out.below D4.out HZ.out)).mono ?_
  rintro e wz ⟨rfl, h⟩
  exact ⟨_, rfl, rfl, D4.out.trans (h.mono D4.out.size)⟩
 rintro vz w5 ⟨rfl, h5⟩
 have B5 := Keep.mk h5
 clear h5
 obtain ⟨nn, hnn⟩ : ∃ s, Keep (s = nmS m) := ⟨_, ⟨rfl⟩⟩
 rw [← hnn.out]
 refine hK _ _ (HSx.out _ _ (HJ.out.below B5.out HJ.out.lt)) fun hH5 => ?_
 clear hK
 simp only [Act.put, pqA, pqB, pqC]
 refine wpAnyH_ready (rs := [10]) (by kernel_rfl) (by simp) ?_
 refine AllReadyH.cons (o := ⟨some 23, Op.call { callee := Callee.value (Operand.func 43), args := #[Operand.tmp 17, Operand.tmp 22], argTypes := #[30, 9] }, 24, _, _, none⟩) rfl (fun K hK => ?_) AllReadyH.nil
 rw [if_pos (by rfl)]
 refine wp_callF 43 _ _ rfl Tryd.in43 #[ptr d, .string nn] (by simp [Act.eval]) (fun vz wz => vz = .int .i64 (pw D) ∧ ∃ cs', DskAt wz p vf cs' (if D.fuse = 0 then D.act else D.act.sync i) ∧ (Grown w5 wz fun k => k = p ∨ vf.ownBlock = some k) ∧ ∀ k, DskS p vf cs' k → DskS p vf cs k) ?_ ?_
 ·refine (syn_is d p i nn vf cs D w5 (HDk.out.below B5.out HDk.out.lt) (HD.out.below B5.out) HX.out.out (by rw [hnn.out]; exact HFd.out) (by rw [HD.out.fcs.len]; exact HX.out.ji.ok.len) ⟨HX.out.ji.ok.acts, by have := HA.out; omega⟩ ⟨by have := HX.out.ji.ok.fuse; omega, HX.out.ji.ok.fuse.2⟩).mono ?_
  rintro e wz ⟨rfl, cs1, h1, h2, h3⟩
  exact ⟨_, rfl, rfl, cs1, h1, h2, h3⟩
 rintro vz w7 ⟨rfl, cs7, h1, h2, h3⟩
 have D7 := Keep.mk h1
 have N7 := Keep.mk h3
 have hty : ∀ k, k = p ∨ vf.ownBlock = some k → DskS p vf cs k := fun k hk => hk.elim .inl fun e => .inr (.inl e)
 have J7 : Keep (Blk w7 g 61 (jA d vp V.pr V.sz true false)) := ⟨h2.blk (HJ.out.below B5.out HJ.out.lt) fun e => by rcases HD.out.sTyp (hty _ e) with h | h | h <;> (have := h.one HJ.out.typ; revert this; decide)⟩
 have P7 : Keep (OwnP w7 vp V.pl) := ⟨(HP.out.grown (Grown.below (S := fun _ => False) B5.out) fun _ _ h => h).grown h2 fun k hk e => by rcases HD.out.sTyp (hty _ e) with h | h | h <;> (have := h.one (HP.out.typ hk); revert this; decide)⟩
 have G7 : Keep (Grown w w7 N) := ⟨(Grown.below B5.out).trans (h2.mono fun k _ e => HN.out k (.inl (hty k e)))⟩
 clear h1 h2 h3 hty
 obtain ⟨ee, hee⟩ : ∃ z, Keep (z = pw D) := ⟨_, ⟨rfl⟩⟩
 rw [← hee.out]
 refine hK _ _ (HSx.out _ _ J7.out) fun hH7 => ?_
 clear hK
 simp only [Act.put, pqA, pqB, pqC]
 refine wpAnyH_ready (rs := [11]) (by kernel_rfl) (by simp) ?_
 refine AllReadyH.cons (o := ⟨some 24, Op.call { callee := Callee.value (Operand.func 29), args := #[Operand.tmp 13, Operand.tmp 23], argTypes := #[22, 24] }, 24, _, _, none⟩) rfl (fun K hK => ?_) AllReadyH.nil
 rw [if_pos (by rfl)]
 refine wp_callF 29 _ _ rfl Tryd.in29 #[ptr g, .int .i64 ee] (by simp [Act.eval]) (fun vz wz => vz = .int .i64 ee ∧ (∃ de', Blk wz g 61 (jA d vp V.pr V.sz true de') ∧ (ee ≠ 7 → de' = false)) ∧ Grown w7 wz fun k => k = g) ?_ ?_
 ·refine (told_gen g d vp V.pr V.sz ee true false w7 J7.out).mono ?_
  rintro e wz ⟨rfl, h1, h2⟩
  exact ⟨_, rfl, rfl, h1, h2⟩
 rintro vz w8 ⟨rfl, ⟨de8, h1, h1'⟩, h2⟩
 have J8 := Keep.mk h1
 have HE8 := Keep.mk h1'
 have D8 : Keep (DskAt w8 p vf cs7 (if D.fuse = 0 then D.act else D.act.sync i)) := ⟨D7.out.grown h2 fun k hk e => by subst e; rcases hk with h | h | h <;> (have := h.one J7.out.typ; revert this; decide)⟩
 have P8 : Keep (OwnP w8 vp V.pl) := ⟨P7.out.grown h2 fun k hk e => by subst e; have := (P7.out.typ hk).one J7.out.typ; revert this; decide⟩
 have G8 : Keep (Grown w w8 N) := ⟨G7.out.trans (h2.mono fun k _ e => HN.out k (.inr (.inl e)))⟩
 clear h1 h1' h2
 refine hK _ _ (HSx.out _ _ J8.out) fun hH8 => ?_
 clear hK
 simp only [Act.put, pqA, pqB, pqC]
 refine tkS (i := 12) (oi := ⟨some 3, Op.assign (Operand.tmp 24), 24, _, _, none⟩) (v := .int .i64 ee) rfl (Or.inl ⟨by rfl, fun w hS => by obtain ⟨hS1, hS2⟩ := hS; go_simp⟩) hH8 ?_
 refine wpAnyH_done (by kernel_rfl) ?_ _
 refine hK7 _ _ ?_
 refine wp_seq_k fun K8 hK8 => ?_
 rcases Decidable.em (D.fuse = 0) with hfu | hfu
 ·have he : ee = 7 := by rw [hee.out]; unfold pw; rw [if_pos hfu]
  subst he
  have D9 := D8
  rw [if_pos hfu] at D9
  have J9 := J8
  have P9 := P8
  refine rgn ?_
  refine VlS (.int .i64 7) ?_
  refine VlS (.bool true) ?_
  refine WL.nil (hK8 _ _ ?_)
  refine wp_cond_true rfl ?_
  refine wp_seq_k fun K9 hK9 => rgn ?_
  refine VlS (.int .i64 7) ?_
  refine VlS (.int .i64 7) ?_
  refine WL.nil (hK9 _ _ ?_)
  refine wp_ret ?_
  go_ret
  exact ⟨7, D.act, true, de8, rfl, ⟨G8.out.blk HDk.out Hd.out, vf, cs7, vp, D9.out, J9.out, P9.out, fun k hk => ⟨.inl (HN.out k (hk.imp (N7.out k) id)), by rcases hk with h | h | h; exact D9.out.sLt h; rw [h]; exact J9.out.lt; exact (P9.out.typ h).lt⟩⟩, G8.out, by show D.acts ≤ D.acts + 1 ∧ D.acts + 1 ≤ D.acts + 300; omega, .inr ⟨rfl, HX.out.ji.act.cr HX.out.su.act⟩⟩
 ·have he : ee = 0 := by rw [hee.out]; unfold pw; rw [if_neg hfu]
  subst he
  have D80 := D8
  rw [if_neg hfu] at D80
  have hde : de8 = false := HE8.out (by decide)
  subst hde
  have f_o := J8.out.frozen 4
  have cl := J8.out.c 4 (by rfl : (jA d vp V.pr V.sz true false)[4]? = some (.bool true))
  refine rgn ?_
  refine VlS (.int .i64 0) ?_
  refine VlS (.bool false) ?_
  refine WL.nil (hK8 _ _ ?_)
  refine wp_cond_false rfl ?_
  refine wp_skip ?_
  refine hK6 _ _ ?_
  refine wp_seq_k fun K10 hK10 => rgn ?_
  refine VlS (.pointer (some ⟨g, 0, none⟩)) ?_
  refine VlS (.pointer (some ⟨g, 0, none⟩)) ?_
  refine VlS (.pointer (some ⟨g, 4, none⟩)) ?_
  refine WL.cell (by kernel_rfl) (w8.setCell ⟨g, 4, none⟩ (.bool false)) (by go_simp) ?_
  clear f_o cl
  have hgs : Grown w8 (w8.setCell ⟨g, 4, none⟩ (.bool false)) fun k => k = g := Grown.setCell w8 g 4 _ fun _ => rfl
  have J9 : Keep (Blk (w8.setCell ⟨g, 4, none⟩ (.bool false)) g 61 (jA d vp V.pr V.sz false false)) := ⟨J8.out.set 4 (.bool false)⟩
  have D9 : Keep (DskAt (w8.setCell ⟨g, 4, none⟩ (.bool false)) p vf cs7 (D.act.sync i)) := ⟨D80.out.grown hgs fun k hk e => by subst e; rcases hk with h | h | h <;> (have := h.one J8.out.typ; revert this; decide)⟩
  have P9 : Keep (OwnP (w8.setCell ⟨g, 4, none⟩ (.bool false)) vp V.pl) := ⟨P8.out.grown hgs fun k hk e => by subst e; have := (P8.out.typ hk).one J8.out.typ; revert this; decide⟩
  have G9 : Keep (Grown w (w8.setCell ⟨g, 4, none⟩ (.bool false)) N) := ⟨G8.out.trans (hgs.mono fun k _ e => HN.out k (.inr (.inl e)))⟩
  clear hgs
  generalize (w8.setCell ⟨g, 4, none⟩ (.bool false)) = w9 at *
  simp only [Act.put]
  refine WL.nil (hK10 _ _ ?_)
  refine wp_seq_k fun K11 hK11 => rgn ?_
  refine VlS (.int .i64 0) ?_
  refine WL.nil (hK11 _ _ ?_)
  refine wp_ret ?_
  go_ret
  obtain ⟨s1, s2⟩ := HX.out.ji.act.sync hm.out (i := i) (f := f) HFi.out HFn.out
  exact ⟨0, D.act.sync i, false, false, rfl, ⟨G9.out.blk HDk.out Hd.out, vf, cs7, vp, D9.out, J9.out, P9.out, fun k hk => ⟨.inl (HN.out k (hk.imp (N7.out k) id)), by rcases hk with h | h | h; exact D9.out.sLt h; rw [h]; exact J9.out.lt; exact (P9.out.typ h).lt⟩⟩, G9.out, by show D.acts ≤ D.acts + 1 ∧ D.acts + 1 ≤ D.acts + 300; omega, .inl ⟨rfl, rfl, ⟨s1, s2, fun _ => s2, (fun h => by cases h), by rw [← HX.out.out]; exact (act_on hfu).1⟩⟩⟩

theorem jsync_any (g d p : Nat) (D : DV) (V : JV) (la : Bool) (sure : Nat) (N : Nat → Prop) (w : World) (hT : Tab w) (hDN : JDN w g d p D V la false N) (h0 : ¬ N 0) (hd : ¬ N d) (hX : JX D V la sure) (hA : D.acts ≤ 4611686018427380000) :
  Calls Tryd.prog 25 #[ptr g] w (SynPost D V sure g d p N w) := by
 cases la with
 | true => exact jsync_laid g d p D V sure N w hT hDN h0 hd hX hA
 | false =>
  obtain ⟨hDk, vf, cs, vp, hD, hJ, hP, hN⟩ := hDN
  refine (jsync_idle g w (hJ.c 5 rfl) (hJ.c 4 rfl)).mono ?_
  rintro e w' ⟨rfl, rfl⟩
  refine ⟨0, D, false, false, rfl, ⟨hDk, vf, cs, vp, hD, hJ, hP, fun k hk => ⟨.inl (hN k hk), ?_⟩⟩, Grown.refl _ _, by omega, .inl ⟨rfl, rfl, ⟨hX.ji, hX.ls rfl, hX.ls, hX.lp, hX.out⟩⟩⟩
  rcases hk with h | h | h
  ·exact hD.sLt h
  ·rw [h]; exact hJ.lt
  ·exact (hP.typ h).lt
theorem openV_len (F : Nat → Option (List Int)) : (openV F).pl.length = (openV F).ps.length := by
 have h : ∀ (n k : Nat) (s : JV), s.pl.length = s.ps.length → (rdJ F n k s).pl.length = (rdJ F n k s).ps.length := fun n => by
  induction n with
  | zero => intro k s h; exact h
  | succ n ih =>
   intro k s h
   rw [rdJ]
   cases F k with
   | none => exact h
   | some b =>
    have h2 : (s.more k b).pl.length = (s.more k b).ps.length := by simp only [JV.more, List.length_append, plc_len, h]
    simp only
    split
    ·exact h2
    ·exact ih (k + 1) _ h2
 exact h 256 0 JV.nil rfl
end Go.Proofs.YtennogmeeefopaaDoor
