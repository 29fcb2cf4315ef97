import Derived.Test.YtgpgnldcdimmbaaV08
import Derived.Deep.RegionHeld3
namespace Go.Proofs.Ytgpgnldcdimmbaa
open Go.RowKit
set_option linter.unusedSimpArgs false
set_option linter.unusedVariables false

theorem chkN_ok {N : NodeV} (h : chkN N = 0) : headE N = 0 ∧ (chk N.ops).1 = 0 := by
  unfold chkN at h
  by_cases h0 : headE N = 0
  · rw [if_neg (fun e => e h0)] at h; exact ⟨h0, h⟩
  · rw [if_pos h0] at h; exact absurd h h0
theorem chkN_is {N : NodeV} (h : headE N = 0) : chkN N = (chk N.ops).1 := if_neg (fun e => e h)
theorem chkN_no {N : NodeV} (h : headE N ≠ 0) : chkN N ≠ 0 := by unfold chkN; rw [if_pos h]; exact h
def EncP (N : NodeV) (w : World) (e : Ending) (w' : World) : Prop :=
  Below w.heap.size w w' ∧ ((chkN N ≠ 0 ∧ e = .returned (.tuple #[.slice none 0 0, .int .i64 (chkN N)])) ∨ (chkN N = 0 ∧ 1048576 < (blkL N).length ∧ e = .returned (.tuple #[.slice none 0 0, .int .i64 4])) ∨
    (chkN N = 0 ∧ (blkL N).length ≤ 1048576 ∧ ∃ g, w.heap.size ≤ g ∧ e = .returned (.tuple #[.slice (some ⟨g, 0, none⟩) (blkL N).length (blkL N).length, .int .i64 0]) ∧ Blk w' g 5 (bv (blkL N)).toArray))
def sizeN (N : NodeV) : Int := if chkN N = 0 then ((blkL N).length : Int) else 0
theorem blkL_len {N : NodeV} (h : (chk N.ops).1 = 0) (hp : N.ps.length ≤ 4398046511104) : (blkL N).length ≤ 200000000000000 := by
  have h1 := headL_len N
  have h3 := hB_flat N.ps
  have h4 := form_small N.ops h
  simp only [blkL, List.length_append]; omega
set_option maxRecDepth 8000 in
theorem encode_any (N : NodeV) (vp vo : Value) (w : World) (hN : NdAt w N vp vo) : Calls Try.prog 10 #[.agg (ndA N.au N.ck vp vo)] w (EncP N w) := by
  obtain ⟨pa, pc, rfl⟩ := hN.ps.form
  have HN := Keep.mk hN
  clear hN
  go_enter Try.func10, Try.ntmps10
  refine wp_seq_k fun K1 hK1 => ?_
  refine wp_region_list (WL.out ?_)
  refine WL.box (by kernel_rfl) 27 (.tmp 0) rfl _ rfl ?_
  have HX1 := Keep.mk (Blk.new w 27 (ndA N.au N.ck (.slice pa N.ps.length pc) vo))
  have B1 := Keep.mk (below_new w (.cells (ndA N.au N.ck (.slice pa N.ps.length pc) vo) 27))
  generalize w.alloc (.cells (ndA N.au N.ck (.slice pa N.ps.length pc) vo) 27) = w1 at *
  have HN1 := Keep.mk (HN.out.below B1.out)
  have Hs1 : Keep (w.heap.size < w1.heap.size) := ⟨HX1.out.lt⟩
  have B1x : Keep (w.heap.size ≤ w1.heap.size) := ⟨B1.out.size⟩
  generalize hgg : w.heap.size = g at *
  simp only [Act.put, List.setIfInBounds_toArray, List.set_cons_zero, List.set_cons_succ]
  refine WL.val (by kernel_rfl) (.slice none 0 0) (by go_simp) ?_
  simp only [Act.put, List.setIfInBounds_toArray, List.set_cons_zero, List.set_cons_succ]
  refine WL.val (by kernel_rfl) (.int .i64 0) (by go_simp) ?_
  simp only [Act.put, List.setIfInBounds_toArray, List.set_cons_zero, List.set_cons_succ]
  refine WL.nil ?_
  refine hK1 _ _ ?_
  refine wp_seq_k fun K2 hK2 => ?_
  refine wp_region_list (WL.out ?_)
  refine WL.row (by kernel_rfl) 27 (.tmp 1) rfl g rfl 27 (ndA N.au N.ck (.slice pa N.ps.length pc) vo) _ HX1.out Try.underlying27 rfl (Try.size27B _ _ _ _) ?_
  simp only [Act.put, List.setIfInBounds_toArray, List.set_cons_zero, List.set_cons_succ]
  refine WL.callF (by kernel_rfl) 25 _ _ rfl Try.in25 #[.agg (ndA N.au N.ck (.slice pa N.ps.length pc) vo)] (by simp [Act.eval]) ?_
  refine (lay_any N _ vo w1 HN1.out).mono ?_
  rintro e w2 ⟨hb2, (⟨hh, rfl⟩ | ⟨hh, p, v, rfl, hO⟩)⟩
  · refine ⟨_, rfl, ?_⟩
    have B2 := Keep.mk hb2
    have Hh := Keep.mk (chkN_no hh)
    have hch := chkN_no hh
    clear hb2
    simp only [Act.put, List.setIfInBounds_toArray, List.set_cons_zero, List.set_cons_succ]
    refine WL.val (by kernel_rfl) (.tuple #[.pointer none, .int .i64 (chkN N)]) (by go_simp) ?_
    simp only [Act.put, List.setIfInBounds_toArray, List.set_cons_zero, List.set_cons_succ]
    refine WL.val (by kernel_rfl) (.pointer none) (by go_simp) ?_
    simp only [Act.put, List.setIfInBounds_toArray, List.set_cons_zero, List.set_cons_succ]
    refine WL.val (by kernel_rfl) (.int .i64 (chkN N)) (by go_simp) ?_
    simp only [Act.put, List.setIfInBounds_toArray, List.set_cons_zero, List.set_cons_succ]
    refine WL.val (by kernel_rfl) (.pointer none) (by go_simp) ?_
    simp only [Act.put, List.setIfInBounds_toArray, List.set_cons_zero, List.set_cons_succ]
    refine WL.val (by kernel_rfl) (.int .i64 (chkN N)) (by go_simp) ?_
    simp only [Act.put, List.setIfInBounds_toArray, List.set_cons_zero, List.set_cons_succ]
    refine WL.nil ?_
    refine hK2 _ _ ?_
    refine wp_seq_k fun K3 hK3 => ?_
    refine wp_seq_k fun K4 hK4 => ?_
    refine wp_region_list (WL.out ?_)
    refine WL.val (by kernel_rfl) (.int .i64 (chkN N)) (by go_simp) ?_
    simp only [Act.put, List.setIfInBounds_toArray, List.set_cons_zero, List.set_cons_succ]
    refine WL.val (by kernel_rfl) (.bool true) (by go_simp) ?_
    simp only [Act.put, List.setIfInBounds_toArray, List.set_cons_zero, List.set_cons_succ]
    refine WL.nil ?_
    refine hK4 _ _ ?_
    refine wp_cond_true rfl ?_
    refine wp_seq_k fun K5 hK5 => ?_
    refine wp_region_list (WL.out ?_)
    refine WL.val (by kernel_rfl) (.int .i64 (chkN N)) (by go_simp) ?_
    simp only [Act.put, List.setIfInBounds_toArray, List.set_cons_zero, List.set_cons_succ]
    refine WL.val (by kernel_rfl) (.slice none 0 0) (by go_simp) ?_
    simp only [Act.put, List.setIfInBounds_toArray, List.set_cons_zero, List.set_cons_succ]
    refine WL.val (by kernel_rfl) (.int .i64 (chkN N)) (by go_simp) ?_
    simp only [Act.put, List.setIfInBounds_toArray, List.set_cons_zero, List.set_cons_succ]
    refine WL.nil ?_
    refine hK5 _ _ ?_
    refine wp_ret ?_
    go_ret2
    have BB : Below w.heap.size w w2 := by rw [hgg]; exact B1.out.trans (B2.out.mono B1x.out)
    exact ⟨BB, .inl ⟨Hh.out, rfl⟩⟩
  · refine ⟨_, rfl, ?_⟩
    have B2 := Keep.mk hb2
    have Hh := Keep.mk hh
    have HO := Keep.mk hO
    clear hb2 hO
    simp only [Act.put, List.setIfInBounds_toArray, List.set_cons_zero, List.set_cons_succ]
    refine WL.val (by kernel_rfl) (.tuple #[.pointer (some ⟨p, 0, none⟩), .int .i64 (chkN N)]) (by go_simp) ?_
    simp only [Act.put, List.setIfInBounds_toArray, List.set_cons_zero, List.set_cons_succ]
    refine WL.val (by kernel_rfl) (.pointer (some ⟨p, 0, none⟩)) (by go_simp) ?_
    simp only [Act.put, List.setIfInBounds_toArray, List.set_cons_zero, List.set_cons_succ]
    refine WL.val (by kernel_rfl) (.int .i64 (chkN N)) (by go_simp) ?_
    simp only [Act.put, List.setIfInBounds_toArray, List.set_cons_zero, List.set_cons_succ]
    refine WL.val (by kernel_rfl) (.pointer (some ⟨p, 0, none⟩)) (by go_simp) ?_
    simp only [Act.put, List.setIfInBounds_toArray, List.set_cons_zero, List.set_cons_succ]
    refine WL.val (by kernel_rfl) (.int .i64 (chkN N)) (by go_simp) ?_
    simp only [Act.put, List.setIfInBounds_toArray, List.set_cons_zero, List.set_cons_succ]
    refine WL.nil ?_
    refine hK2 _ _ ?_
    refine wp_seq_k fun K6 hK6 => ?_
    refine wp_seq_k fun K7 hK7 => ?_
    refine wp_region_list (WL.out ?_)
    refine WL.val (by kernel_rfl) (.int .i64 (chkN N)) (by go_simp) ?_
    simp only [Act.put, List.setIfInBounds_toArray, List.set_cons_zero, List.set_cons_succ]
    by_cases h2_1 : chkN N = 0
    · skip
      refine WL.val (by kernel_rfl) (.bool false) (by go_simp) ?_
      simp only [Act.put, List.setIfInBounds_toArray, List.set_cons_zero, List.set_cons_succ]
      refine WL.nil ?_
      refine hK7 _ _ ?_
      refine wp_cond_false rfl ?_
      refine wp_skip ?_
      refine hK6 _ _ ?_
      refine wp_seq_k fun K8 hK8 => ?_
      refine wp_seq_k fun K9 hK9 => ?_
      have hc := (chkN_ok h2_1).2
      have HL := Keep.mk (blkL_len hc HN.out.lp)
      rw [if_pos hc] at HO
      clear hc
      refine wp_region_list (WL.out ?_)
      refine WL.val (by kernel_rfl) (.pointer (some ⟨p, 0, none⟩)) (by go_simp) ?_
      simp only [Act.put, List.setIfInBounds_toArray, List.set_cons_zero, List.set_cons_succ]
      refine WL.callF (by kernel_rfl) 26 _ _ rfl Try.in26 #[ptr p] (by simp [Act.eval]) ?_
      refine (olen_any p v _ w2 HO.out).mono ?_
      rintro e w0 ⟨rfl, hw0⟩
      rw [hw0]
      clear hw0 w0
      refine ⟨_, rfl, ?_⟩
      simp only [Act.put, List.setIfInBounds_toArray, List.set_cons_zero, List.set_cons_succ]
      by_cases h4_2 : 1048576 < (blkL N).length
      · have h4_2i : (1048576 : Int) < ((blkL N).length : Int) := by omega
        refine WL.val (by kernel_rfl) (.bool true) (by go_simp) ?_
        simp only [Act.put, List.setIfInBounds_toArray, List.set_cons_zero, List.set_cons_succ]
        refine WL.nil ?_
        refine hK9 _ _ ?_
        refine wp_cond_true rfl ?_
        refine wp_seq_k fun K10 hK10 => ?_
        refine wp_region_list (WL.out ?_)
        refine WL.val (by kernel_rfl) (.slice none 0 0) (by go_simp) ?_
        simp only [Act.put, List.setIfInBounds_toArray, List.set_cons_zero, List.set_cons_succ]
        refine WL.val (by kernel_rfl) (.int .i64 4) (by go_simp) ?_
        simp only [Act.put, List.setIfInBounds_toArray, List.set_cons_zero, List.set_cons_succ]
        refine WL.nil ?_
        refine hK10 _ _ ?_
        refine wp_ret ?_
        go_ret2
        have BB : Below w.heap.size w w2 := by rw [hgg]; exact B1.out.trans (B2.out.mono B1x.out)
        exact ⟨BB, .inr (.inl ⟨h2_1, h4_2, rfl⟩)⟩
      · have h4_2i : ¬ (1048576 : Int) < ((blkL N).length : Int) := by omega
        refine WL.val (by kernel_rfl) (.bool false) (by go_simp) ?_
        simp only [Act.put, List.setIfInBounds_toArray, List.set_cons_zero, List.set_cons_succ]
        refine WL.nil ?_
        refine hK9 _ _ ?_
        refine wp_cond_false rfl ?_
        refine wp_skip ?_
        refine hK8 _ _ ?_
        refine wp_seq_k fun K11 hK11 => ?_
        refine wp_region_list (WL.out ?_)
        refine WL.val (by kernel_rfl) (.pointer (some ⟨p, 0, none⟩)) (by go_simp) ?_
        simp only [Act.put, List.setIfInBounds_toArray, List.set_cons_zero, List.set_cons_succ]
        refine WL.callF (by kernel_rfl) 27 _ _ rfl Try.in27 #[ptr p] (by simp [Act.eval]) ?_
        refine (odone_any p v _ w2 HO.out HL.out).mono ?_
        rintro e w3 ⟨rfl, hw3⟩
        refine ⟨_, rfl, ?_⟩
        rw [hw3]
        clear hw3 w3
        simp only [Act.put, List.setIfInBounds_toArray, List.set_cons_zero, List.set_cons_succ]
        refine WL.val (by kernel_rfl) (.slice (some ⟨w2.heap.size, 0, none⟩) (blkL N).length (blkL N).length) (by go_simp) ?_
        simp only [Act.put, List.setIfInBounds_toArray, List.set_cons_zero, List.set_cons_succ]
        refine WL.val (by kernel_rfl) (.int .i64 0) (by go_simp) ?_
        simp only [Act.put, List.setIfInBounds_toArray, List.set_cons_zero, List.set_cons_succ]
        refine WL.nil ?_
        refine hK11 _ _ ?_
        refine wp_ret ?_
        go_ret2
        have BB : Below w.heap.size w w2 := by rw [hgg]; exact B1.out.trans (B2.out.mono B1x.out)
        exact ⟨BB.trans ((below_new w2 _).mono BB.size), .inr (.inr ⟨h2_1, by omega, w2.heap.size, BB.size, rfl, Blk.new w2 5 _⟩)⟩
    · skip
      refine WL.val (by kernel_rfl) (.bool true) (by go_simp) ?_
      simp only [Act.put, List.setIfInBounds_toArray, List.set_cons_zero, List.set_cons_succ]
      refine WL.nil ?_
      refine hK7 _ _ ?_
      refine wp_cond_true rfl ?_
      refine wp_seq_k fun K12 hK12 => ?_
      refine wp_region_list (WL.out ?_)
      refine WL.val (by kernel_rfl) (.int .i64 (chkN N)) (by go_simp) ?_
      simp only [Act.put, List.setIfInBounds_toArray, List.set_cons_zero, List.set_cons_succ]
      refine WL.val (by kernel_rfl) (.slice none 0 0) (by go_simp) ?_
      simp only [Act.put, List.setIfInBounds_toArray, List.set_cons_zero, List.set_cons_succ]
      refine WL.val (by kernel_rfl) (.int .i64 (chkN N)) (by go_simp) ?_
      simp only [Act.put, List.setIfInBounds_toArray, List.set_cons_zero, List.set_cons_succ]
      refine WL.nil ?_
      refine hK12 _ _ ?_
      refine wp_ret ?_
      go_ret2
      have BB : Below w.heap.size w w2 := by rw [hgg]; exact B1.out.trans (B2.out.mono B1x.out)
      exact ⟨BB, .inl ⟨h2_1, rfl⟩⟩
set_option maxRecDepth 8000 in
theorem size_any (N : NodeV) (vp vo : Value) (w : World) (hN : NdAt w N vp vo) : Calls Try.prog 14 #[.agg (ndA N.au N.ck vp vo)] w fun e w' => e = .returned (.int .i64 (sizeN N)) ∧ Below w.heap.size w w' := by
  obtain ⟨pa, pc, rfl⟩ := hN.ps.form
  have HN := Keep.mk hN
  clear hN
  go_enter Try.func14, Try.ntmps14
  refine wp_seq_k fun K1 hK1 => ?_
  refine wp_region_list (WL.out ?_)
  refine WL.box (by kernel_rfl) 27 (.tmp 0) rfl _ rfl ?_
  have HX1 := Keep.mk (Blk.new w 27 (ndA N.au N.ck (.slice pa N.ps.length pc) vo))
  have B1 := Keep.mk (below_new w (.cells (ndA N.au N.ck (.slice pa N.ps.length pc) vo) 27))
  generalize w.alloc (.cells (ndA N.au N.ck (.slice pa N.ps.length pc) vo) 27) = w1 at *
  have HN1 := Keep.mk (HN.out.below B1.out)
  have Hs1 : Keep (w.heap.size < w1.heap.size) := ⟨HX1.out.lt⟩
  have B1x : Keep (w.heap.size ≤ w1.heap.size) := ⟨B1.out.size⟩
  generalize hgg : w.heap.size = g at *
  simp only [Act.put, List.setIfInBounds_toArray, List.set_cons_zero, List.set_cons_succ]
  refine WL.val (by kernel_rfl) (.int .i64 0) (by go_simp) ?_
  simp only [Act.put, List.setIfInBounds_toArray, List.set_cons_zero, List.set_cons_succ]
  refine WL.nil ?_
  refine hK1 _ _ ?_
  refine wp_seq_k fun K2 hK2 => ?_
  refine wp_region_list (WL.out ?_)
  refine WL.row (by kernel_rfl) 27 (.tmp 1) rfl g rfl 27 (ndA N.au N.ck (.slice pa N.ps.length pc) vo) _ HX1.out Try.underlying27 rfl (Try.size27B _ _ _ _) ?_
  simp only [Act.put, List.setIfInBounds_toArray, List.set_cons_zero, List.set_cons_succ]
  refine WL.callF (by kernel_rfl) 25 _ _ rfl Try.in25 #[.agg (ndA N.au N.ck (.slice pa N.ps.length pc) vo)] (by simp [Act.eval]) ?_
  refine (lay_any N _ vo w1 HN1.out).mono ?_
  rintro e w2 ⟨hb2, (⟨hh, rfl⟩ | ⟨hh, p, v, rfl, hO⟩)⟩
  · refine ⟨_, rfl, ?_⟩
    have B2 := Keep.mk hb2
    have Hh := Keep.mk (chkN_no hh)
    have hch := chkN_no hh
    clear hb2
    simp only [Act.put, List.setIfInBounds_toArray, List.set_cons_zero, List.set_cons_succ]
    refine WL.val (by kernel_rfl) (.tuple #[.pointer none, .int .i64 (chkN N)]) (by go_simp) ?_
    simp only [Act.put, List.setIfInBounds_toArray, List.set_cons_zero, List.set_cons_succ]
    refine WL.val (by kernel_rfl) (.pointer none) (by go_simp) ?_
    simp only [Act.put, List.setIfInBounds_toArray, List.set_cons_zero, List.set_cons_succ]
    refine WL.val (by kernel_rfl) (.int .i64 (chkN N)) (by go_simp) ?_
    simp only [Act.put, List.setIfInBounds_toArray, List.set_cons_zero, List.set_cons_succ]
    refine WL.val (by kernel_rfl) (.pointer none) (by go_simp) ?_
    simp only [Act.put, List.setIfInBounds_toArray, List.set_cons_zero, List.set_cons_succ]
    refine WL.val (by kernel_rfl) (.int .i64 (chkN N)) (by go_simp) ?_
    simp only [Act.put, List.setIfInBounds_toArray, List.set_cons_zero, List.set_cons_succ]
    refine WL.nil ?_
    refine hK2 _ _ ?_
    refine wp_seq_k fun K3 hK3 => ?_
    refine wp_seq_k fun K4 hK4 => ?_
    refine wp_region_list (WL.out ?_)
    refine WL.val (by kernel_rfl) (.int .i64 (chkN N)) (by go_simp) ?_
    simp only [Act.put, List.setIfInBounds_toArray, List.set_cons_zero, List.set_cons_succ]
    refine WL.val (by kernel_rfl) (.bool true) (by go_simp) ?_
    simp only [Act.put, List.setIfInBounds_toArray, List.set_cons_zero, List.set_cons_succ]
    refine WL.nil ?_
    refine hK4 _ _ ?_
    refine wp_cond_true rfl ?_
    refine wp_seq_k fun K5 hK5 => ?_
    refine wp_region_list (WL.out ?_)
    refine WL.val (by kernel_rfl) (.int .i64 0) (by go_simp) ?_
    simp only [Act.put, List.setIfInBounds_toArray, List.set_cons_zero, List.set_cons_succ]
    refine WL.nil ?_
    refine hK5 _ _ ?_
    refine wp_ret ?_
    go_ret
    have BB := B1.out.trans (B2.out.mono B1x.out)
    exact ⟨by rw [show sizeN N = 0 from if_neg Hh.out]; rfl, BB⟩
  · refine ⟨_, rfl, ?_⟩
    have B2 := Keep.mk hb2
    have Hh := Keep.mk hh
    have HO := Keep.mk hO
    clear hb2 hO
    simp only [Act.put, List.setIfInBounds_toArray, List.set_cons_zero, List.set_cons_succ]
    refine WL.val (by kernel_rfl) (.tuple #[.pointer (some ⟨p, 0, none⟩), .int .i64 (chkN N)]) (by go_simp) ?_
    simp only [Act.put, List.setIfInBounds_toArray, List.set_cons_zero, List.set_cons_succ]
    refine WL.val (by kernel_rfl) (.pointer (some ⟨p, 0, none⟩)) (by go_simp) ?_
    simp only [Act.put, List.setIfInBounds_toArray, List.set_cons_zero, List.set_cons_succ]
    refine WL.val (by kernel_rfl) (.int .i64 (chkN N)) (by go_simp) ?_
    simp only [Act.put, List.setIfInBounds_toArray, List.set_cons_zero, List.set_cons_succ]
    refine WL.val (by kernel_rfl) (.pointer (some ⟨p, 0, none⟩)) (by go_simp) ?_
    simp only [Act.put, List.setIfInBounds_toArray, List.set_cons_zero, List.set_cons_succ]
    refine WL.val (by kernel_rfl) (.int .i64 (chkN N)) (by go_simp) ?_
    simp only [Act.put, List.setIfInBounds_toArray, List.set_cons_zero, List.set_cons_succ]
    refine WL.nil ?_
    refine hK2 _ _ ?_
    refine wp_seq_k fun K6 hK6 => ?_
    refine wp_seq_k fun K7 hK7 => ?_
    refine wp_region_list (WL.out ?_)
    refine WL.val (by kernel_rfl) (.int .i64 (chkN N)) (by go_simp) ?_
    simp only [Act.put, List.setIfInBounds_toArray, List.set_cons_zero, List.set_cons_succ]
    by_cases h2_1 : chkN N = 0
    · skip
      refine WL.val (by kernel_rfl) (.bool false) (by go_simp) ?_
      simp only [Act.put, List.setIfInBounds_toArray, List.set_cons_zero, List.set_cons_succ]
      refine WL.nil ?_
      refine hK7 _ _ ?_
      refine wp_cond_false rfl ?_
      refine wp_skip ?_
      refine hK6 _ _ ?_
      refine wp_seq_k fun K8 hK8 => ?_
      have hc := (chkN_ok h2_1).2
      have HL := Keep.mk (blkL_len hc HN.out.lp)
      rw [if_pos hc] at HO
      clear hc
      refine wp_region_list (WL.out ?_)
      refine WL.val (by kernel_rfl) (.pointer (some ⟨p, 0, none⟩)) (by go_simp) ?_
      simp only [Act.put, List.setIfInBounds_toArray, List.set_cons_zero, List.set_cons_succ]
      refine WL.callF (by kernel_rfl) 26 _ _ rfl Try.in26 #[ptr p] (by simp [Act.eval]) ?_
      refine (olen_any p v _ w2 HO.out).mono ?_
      rintro e w0 ⟨rfl, hw0⟩
      rw [hw0]
      clear hw0 w0
      refine ⟨_, rfl, ?_⟩
      simp only [Act.put, List.setIfInBounds_toArray, List.set_cons_zero, List.set_cons_succ]
      refine WL.val (by kernel_rfl) (.int .i64 ((blkL N).length : Int)) (by go_simp) ?_
      simp only [Act.put, List.setIfInBounds_toArray, List.set_cons_zero, List.set_cons_succ]
      refine WL.nil ?_
      refine hK8 _ _ ?_
      refine wp_ret ?_
      go_ret
      have BB := B1.out.trans (B2.out.mono B1x.out)
      exact ⟨by rw [show sizeN N = ((blkL N).length : Int) from if_pos h2_1]; rfl, BB⟩
    · skip
      refine WL.val (by kernel_rfl) (.bool true) (by go_simp) ?_
      simp only [Act.put, List.setIfInBounds_toArray, List.set_cons_zero, List.set_cons_succ]
      refine WL.nil ?_
      refine hK7 _ _ ?_
      refine wp_cond_true rfl ?_
      refine wp_seq_k fun K9 hK9 => ?_
      refine wp_region_list (WL.out ?_)
      refine WL.val (by kernel_rfl) (.int .i64 0) (by go_simp) ?_
      simp only [Act.put, List.setIfInBounds_toArray, List.set_cons_zero, List.set_cons_succ]
      refine WL.nil ?_
      refine hK9 _ _ ?_
      refine wp_ret ?_
      go_ret
      have BB := B1.out.trans (B2.out.mono B1x.out)
      exact ⟨by rw [show sizeN N = 0 from if_neg h2_1]; rfl, BB⟩
def erA (why b : Int) : Array Value := #[.int .i64 why, .int .i64 b]
theorem erA_sizes (a b c d : Int) : (erA a b).size = (erA c d).size := rfl
theorem erA_one (a b : Int) : (erA a b).all (·.oneCell') = true := by simp [erA, Value.oneCell']
theorem Try.size49B (a b : Int) : (Try.prog.info? 49).map (·.size) = some (erA a b).size := Try.size49
theorem Try.new49E (w : World) : (Instr.alloc 49 true (.tuple #[])).run Try.prog w = .ok (.pointer (some ⟨w.heap.size, 0, none⟩)) (w.alloc (.cells (erA 0 0) 49)) := by kernel_rfl
theorem er_built : Try.prog.built 49 [] = some (erA 0 0) := by kernel_rfl
theorem run_bldE (a b : Int) (w : World) : (Next.value <$> Instr.build 49 #[(0, .int .i64 a), (1, .int .i64 b)]).run Try.prog w = .ok (.value (.agg (erA a b))) w := by kernel_rfl
theorem assertBad (v : Value) (W : World) : (Instr.typeAssert (.iface 68 v) 36 68 true).run Try.prog W = .ok (.tuple #[v, .bool true]) W := by kernel_rfl
theorem Try.in21 (w : World) (vs : Array Value) : (callFunc 21 vs).run Try.prog w = .ok (.enter 21 vs) w := by kernel_rfl
set_option maxRecDepth 8000 in
theorem told_nil (w : World) : Calls Try.prog 21 #[.nilIface] w fun e w' => e = .returned (.tuple #[.agg (erA 0 0), .bool true]) ∧ Below w.heap.size w w' := by
  go_enter Try.func21, Try.ntmps21
  refine wp_seq_k fun K1 hK1 => ?_
  refine wp_region_list (WL.out ?_)
  refine WL.new (by kernel_rfl) 49 rfl _ Try.new49E ?_
  have HZ := Keep.mk (Blk.new w 49 (erA 0 0))
  have HB := Keep.mk (below_new w (.cells (erA 0 0) 49))
  generalize w.alloc (.cells (erA 0 0) 49) = w1 at *
  simp only [Act.put, List.setIfInBounds_toArray, List.set_cons_zero, List.set_cons_succ]
  refine WL.val (by kernel_rfl) (.bool false) (by go_simp) ?_
  simp only [Act.put, List.setIfInBounds_toArray, List.set_cons_zero, List.set_cons_succ]
  refine WL.nil ?_
  refine hK1 _ _ ?_
  refine wp_seq_k fun K2 hK2 => ?_
  refine wp_seq_k fun K3 hK3 => ?_
  refine wp_region_list (WL.out ?_)
  refine WL.val (by kernel_rfl) (.nilIface) (by go_simp) ?_
  simp only [Act.put, List.setIfInBounds_toArray, List.set_cons_zero, List.set_cons_succ]
  refine WL.val (by kernel_rfl) (.bool true) (by go_simp) ?_
  simp only [Act.put, List.setIfInBounds_toArray, List.set_cons_zero, List.set_cons_succ]
  refine WL.nil ?_
  refine hK3 _ _ ?_
  refine wp_cond_true rfl ?_
  refine wp_seq_k fun K4 hK4 => ?_
  refine wp_region_list (WL.out ?_)
  refine WL.bld (by kernel_rfl) 49 _ rfl [] (by simp) _ er_built ?_
  simp only [Act.put, List.setIfInBounds_toArray, List.set_cons_zero, List.set_cons_succ]
  refine WL.storeR (by kernel_rfl) 49 (.tmp 2) (.tmp 8) rfl w.heap.size (erA 0 0) rfl rfl 49 (erA 0 0) HZ.out (Try.size49B _ _) (erA_sizes _ _ _ _) (erA_one _ _) ?_
  simp only [Act.put]
  refine WL.val (by kernel_rfl) (.bool true) (by go_simp) ?_
  simp only [Act.put, List.setIfInBounds_toArray, List.set_cons_zero, List.set_cons_succ]
  refine WL.nil ?_
  refine hK4 _ _ ?_
  refine wp_ret ?_
  try simp only [Exit.then]
  refine bodyPost_ret (v := .tuple #[.agg (erA 0 0), .bool true]) (results_cell_row2 Try.results21 _ _ w.heap.size 49 _ (0, 0) _ _ rfl rfl (HZ.out.setRow _) Try.underlying49 rfl (Try.size49B _ _)) rfl ?_
  exact ⟨rfl, below_setRow HB.out (Nat.le_refl _) _⟩
set_option maxRecDepth 8000 in
theorem told_err (q : Nat) (why : Int) (a : Nat) (w : World) (hq : BadAt w q why a) (hw : why ≠ 0) : Calls Try.prog 21 #[err q] w fun e w' => e = .returned (.tuple #[.agg (erA why (a : Int)), .bool true]) ∧ Below w.heap.size w w' := by
  have HQ : Keep (Blk w q 70 #[.int .i64 why, .int .i64 (a : Int)]) := ⟨hq⟩
  have has := assertBad (ptr q)
  clear hq
  unfold err
  go_enter Try.func21, Try.ntmps21
  refine wp_seq_k fun K1 hK1 => ?_
  refine wp_region_list (WL.out ?_)
  refine WL.new (by kernel_rfl) 49 rfl _ Try.new49E ?_
  have HZ := Keep.mk (Blk.new w 49 (erA 0 0))
  have HB := Keep.mk (below_new w (.cells (erA 0 0) 49))
  have HQ1 := Keep.mk (HQ.out.alloc (.cells (erA 0 0) 49))
  generalize w.alloc (.cells (erA 0 0) 49) = w1 at *
  have c0 := HQ1.out.c 0 rfl
  simp only [Act.put, List.setIfInBounds_toArray, List.set_cons_zero, List.set_cons_succ]
  refine WL.val (by kernel_rfl) (.bool false) (by go_simp) ?_
  simp only [Act.put, List.setIfInBounds_toArray, List.set_cons_zero, List.set_cons_succ]
  refine WL.nil ?_
  refine hK1 _ _ ?_
  refine wp_seq_k fun K2 hK2 => ?_
  refine wp_seq_k fun K3 hK3 => ?_
  refine wp_region_list (WL.out ?_)
  refine WL.val (by kernel_rfl) (.iface 68 (ptr q)) (by go_simp) ?_
  simp only [Act.put, List.setIfInBounds_toArray, List.set_cons_zero, List.set_cons_succ]
  refine WL.val (by kernel_rfl) (.bool false) (by go_simp) ?_
  simp only [Act.put, List.setIfInBounds_toArray, List.set_cons_zero, List.set_cons_succ]
  refine WL.nil ?_
  refine hK3 _ _ ?_
  refine wp_cond_false rfl ?_
  refine wp_skip ?_
  refine hK2 _ _ ?_
  refine wp_seq_k fun K4 hK4 => ?_
  refine wp_region_list (WL.out ?_)
  refine WL.val (by kernel_rfl) (.iface 68 (ptr q)) (by go_simp) ?_
  simp only [Act.put, List.setIfInBounds_toArray, List.set_cons_zero, List.set_cons_succ]
  refine WL.val (by kernel_rfl) (.tuple #[ptr q, .bool true]) (by go_simp) ?_
  simp only [Act.put, List.setIfInBounds_toArray, List.set_cons_zero, List.set_cons_succ]
  refine WL.val (by kernel_rfl) (.tuple #[ptr q, .bool true]) (by go_simp) ?_
  simp only [Act.put, List.setIfInBounds_toArray, List.set_cons_zero, List.set_cons_succ]
  refine WL.val (by kernel_rfl) (ptr q) (by go_simp) ?_
  simp only [Act.put, List.setIfInBounds_toArray, List.set_cons_zero, List.set_cons_succ]
  refine WL.val (by kernel_rfl) (.bool true) (by go_simp) ?_
  simp only [Act.put, List.setIfInBounds_toArray, List.set_cons_zero, List.set_cons_succ]
  refine WL.val (by kernel_rfl) (ptr q) (by go_simp) ?_
  simp only [Act.put, List.setIfInBounds_toArray, List.set_cons_zero, List.set_cons_succ]
  refine WL.val (by kernel_rfl) (.bool true) (by go_simp) ?_
  simp only [Act.put, List.setIfInBounds_toArray, List.set_cons_zero, List.set_cons_succ]
  refine WL.nil ?_
  refine hK4 _ _ ?_
  refine wp_seq_k fun K5 hK5 => ?_
  refine wp_seq_k fun K6 hK6 => ?_
  refine wp_region_list (WL.out ?_)
  refine WL.val (by kernel_rfl) (.bool true) (by go_simp) ?_
  simp only [Act.put, List.setIfInBounds_toArray, List.set_cons_zero, List.set_cons_succ]
  refine WL.val (by kernel_rfl) (.bool false) (by go_simp) ?_
  simp only [Act.put, List.setIfInBounds_toArray, List.set_cons_zero, List.set_cons_succ]
  refine WL.val (by kernel_rfl) (.bool false) (by go_simp) ?_
  simp only [Act.put, List.setIfInBounds_toArray, List.set_cons_zero, List.set_cons_succ]
  refine WL.val (by kernel_rfl) (ptr q) (by go_simp) ?_
  simp only [Act.put, List.setIfInBounds_toArray, List.set_cons_zero, List.set_cons_succ]
  refine WL.val (by kernel_rfl) (.bool false) (by go_simp) ?_
  simp only [Act.put, List.setIfInBounds_toArray, List.set_cons_zero, List.set_cons_succ]
  refine WL.val (by kernel_rfl) (.bool false) (by go_simp) ?_
  simp only [Act.put, List.setIfInBounds_toArray, List.set_cons_zero, List.set_cons_succ]
  refine WL.val (by kernel_rfl) (.bool false) (by go_simp) ?_
  simp only [Act.put, List.setIfInBounds_toArray, List.set_cons_zero, List.set_cons_succ]
  refine WL.val (by kernel_rfl) (ptr q) (by go_simp) ?_
  simp only [Act.put, List.setIfInBounds_toArray, List.set_cons_zero, List.set_cons_succ]
  refine WL.val (by kernel_rfl) (.pointer (some ⟨q, 0, none⟩)) (by go_simp) ?_
  simp only [Act.put, List.setIfInBounds_toArray, List.set_cons_zero, List.set_cons_succ]
  refine WL.val (by kernel_rfl) (.pointer (some ⟨q, 0, none⟩)) (by go_simp) ?_
  simp only [Act.put, List.setIfInBounds_toArray, List.set_cons_zero, List.set_cons_succ]
  refine WL.val (by kernel_rfl) (.int .i64 why) (by go_simp) ?_
  simp only [Act.put, List.setIfInBounds_toArray, List.set_cons_zero, List.set_cons_succ]
  refine WL.val (by kernel_rfl) (.bool false) (by go_simp) ?_
  simp only [Act.put, List.setIfInBounds_toArray, List.set_cons_zero, List.set_cons_succ]
  refine WL.val (by kernel_rfl) (.bool false) (by go_simp) ?_
  simp only [Act.put, List.setIfInBounds_toArray, List.set_cons_zero, List.set_cons_succ]
  refine WL.nil ?_
  refine hK6 _ _ ?_
  refine wp_cond_false rfl ?_
  refine wp_skip ?_
  refine hK5 _ _ ?_
  refine wp_seq_k fun K7 hK7 => ?_
  clear c0
  have HS : Keep (∀ wx, Blk wx q 70 #[.int .i64 why, .int .i64 (a : Int)] → wx.cell? ⟨q, 0, none⟩ = some (.int .i64 why) ∧ wx.cell? ⟨q, 1, none⟩ = some (.int .i64 (a : Int))) := ⟨fun wx h => ⟨h.c 0 rfl, h.c 1 rfl⟩⟩
  refine wp_region_held_drew (S := fun wx => wx.cell? ⟨q, 0, none⟩ = some (.int .i64 why) ∧ wx.cell? ⟨q, 1, none⟩ = some (.int .i64 (a : Int))) (by kernel_rfl) (HS.out _ HQ1.out.drew) (fun hHeld => ?_)
  refine wpAnyH_take (i := 0) (oi := ⟨some 28, Op.move (Operand.tmp 4), 68, _, _, none⟩) (v := .pointer (some ⟨q, 0, none⟩)) rfl (by kernel_rfl) (by kernel_rfl) (by kernel_rfl) (fun _ _ _ h => h) (Or.inl ⟨by rfl, fun w hS => by obtain ⟨hs1, hs2⟩ := hS; go_simp⟩) hHeld ?_
  simp only [Act.put, List.setIfInBounds_toArray, List.set_cons_zero, List.set_cons_succ]
  refine wpAnyH_take (i := 1) (oi := ⟨some 29, Op.nilCheck (Operand.tmp 28), 0, _, _, none⟩) (v := .pointer (some ⟨q, 0, none⟩)) rfl (by kernel_rfl) (by kernel_rfl) (by kernel_rfl) (fun _ _ _ h => h) (Or.inl ⟨by rfl, fun w hS => by obtain ⟨hs1, hs2⟩ := hS; go_simp⟩) hHeld ?_
  simp only [Act.put, List.setIfInBounds_toArray, List.set_cons_zero, List.set_cons_succ]
  refine wpAnyH_take (i := 2) (oi := ⟨some 30, Op.fieldAddr 70 (Operand.tmp 29) 0, 0, _, _, none⟩) (v := .pointer (some ⟨q, 0, none⟩)) rfl (by kernel_rfl) (by kernel_rfl) (by kernel_rfl) (fun _ _ _ h => h) (Or.inl ⟨by rfl, fun w hS => by obtain ⟨hs1, hs2⟩ := hS; go_simp⟩) hHeld ?_
  simp only [Act.put, List.setIfInBounds_toArray, List.set_cons_zero, List.set_cons_succ]
  refine wpAnyH_take (i := 3) (oi := ⟨some 31, Op.load 29 (Operand.tmp 30), 29, _, _, none⟩) (v := .int .i64 why) rfl (by kernel_rfl) (by kernel_rfl) (by kernel_rfl) (fun _ _ _ h => h) (Or.inl ⟨by rfl, fun w hS => by obtain ⟨hs1, hs2⟩ := hS; go_simp⟩) hHeld ?_
  simp only [Act.put, List.setIfInBounds_toArray, List.set_cons_zero, List.set_cons_succ]
  refine wpAnyH_take (i := 4) (oi := ⟨some 32, Op.move (Operand.tmp 4), 68, _, _, none⟩) (v := .pointer (some ⟨q, 0, none⟩)) rfl (by kernel_rfl) (by kernel_rfl) (by kernel_rfl) (fun _ _ _ h => h) (Or.inl ⟨by rfl, fun w hS => by obtain ⟨hs1, hs2⟩ := hS; go_simp⟩) hHeld ?_
  simp only [Act.put, List.setIfInBounds_toArray, List.set_cons_zero, List.set_cons_succ]
  refine wpAnyH_take (i := 5) (oi := ⟨some 33, Op.nilCheck (Operand.tmp 32), 0, _, _, none⟩) (v := .pointer (some ⟨q, 0, none⟩)) rfl (by kernel_rfl) (by kernel_rfl) (by kernel_rfl) (fun _ _ _ h => h) (Or.inl ⟨by rfl, fun w hS => by obtain ⟨hs1, hs2⟩ := hS; go_simp⟩) hHeld ?_
  simp only [Act.put, List.setIfInBounds_toArray, List.set_cons_zero, List.set_cons_succ]
  refine wpAnyH_take (i := 6) (oi := ⟨some 34, Op.fieldAddr 70 (Operand.tmp 33) 1, 0, _, _, none⟩) (v := .pointer (some ⟨q, 1, none⟩)) rfl (by kernel_rfl) (by kernel_rfl) (by kernel_rfl) (fun _ _ _ h => h) (Or.inl ⟨by rfl, fun w hS => by obtain ⟨hs1, hs2⟩ := hS; go_simp⟩) hHeld ?_
  simp only [Act.put, List.setIfInBounds_toArray, List.set_cons_zero, List.set_cons_succ]
  refine wpAnyH_take (i := 7) (oi := ⟨some 35, Op.load 3 (Operand.tmp 34), 3, _, _, none⟩) (v := .int .i64 (a : Int)) rfl (by kernel_rfl) (by kernel_rfl) (by kernel_rfl) (fun _ _ _ h => h) (Or.inl ⟨by rfl, fun w hS => by obtain ⟨hs1, hs2⟩ := hS; go_simp⟩) hHeld ?_
  simp only [Act.put, List.setIfInBounds_toArray, List.set_cons_zero, List.set_cons_succ]
  refine wpAnyH_take (i := 8) (oi := ⟨some 36, Op.build 49 #[(0, Operand.tmp 31), (1, Operand.tmp 35)], 49, _, _, none⟩) (v := .agg #[.int .i64 why, .int .i64 (a : Int)]) rfl (by kernel_rfl) (by kernel_rfl) (by kernel_rfl) (fun _ _ _ h => h) (Or.inl ⟨by rfl, fun w hS => by go_simp⟩) hHeld ?_
  simp only [Act.put, List.setIfInBounds_toArray, List.set_cons_zero, List.set_cons_succ]
  refine wpAnyH_ready (rs := [9]) (by kernel_rfl) (by simp) ?_
  refine AllReadyH.cons (o := ⟨none, Op.store 49 (Operand.tmp 2) (Operand.tmp 36), 0, _, _, none⟩) rfl (fun K hK => ?_) AllReadyH.nil
  rw [if_pos (by rfl)]
  refine wp_store_row 49 (.tmp 2) (.tmp 36) rfl w.heap.size (erA why (a : Int)) rfl rfl 49 (erA 0 0) HZ.out.drew (Try.size49B _ _) (erA_sizes _ _ _ _) (erA_one _ _) ?_
  refine hK.out _ _ (HS.out _ (HQ1.out.drew.setRow_ne (blk_ne HQ1.out HZ.out (by decide)) _)) fun hH2 => ?_
  clear hK
  simp only [Act.put, List.setIfInBounds_toArray, List.set_cons_zero, List.set_cons_succ]
  refine wpAnyH_take (i := 10) (oi := ⟨some 3, Op.assign (Operand.const (Value.bool true)), 4, _, _, none⟩) (v := .bool true) rfl (by kernel_rfl) (by kernel_rfl) (by kernel_rfl) (fun _ _ _ h => h) (Or.inl ⟨by rfl, fun w hS => by obtain ⟨hs1, hs2⟩ := hS; go_simp⟩) hH2 ?_
  simp only [Act.put, List.setIfInBounds_toArray, List.set_cons_zero, List.set_cons_succ]
  refine wpAnyH_done (by kernel_rfl) ?_ _
  refine hK7 _ _ ?_
  refine wp_ret ?_
  try simp only [Exit.then]
  refine bodyPost_ret (v := .tuple #[.agg (erA why (a : Int)), .bool true]) (results_cell_row2 Try.results21 _ _ w.heap.size 49 _ (0, 0) _ _ rfl rfl (HZ.out.drew.setRow _) Try.underlying49 rfl (Try.size49B _ _)) rfl ?_
  exact ⟨rfl, below_setRow HB.out.drew (Nat.le_refl _) _⟩
theorem nA_built : Try.prog.built 27 [(0, .int .i64 1), (1, .int .i64 1)] = some (ndA 1 1 noS noS) := by kernel_rfl
def nA : NodeV := ⟨1, 1, [], []⟩
def nB : NodeV := ⟨2, 1, [], []⟩
theorem nA_chk : chkN nA = 0 := by decide
theorem nB_chk : chkN nB = 0 := by decide
theorem nA_blk : blkL nA = [1, 1, 1, 0, 0] := by decide
theorem nA_str : strOfNums [1, 1, 1, 0, 0] = { data := #[1, 1, 1, 0, 0] } := by kernel_rfl
theorem dB : decR [1, 2, 1, 0, 0] = (0, 5, nB) := by kernel_rfl
theorem byB : Byts [1, 2, 1, 0, 0] := fun c hc => by simp at hc; omega
theorem byC : Byts [1, 9] := fun c hc => by simp at hc; omega
theorem dC : badR [1, 9] = (50, 1) := by decide
theorem dC1 : ¬ ([1, 9] : List Int).length ≤ 1048576 ∨ (decR [1, 9]).1 ≠ 0 := by decide
theorem bsB5 (w : World) : (Instr.buildSlice 28 5 #[(0, .int .u8 1), (1, .int .u8 2), (2, .int .u8 1), (3, .int .u8 0), (4, .int .u8 0)]).run Try.prog w = .ok (.slice (some ⟨w.heap.size, 0, none⟩) 5 5) (w.alloc (.cells (bv [1, 2, 1, 0, 0]).toArray 5)) := by kernel_rfl
theorem bsB2 (w : World) : (Instr.buildSlice 28 2 #[(0, .int .u8 1), (1, .int .u8 9)]).run Try.prog w = .ok (.slice (some ⟨w.heap.size, 0, none⟩) 2 2) (w.alloc (.cells (bv [1, 9]).toArray 5)) := by kernel_rfl
theorem row_of {w : World} {g : Nat} {T : TypeId} {l : List Int} {n : Nat} (h : Blk w g T (bv l).toArray) (hn : n = l.length) : RowAt w (.slice (some ⟨g, 0, none⟩) n n) l := by
  subst hn
  refine .inr (.inr ⟨g, 0, l.length, rfl, Nat.le_refl _, fun i hi => ?_⟩)
  rw [Nat.zero_add, h.cell, List.getElem?_toArray]
  exact bv_get l i hi
theorem ndAt_empty (w : World) (N : NodeV) (hp : N.ps = []) (ho : N.ops = []) (h1 : -9223372036854775808 ≤ N.au ∧ N.au ≤ 9223372036854775807) (h2 : -9223372036854775808 ≤ N.ck ∧ N.ck ≤ 9223372036854775807) : NdAt w N noS noS :=
  ⟨.inl ⟨none, 0, rfl, hp, fun _ => rfl⟩, .inl ⟨none, 0, rfl, ho⟩, by rw [ho]; simp, by rw [hp]; decide, by rw [ho]; decide, fun _ k hk => by simp [noS, Value.ownBlock] at hk, h1.1, h1.2, h2.1, h2.2⟩
theorem ndAt_own {w : World} {N : NodeV} {vp vo : Value} (hp : OwnH w vp N.ps) (ho : OwnO w vo N.ops) (hk : ∀ x ∈ N.ops, OpOk x) (h1 : -9223372036854775808 ≤ N.au ∧ N.au ≤ 9223372036854775807) (h2 : -9223372036854775808 ≤ N.ck ∧ N.ck ≤ 9223372036854775807) (h3 : N.ps.length ≤ 4398046511104) (h4 : N.ops.length ≤ 4398046511104) : NdAt w N vp vo :=
  ⟨hp.row, ho.ops, hk, h3, h4, fun _ => ho.lt, h1.1, h1.2, h2.1, h2.2⟩
theorem Try.in9 (w : World) (vs : Array Value) : (callFunc 9 vs).run Try.prog w = .ok (.enter 9 vs) w := by kernel_rfl
theorem Try.in3 (w : World) (vs : Array Value) : (callFunc 3 vs).run Try.prog w = .ok (.enter 3 vs) w := by kernel_rfl
theorem Try.in16 (w : World) (vs : Array Value) : (callFunc 16 vs).run Try.prog w = .ok (.enter 16 vs) w := by kernel_rfl
set_option maxRecDepth 8000 in
set_option maxHeartbeats 2000000 in
theorem awake_any (w : World) : Calls Try.prog 9 #[] w fun e w' => e = .returned (.bool true) ∧ Below w.heap.size w w' := by
  go_enter Try.func9, Try.ntmps9
  refine wp_seq_k fun K1 hK1 => ?_
  refine wp_region_list (WL.out ?_)
  refine WL.val (by kernel_rfl) (.bool false) (by go_simp) ?_
  simp only [Act.put, List.setIfInBounds_toArray, List.set_cons_zero, List.set_cons_succ]
  refine WL.nil ?_
  refine hK1 _ _ ?_
  refine wp_seq_k fun K2 hK2 => ?_
  refine wp_region_list (WL.out ?_)
  refine WL.bld (by kernel_rfl) 27 _ rfl [(0, .int .i64 1), (1, .int .i64 1)] (by simp [Act.eval]) _ nA_built ?_
  simp only [Act.put, List.setIfInBounds_toArray, List.set_cons_zero, List.set_cons_succ]
  refine WL.callF (by kernel_rfl) 10 _ _ rfl Try.in10 #[.agg (ndA 1 1 noS noS)] (by simp [Act.eval]) ?_
  refine (encode_any nA noS noS w (ndAt_empty w nA rfl rfl (by decide) (by decide))).mono ?_
  rintro e w1 ⟨hb1, h1⟩
  obtain ⟨ga, hga, rfl, hbl⟩ : ∃ g, w.heap.size ≤ g ∧ e = .returned (.tuple #[.slice (some ⟨g, 0, none⟩) (blkL nA).length (blkL nA).length, .int .i64 0]) ∧ Blk w1 g 5 (bv (blkL nA)).toArray := by
    rcases h1 with ⟨h, _⟩ | ⟨_, h, _⟩ | ⟨_, _, h⟩
    · exact absurd nA_chk h
    · rw [nA_blk] at h; exact absurd h (by decide)
    · exact h
  refine ⟨_, rfl, ?_⟩
  clear h1
  rw [nA_blk] at hbl ⊢
  rw [show ([1, 1, 1, 0, 0] : List Int).length = 5 from rfl]
  have HA := Keep.mk hbl
  have B1 := Keep.mk hb1
  clear hbl hb1
  simp only [Act.put, List.setIfInBounds_toArray, List.set_cons_zero, List.set_cons_succ]
  refine WL.val (by kernel_rfl) (.tuple #[.slice (some ⟨ga, 0, none⟩) 5 5, .int .i64 0]) (by go_simp) ?_
  simp only [Act.put, List.setIfInBounds_toArray, List.set_cons_zero, List.set_cons_succ]
  refine WL.val (by kernel_rfl) (.slice (some ⟨ga, 0, none⟩) 5 5) (by go_simp) ?_
  simp only [Act.put, List.setIfInBounds_toArray, List.set_cons_zero, List.set_cons_succ]
  refine WL.val (by kernel_rfl) (.int .i64 0) (by go_simp) ?_
  simp only [Act.put, List.setIfInBounds_toArray, List.set_cons_zero, List.set_cons_succ]
  refine WL.val (by kernel_rfl) (.slice (some ⟨ga, 0, none⟩) 5 5) (by go_simp) ?_
  simp only [Act.put, List.setIfInBounds_toArray, List.set_cons_zero, List.set_cons_succ]
  refine WL.val (by kernel_rfl) (.int .i64 0) (by go_simp) ?_
  simp only [Act.put, List.setIfInBounds_toArray, List.set_cons_zero, List.set_cons_succ]
  refine WL.nil ?_
  refine hK2 _ _ ?_
  refine wp_seq_k fun K3 hK3 => ?_
  refine wp_region_list (WL.out ?_)
  refine WL.bs (by kernel_rfl) 28 5 _ rfl _ (by simp [Act.eval]) _ _ (bsB5 w1) ?_
  have HR2 := Keep.mk (row_of (Blk.new w1 5 (bv [1, 2, 1, 0, 0]).toArray) (n := 5) rfl)
  have B2 : Keep (Below w.heap.size w (w1.alloc (.cells (bv [1, 2, 1, 0, 0]).toArray 5))) := ⟨B1.out.trans ((below_new w1 _).mono B1.out.size)⟩
  have Bz2 : Keep (Below w1.heap.size w1 (w1.alloc (.cells (bv [1, 2, 1, 0, 0]).toArray 5))) := ⟨below_new w1 _⟩
  generalize w1.alloc (.cells (bv [1, 2, 1, 0, 0]).toArray 5) = w2 at *
  have HA2 := Keep.mk (HA.out.below Bz2.out HA.out.lt)
  simp only [Act.put, List.setIfInBounds_toArray, List.set_cons_zero, List.set_cons_succ]
  refine WL.callF (by kernel_rfl) 16 _ _ rfl Try.in16 #[.slice (some ⟨w1.heap.size, 0, none⟩) 5 5] (by simp [Act.eval]) ?_
  refine (decode_any _ [1, 2, 1, 0, 0] w2 HR2.out byB).mono ?_
  rintro e w3 h1
  obtain ⟨vp, vo, rfl, h2, h3, h4, hb3⟩ : ∃ vp vo, e = .returned (.tuple #[.agg (ndA 2 1 vp vo), .nilIface]) ∧ OwnH w3 vp [] ∧ OwnO w3 vo [] ∧ (∀ k, vp.ownBlock = some k → w2.heap.size ≤ k) ∧ Below w2.heap.size w2 w3 := by
    unfold DecPost at h1
    rw [dB] at h1
    rcases h1 with ⟨_, _, vp, vo, h1, h2, h3, h4, _, _, _, h5⟩ | ⟨h1, _⟩
    · exact ⟨vp, vo, h1, h2, h3, h4, h5⟩
    · exfalso; revert h1; decide
  refine ⟨_, rfl, ?_⟩
  clear h1 h4
  obtain ⟨pa, pc, rfl⟩ := h2.sl
  obtain ⟨qa, qc, rfl⟩ := h3.sl
  have HP := Keep.mk h2
  have HQ := Keep.mk h3
  have Bz3 := Keep.mk hb3
  have B3 : Keep (Below w.heap.size w w3) := ⟨B2.out.trans (hb3.mono B2.out.size)⟩
  have HA3 := Keep.mk (HA2.out.below hb3 HA2.out.lt)
  clear h2 h3 hb3
  simp only [Act.put, List.setIfInBounds_toArray, List.set_cons_zero, List.set_cons_succ]
  refine WL.val (by kernel_rfl) (.tuple #[.agg (ndA 2 1 (.slice pa ([] : List Hs).length pc) (.slice qa ([] : List OpV).length qc)), .nilIface]) (by go_simp) ?_
  simp only [Act.put, List.setIfInBounds_toArray, List.set_cons_zero, List.set_cons_succ]
  refine WL.val (by kernel_rfl) (.agg (ndA 2 1 (.slice pa ([] : List Hs).length pc) (.slice qa ([] : List OpV).length qc))) (by go_simp) ?_
  simp only [Act.put, List.setIfInBounds_toArray, List.set_cons_zero, List.set_cons_succ]
  refine WL.val (by kernel_rfl) (.nilIface) (by go_simp) ?_
  simp only [Act.put, List.setIfInBounds_toArray, List.set_cons_zero, List.set_cons_succ]
  refine WL.new (by kernel_rfl) 27 rfl _ Try.new27N ?_
  simp only [Act.put, List.setIfInBounds_toArray, List.set_cons_zero, List.set_cons_succ]
  refine WL.storeR (by kernel_rfl) 27 (.tmp 3) (.tmp 17) rfl w3.heap.size (ndA 2 1 (.slice pa ([] : List Hs).length pc) (.slice qa ([] : List OpV).length qc)) rfl rfl 27 (ndA 0 0 noS noS) (Blk.new w3 27 _) (Try.size27B _ _ _ _) rfl (nd_one _ _ _ _ _ _ _ _) ?_
  have HN4 := Keep.mk ((Blk.new w3 27 (ndA 0 0 noS noS)).setRow (ndA 2 1 (.slice pa ([] : List Hs).length pc) (.slice qa ([] : List OpV).length qc)))
  have Bz4 : Keep (Below w3.heap.size w3 ((w3.alloc (.cells (ndA 0 0 noS noS) 27)).setRow w3.heap.size (ndA 2 1 (.slice pa ([] : List Hs).length pc) (.slice qa ([] : List OpV).length qc)))) := ⟨below_setRow (below_new w3 _) (Nat.le_refl _) _⟩
  generalize (w3.alloc (.cells (ndA 0 0 noS noS) 27)).setRow w3.heap.size (ndA 2 1 (.slice pa ([] : List Hs).length pc) (.slice qa ([] : List OpV).length qc)) = w4 at *
  have B4 : Keep (Below w.heap.size w w4) := ⟨B3.out.trans (Bz4.out.mono B3.out.size)⟩
  have HA4 := Keep.mk (HA3.out.below Bz4.out HA3.out.lt)
  have HP4 := Keep.mk (HP.out.below Bz4.out)
  have HQ4 := Keep.mk (HQ.out.below Bz4.out)
  simp only [Act.put]
  refine WL.val (by kernel_rfl) (.nilIface) (by go_simp) ?_
  simp only [Act.put, List.setIfInBounds_toArray, List.set_cons_zero, List.set_cons_succ]
  refine WL.nil ?_
  refine hK3 _ _ ?_
  refine wp_seq_k fun K4 hK4 => ?_
  refine wp_region_list (WL.out ?_)
  refine WL.bs (by kernel_rfl) 28 2 _ rfl _ (by simp [Act.eval]) _ _ (bsB2 w4) ?_
  have HR5 := Keep.mk (row_of (Blk.new w4 5 (bv [1, 9]).toArray) (n := 2) rfl)
  have B5 : Keep (Below w.heap.size w (w4.alloc (.cells (bv [1, 9]).toArray 5))) := ⟨B4.out.trans ((below_new w4 _).mono B4.out.size)⟩
  have Bz5 : Keep (Below w4.heap.size w4 (w4.alloc (.cells (bv [1, 9]).toArray 5))) := ⟨below_new w4 _⟩
  generalize w4.alloc (.cells (bv [1, 9]).toArray 5) = w5 at *
  have HA5 := Keep.mk (HA4.out.below Bz5.out HA4.out.lt)
  have HP5 := Keep.mk (HP4.out.below Bz5.out)
  have HQ5 := Keep.mk (HQ4.out.below Bz5.out)
  have HN5 := Keep.mk (HN4.out.below Bz5.out HN4.out.lt)
  simp only [Act.put, List.setIfInBounds_toArray, List.set_cons_zero, List.set_cons_succ]
  refine WL.callF (by kernel_rfl) 16 _ _ rfl Try.in16 #[.slice (some ⟨w4.heap.size, 0, none⟩) 2 2] (by simp [Act.eval]) ?_
  refine (decode_any _ [1, 9] w5 HR5.out byC).mono ?_
  rintro e w6 h1
  obtain ⟨q, hq, rfl, hbad, hb6⟩ : ∃ q, w5.heap.size ≤ q ∧ e = .returned (.tuple #[.agg (ndA 0 0 noS noS), err q]) ∧ BadAt w6 q 50 1 ∧ Below w5.heap.size w5 w6 := by
    unfold DecPost at h1
    rw [dC] at h1
    rcases h1 with ⟨_, h1, _⟩ | ⟨_, h1⟩
    · exact absurd h1 (by decide)
    · exact h1
  refine ⟨_, rfl, ?_⟩
  clear h1
  unfold err
  have HBd := Keep.mk hbad
  have Bz6 := Keep.mk hb6
  have B6 : Keep (Below w.heap.size w w6) := ⟨B5.out.trans (hb6.mono B5.out.size)⟩
  have HA6 := Keep.mk (HA5.out.below hb6 HA5.out.lt)
  have HP6 := Keep.mk (HP5.out.below hb6)
  have HQ6 := Keep.mk (HQ5.out.below hb6)
  have HN6 := Keep.mk (HN5.out.below hb6 HN5.out.lt)
  clear hbad hb6
  simp only [Act.put, List.setIfInBounds_toArray, List.set_cons_zero, List.set_cons_succ]
  refine WL.val (by kernel_rfl) (.tuple #[.agg (ndA 0 0 noS noS), .iface 68 (ptr q)]) (by go_simp) ?_
  simp only [Act.put, List.setIfInBounds_toArray, List.set_cons_zero, List.set_cons_succ]
  refine WL.val (by kernel_rfl) (.agg (ndA 0 0 noS noS)) (by go_simp) ?_
  simp only [Act.put, List.setIfInBounds_toArray, List.set_cons_zero, List.set_cons_succ]
  refine WL.val (by kernel_rfl) (.iface 68 (ptr q)) (by go_simp) ?_
  simp only [Act.put, List.setIfInBounds_toArray, List.set_cons_zero, List.set_cons_succ]
  refine WL.new (by kernel_rfl) 27 rfl _ Try.new27N ?_
  simp only [Act.put, List.setIfInBounds_toArray, List.set_cons_zero, List.set_cons_succ]
  refine WL.storeR (by kernel_rfl) 27 (.tmp 5) (.tmp 22) rfl w6.heap.size (ndA 0 0 noS noS) rfl rfl 27 (ndA 0 0 noS noS) (Blk.new w6 27 _) (Try.size27B _ _ _ _) rfl (nd_one 0 0 none 0 0 none 0 0) ?_
  have HZ7 := Keep.mk ((Blk.new w6 27 (ndA 0 0 noS noS)).setRow (ndA 0 0 noS noS))
  have Bz7 : Keep (Below w6.heap.size w6 ((w6.alloc (.cells (ndA 0 0 noS noS) 27)).setRow w6.heap.size (ndA 0 0 noS noS))) := ⟨below_setRow (below_new w6 _) (Nat.le_refl _) _⟩
  generalize (w6.alloc (.cells (ndA 0 0 noS noS) 27)).setRow w6.heap.size (ndA 0 0 noS noS) = w7 at *
  have B7 : Keep (Below w.heap.size w w7) := ⟨B6.out.trans (Bz7.out.mono B6.out.size)⟩
  have HA7 := Keep.mk (HA6.out.below Bz7.out HA6.out.lt)
  have HP7 := Keep.mk (HP6.out.below Bz7.out)
  have HQ7 := Keep.mk (HQ6.out.below Bz7.out)
  have HN7 := Keep.mk (HN6.out.below Bz7.out HN6.out.lt)
  have HB7 : Keep (BadAt w7 q 50 1) := ⟨HBd.out.below Bz7.out HBd.out.lt⟩
  simp only [Act.put]
  refine WL.val (by kernel_rfl) (.iface 68 (ptr q)) (by go_simp) ?_
  simp only [Act.put, List.setIfInBounds_toArray, List.set_cons_zero, List.set_cons_succ]
  refine WL.nil ?_
  refine hK4 _ _ ?_
  refine wp_seq_k fun K5 hK5 => ?_
  refine wp_region_list (WL.out ?_)
  refine WL.val (by kernel_rfl) (.iface 68 (ptr q)) (by go_simp) ?_
  simp only [Act.put, List.setIfInBounds_toArray, List.set_cons_zero, List.set_cons_succ]
  refine WL.callF (by kernel_rfl) 21 _ _ rfl Try.in21 #[.iface 68 (ptr q)] (by simp [Act.eval]) ?_
  refine (told_err q 50 1 w7 HB7.out (by decide)).mono ?_
  rintro e w8 ⟨rfl, hb8⟩
  refine ⟨_, rfl, ?_⟩
  have Bz8 := Keep.mk hb8
  have B8 : Keep (Below w.heap.size w w8) := ⟨B7.out.trans (hb8.mono B7.out.size)⟩
  have HA8 := Keep.mk (HA7.out.below hb8 HA7.out.lt)
  have HP8 := Keep.mk (HP7.out.below hb8)
  have HQ8 := Keep.mk (HQ7.out.below hb8)
  have HN8 := Keep.mk (HN7.out.below hb8 HN7.out.lt)
  clear hb8
  simp only [Act.put, List.setIfInBounds_toArray, List.set_cons_zero, List.set_cons_succ]
  refine WL.val (by kernel_rfl) (.tuple #[.agg (erA 50 ((1 : Nat) : Int)), .bool true]) (by go_simp) ?_
  simp only [Act.put, List.setIfInBounds_toArray, List.set_cons_zero, List.set_cons_succ]
  refine WL.val (by kernel_rfl) (.agg (erA 50 ((1 : Nat) : Int))) (by go_simp) ?_
  simp only [Act.put, List.setIfInBounds_toArray, List.set_cons_zero, List.set_cons_succ]
  refine WL.val (by kernel_rfl) (.bool true) (by go_simp) ?_
  simp only [Act.put, List.setIfInBounds_toArray, List.set_cons_zero, List.set_cons_succ]
  refine WL.new (by kernel_rfl) 49 rfl _ Try.new49E ?_
  simp only [Act.put, List.setIfInBounds_toArray, List.set_cons_zero, List.set_cons_succ]
  refine WL.storeR (by kernel_rfl) 49 (.tmp 7) (.tmp 27) rfl w8.heap.size (erA 50 ((1 : Nat) : Int)) rfl rfl 49 (erA 0 0) (Blk.new w8 49 _) (Try.size49B _ _) (erA_sizes _ _ _ _) (erA_one _ _) ?_
  have HZ9 := Keep.mk ((Blk.new w8 49 (erA 0 0)).setRow (erA 50 ((1 : Nat) : Int)))
  have Bz9 : Keep (Below w8.heap.size w8 ((w8.alloc (.cells (erA 0 0) 49)).setRow w8.heap.size (erA 50 ((1 : Nat) : Int)))) := ⟨below_setRow (below_new w8 _) (Nat.le_refl _) _⟩
  generalize (w8.alloc (.cells (erA 0 0) 49)).setRow w8.heap.size (erA 50 ((1 : Nat) : Int)) = w9 at *
  have B9 : Keep (Below w.heap.size w w9) := ⟨B8.out.trans (Bz9.out.mono B8.out.size)⟩
  have HA9 := Keep.mk (HA8.out.below Bz9.out HA8.out.lt)
  have HP9 := Keep.mk (HP8.out.below Bz9.out)
  have HQ9 := Keep.mk (HQ8.out.below Bz9.out)
  have HN9 := Keep.mk (HN8.out.below Bz9.out HN8.out.lt)
  have hcv : (convert 28 9 (.slice (some ⟨ga, 0, none⟩) 5 5)).run Try.prog w9 = .ok (.string { data := #[1, 1, 1, 0, 0] }) w9 := by
    have h := conv_row _ _ w9 (row_of HA9.out rfl)
    rw [nA_str] at h
    exact h
  have d0 := HN9.out.c 0 (nd_0 _ _ _ _)
  have d1 := HN9.out.c 1 (nd_1 _ _ _ _)
  have z0 : w9.cell? ⟨w8.heap.size, 0, none⟩ = some (.int .i64 50) := HZ9.out.c 0 rfl
  have z1 : w9.cell? ⟨w8.heap.size, 1, none⟩ = some (.int .i64 ((1 : Nat) : Int)) := HZ9.out.c 1 rfl
  simp only [Act.put]
  refine WL.val (by kernel_rfl) (.bool true) (by go_simp) ?_
  simp only [Act.put, List.setIfInBounds_toArray, List.set_cons_zero, List.set_cons_succ]
  refine WL.nil ?_
  refine hK5 _ _ ?_
  refine wp_seq_k fun K6 hK6 => ?_
  refine wp_region_list (WL.out ?_)
  refine WL.val (by kernel_rfl) (.int .i64 0) (by go_simp) ?_
  simp only [Act.put, List.setIfInBounds_toArray, List.set_cons_zero, List.set_cons_succ]
  refine WL.val (by kernel_rfl) (.bool true) (by go_simp) ?_
  simp only [Act.put, List.setIfInBounds_toArray, List.set_cons_zero, List.set_cons_succ]
  refine WL.val (by kernel_rfl) (.bool true) (by go_simp) ?_
  simp only [Act.put, List.setIfInBounds_toArray, List.set_cons_zero, List.set_cons_succ]
  refine WL.val (by kernel_rfl) (.slice (some ⟨ga, 0, none⟩) 5 5) (by go_simp) ?_
  simp only [Act.put, List.setIfInBounds_toArray, List.set_cons_zero, List.set_cons_succ]
  refine WL.val (by kernel_rfl) (.string { data := #[1, 1, 1, 0, 0] }) (by go_simp) ?_
  simp only [Act.put, List.setIfInBounds_toArray, List.set_cons_zero, List.set_cons_succ]
  refine WL.val (by kernel_rfl) (.bool true) (by go_simp) ?_
  simp only [Act.put, List.setIfInBounds_toArray, List.set_cons_zero, List.set_cons_succ]
  refine WL.val (by kernel_rfl) (.bool true) (by go_simp) ?_
  simp only [Act.put, List.setIfInBounds_toArray, List.set_cons_zero, List.set_cons_succ]
  refine WL.val (by kernel_rfl) (.bool true) (by go_simp) ?_
  simp only [Act.put, List.setIfInBounds_toArray, List.set_cons_zero, List.set_cons_succ]
  refine WL.val (by kernel_rfl) (.nilIface) (by go_simp) ?_
  simp only [Act.put, List.setIfInBounds_toArray, List.set_cons_zero, List.set_cons_succ]
  refine WL.val (by kernel_rfl) (.bool true) (by go_simp) ?_
  simp only [Act.put, List.setIfInBounds_toArray, List.set_cons_zero, List.set_cons_succ]
  refine WL.val (by kernel_rfl) (.bool true) (by go_simp) ?_
  simp only [Act.put, List.setIfInBounds_toArray, List.set_cons_zero, List.set_cons_succ]
  refine WL.val (by kernel_rfl) (.bool true) (by go_simp) ?_
  simp only [Act.put, List.setIfInBounds_toArray, List.set_cons_zero, List.set_cons_succ]
  refine WL.val (by kernel_rfl) (.pointer (some ⟨w3.heap.size, 0, none⟩)) (by go_simp) ?_
  simp only [Act.put, List.setIfInBounds_toArray, List.set_cons_zero, List.set_cons_succ]
  refine WL.val (by kernel_rfl) (.int .i64 2) (by go_simp) ?_
  simp only [Act.put, List.setIfInBounds_toArray, List.set_cons_zero, List.set_cons_succ]
  refine WL.val (by kernel_rfl) (.bool true) (by go_simp) ?_
  simp only [Act.put, List.setIfInBounds_toArray, List.set_cons_zero, List.set_cons_succ]
  refine WL.val (by kernel_rfl) (.bool true) (by go_simp) ?_
  simp only [Act.put, List.setIfInBounds_toArray, List.set_cons_zero, List.set_cons_succ]
  refine WL.val (by kernel_rfl) (.bool true) (by go_simp) ?_
  simp only [Act.put, List.setIfInBounds_toArray, List.set_cons_zero, List.set_cons_succ]
  refine WL.val (by kernel_rfl) (.pointer (some ⟨w3.heap.size, 1, none⟩)) (by go_simp) ?_
  simp only [Act.put, List.setIfInBounds_toArray, List.set_cons_zero, List.set_cons_succ]
  refine WL.val (by kernel_rfl) (.int .i64 1) (by go_simp) ?_
  simp only [Act.put, List.setIfInBounds_toArray, List.set_cons_zero, List.set_cons_succ]
  refine WL.val (by kernel_rfl) (.bool true) (by go_simp) ?_
  simp only [Act.put, List.setIfInBounds_toArray, List.set_cons_zero, List.set_cons_succ]
  refine WL.val (by kernel_rfl) (.bool true) (by go_simp) ?_
  simp only [Act.put, List.setIfInBounds_toArray, List.set_cons_zero, List.set_cons_succ]
  refine WL.val (by kernel_rfl) (.bool true) (by go_simp) ?_
  simp only [Act.put, List.setIfInBounds_toArray, List.set_cons_zero, List.set_cons_succ]
  refine WL.val (by kernel_rfl) (.bool true) (by go_simp) ?_
  simp only [Act.put, List.setIfInBounds_toArray, List.set_cons_zero, List.set_cons_succ]
  refine WL.val (by kernel_rfl) (.bool true) (by go_simp) ?_
  simp only [Act.put, List.setIfInBounds_toArray, List.set_cons_zero, List.set_cons_succ]
  refine WL.val (by kernel_rfl) (.bool true) (by go_simp) ?_
  simp only [Act.put, List.setIfInBounds_toArray, List.set_cons_zero, List.set_cons_succ]
  refine WL.val (by kernel_rfl) (.pointer (some ⟨w8.heap.size, 0, none⟩)) (by go_simp) ?_
  simp only [Act.put, List.setIfInBounds_toArray, List.set_cons_zero, List.set_cons_succ]
  refine WL.val (by kernel_rfl) (.int .i64 50) (by go_simp) ?_
  simp only [Act.put, List.setIfInBounds_toArray, List.set_cons_zero, List.set_cons_succ]
  refine WL.val (by kernel_rfl) (.bool true) (by go_simp) ?_
  simp only [Act.put, List.setIfInBounds_toArray, List.set_cons_zero, List.set_cons_succ]
  refine WL.val (by kernel_rfl) (.bool true) (by go_simp) ?_
  simp only [Act.put, List.setIfInBounds_toArray, List.set_cons_zero, List.set_cons_succ]
  refine WL.val (by kernel_rfl) (.bool true) (by go_simp) ?_
  simp only [Act.put, List.setIfInBounds_toArray, List.set_cons_zero, List.set_cons_succ]
  refine WL.val (by kernel_rfl) (.pointer (some ⟨w8.heap.size, 1, none⟩)) (by go_simp) ?_
  simp only [Act.put, List.setIfInBounds_toArray, List.set_cons_zero, List.set_cons_succ]
  refine WL.val (by kernel_rfl) (.int .i64 ((1 : Nat) : Int)) (by go_simp) ?_
  simp only [Act.put, List.setIfInBounds_toArray, List.set_cons_zero, List.set_cons_succ]
  refine WL.val (by kernel_rfl) (.bool true) (by go_simp) ?_
  simp only [Act.put, List.setIfInBounds_toArray, List.set_cons_zero, List.set_cons_succ]
  refine WL.val (by kernel_rfl) (.bool true) (by go_simp) ?_
  simp only [Act.put, List.setIfInBounds_toArray, List.set_cons_zero, List.set_cons_succ]
  refine WL.val (by kernel_rfl) (.bool true) (by go_simp) ?_
  simp only [Act.put, List.setIfInBounds_toArray, List.set_cons_zero, List.set_cons_succ]
  refine WL.row (by kernel_rfl) 27 (.tmp 3) rfl w3.heap.size rfl 27 (ndA 2 1 (.slice pa ([] : List Hs).length pc) (.slice qa ([] : List OpV).length qc)) _ HN9.out Try.underlying27 rfl (Try.size27B _ _ _ _) ?_
  simp only [Act.put, List.setIfInBounds_toArray, List.set_cons_zero, List.set_cons_succ]
  refine WL.callF (by kernel_rfl) 12 _ _ rfl Try.in12 #[.agg (ndA 2 1 (.slice pa ([] : List Hs).length pc) (.slice qa ([] : List OpV).length qc))] (by simp [Act.eval]) ?_
  refine (check_node nB _ _ w9 (ndAt_own (N := nB) HP9.out HQ9.out (by simp [nB]) (by decide) (by decide) (by decide) (by decide))).mono ?_
  rintro e w10 ⟨rfl, hb10⟩
  refine ⟨_, rfl, ?_⟩
  rw [nB_chk]
  have B10 : Keep (Below w.heap.size w w10) := ⟨B9.out.trans (hb10.mono B9.out.size)⟩
  clear hb10
  simp only [Act.put, List.setIfInBounds_toArray, List.set_cons_zero, List.set_cons_succ]
  refine WL.val (by kernel_rfl) (.bool true) (by go_simp) ?_
  simp only [Act.put, List.setIfInBounds_toArray, List.set_cons_zero, List.set_cons_succ]
  refine WL.val (by kernel_rfl) (.bool true) (by go_simp) ?_
  simp only [Act.put, List.setIfInBounds_toArray, List.set_cons_zero, List.set_cons_succ]
  refine WL.val (by kernel_rfl) (.bool true) (by go_simp) ?_
  simp only [Act.put, List.setIfInBounds_toArray, List.set_cons_zero, List.set_cons_succ]
  refine WL.nil ?_
  refine hK6 _ _ ?_
  refine wp_ret ?_
  go_ret
  exact ⟨rfl, B10.out⟩
theorem names_any (w : World) : Calls Try.prog 3 #[] w fun e w' => e = .returned (.bool true) ∧ Below w.heap.size w w' := by
  go_enter Try.func3, Try.ntmps3
  refine wp_seq_k fun K1 hK1 => ?_
  refine wp_region_list (WL.out ?_)
  refine WL.val (by kernel_rfl) (.bool false) (by go_simp) ?_
  simp only [Act.put, List.setIfInBounds_toArray, List.set_cons_zero, List.set_cons_succ]
  refine WL.nil ?_
  refine hK1 _ _ ?_
  refine wp_seq_k fun K2 hK2 => ?_
  refine wp_region_list (WL.out ?_)
  refine WL.val (by kernel_rfl) (.bool true) (by go_simp) ?_
  simp only [Act.put, List.setIfInBounds_toArray, List.set_cons_zero, List.set_cons_succ]
  refine WL.nil ?_
  refine hK2 _ _ ?_
  refine wp_seq_k fun K3 hK3 => ?_
  refine wp_region_list (WL.out ?_)
  refine WL.val (by kernel_rfl) (.bool true) (by go_simp) ?_
  simp only [Act.put, List.setIfInBounds_toArray, List.set_cons_zero, List.set_cons_succ]
  refine WL.val (by kernel_rfl) (.bool true) (by go_simp) ?_
  simp only [Act.put, List.setIfInBounds_toArray, List.set_cons_zero, List.set_cons_succ]
  refine WL.val (by kernel_rfl) (.bool true) (by go_simp) ?_
  simp only [Act.put, List.setIfInBounds_toArray, List.set_cons_zero, List.set_cons_succ]
  refine WL.val (by kernel_rfl) (.bool true) (by go_simp) ?_
  simp only [Act.put, List.setIfInBounds_toArray, List.set_cons_zero, List.set_cons_succ]
  refine WL.val (by kernel_rfl) (.bool true) (by go_simp) ?_
  simp only [Act.put, List.setIfInBounds_toArray, List.set_cons_zero, List.set_cons_succ]
  refine WL.val (by kernel_rfl) (.bool true) (by go_simp) ?_
  simp only [Act.put, List.setIfInBounds_toArray, List.set_cons_zero, List.set_cons_succ]
  refine WL.val (by kernel_rfl) (.bool true) (by go_simp) ?_
  simp only [Act.put, List.setIfInBounds_toArray, List.set_cons_zero, List.set_cons_succ]
  refine WL.val (by kernel_rfl) (.bool true) (by go_simp) ?_
  simp only [Act.put, List.setIfInBounds_toArray, List.set_cons_zero, List.set_cons_succ]
  refine WL.val (by kernel_rfl) (.bool true) (by go_simp) ?_
  simp only [Act.put, List.setIfInBounds_toArray, List.set_cons_zero, List.set_cons_succ]
  refine WL.val (by kernel_rfl) (.bool true) (by go_simp) ?_
  simp only [Act.put, List.setIfInBounds_toArray, List.set_cons_zero, List.set_cons_succ]
  refine WL.val (by kernel_rfl) (.bool true) (by go_simp) ?_
  simp only [Act.put, List.setIfInBounds_toArray, List.set_cons_zero, List.set_cons_succ]
  refine WL.val (by kernel_rfl) (.bool true) (by go_simp) ?_
  simp only [Act.put, List.setIfInBounds_toArray, List.set_cons_zero, List.set_cons_succ]
  refine WL.callF (by kernel_rfl) 9 _ _ rfl Try.in9 #[] (by simp) ?_
  refine (awake_any w).mono ?_
  rintro e w1 ⟨rfl, hb1⟩
  refine ⟨_, rfl, ?_⟩
  simp only [Act.put, List.setIfInBounds_toArray, List.set_cons_zero, List.set_cons_succ]
  refine WL.val (by kernel_rfl) (.bool true) (by go_simp) ?_
  simp only [Act.put, List.setIfInBounds_toArray, List.set_cons_zero, List.set_cons_succ]
  refine WL.val (by kernel_rfl) (.bool true) (by go_simp) ?_
  simp only [Act.put, List.setIfInBounds_toArray, List.set_cons_zero, List.set_cons_succ]
  refine WL.nil ?_
  refine hK3 _ _ ?_
  refine wp_ret ?_
  go_ret
  exact ⟨rfl, hb1⟩
def smL (a b : List OpV) : Bool := decide (a.length = b.length) && (List.range a.length).all fun i => sm (a.getD i zeroOp) (b.getD i zeroOp)
def sameN (A B : NodeV) : Bool := decide (A.au = B.au) && (decide (A.ck = B.ck) && (decide (A.ps = B.ps) && smL A.ops B.ops))
theorem smL_iff {a b : List OpV} (ha : ∀ x ∈ a, OpOk x) (hb : ∀ x ∈ b, OpOk x) : smL a b = true ↔ a = b := by
  constructor
  · intro h
    simp only [smL, Bool.and_eq_true, decide_eq_true_eq, List.all_eq_true, List.mem_range] at h
    refine List.ext_getElem h.1 fun i h1 h2 => ?_
    have := h.2 i h1
    rw [show a.getD i zeroOp = a[i] by simp [List.getD_eq_getElem?_getD, h1], show b.getD i zeroOp = b[i] by simp [List.getD_eq_getElem?_getD, h2]] at this
    exact (sm_iff (ha _ (List.getElem_mem h1)).node (hb _ (List.getElem_mem h2)).node).1 this
  · rintro rfl
    simp [smL, sm_refl]
theorem sameN_refl (A : NodeV) : sameN A A = true := by simp [sameN, smL, sm_refl]
theorem ps_eq {a b : List Hs} (h : a.length = b.length) (he : ∀ i, i < a.length → a.getD i default = b.getD i default) : a = b := List.ext_getElem h fun i h1 h2 => by
  have := he i h1
  rwa [show a.getD i default = a[i] by simp [List.getD_eq_getElem?_getD, h1], show b.getD i default = b[i] by simp [List.getD_eq_getElem?_getD, h2]] at this
theorem neqH_run (x y : Hs) (b : Bool) (h : decide (x = y) = b) (w : World) : (binOp .neq 40 (.agg (Sh.encH x).toArray) (.agg (Sh.encH y).toArray)).run Try.prog w = .ok (.bool (!b)) w := by
  rw [Sh.run_neqL, h]
theorem HRow.elem {w : World} {a : Option Addr} {n c : Nat} {l : List Hs} (h : Sh.HRow w (.slice a n c) l) {t : Nat} (ht : t < l.length) : ∃ b off, a = some ⟨b, off, none⟩ ∧ ∀ wx, Below w.heap.size w wx → wx.rangeAt b (off + t * 32) (Sh.encH (l.getD t default)) := by
  obtain ⟨b, off, h1, h2, h3, h4⟩ := h.at (by omega)
  refine ⟨b, off, h1, fun wx hb => ?_⟩
  have h5 := Sh.rangeAt_elem (Sh.rangeAt_below h4 hb (Sh.rangeAt_lt h4 (by omega))) t ht
  rwa [show l.getD t default = l[t] by simp [List.getD_eq_getElem?_getD, ht]]
theorem Try.in18 (w : World) (vs : Array Value) : (callFunc 18 vs).run Try.prog w = .ok (.enter 18 vs) w := by kernel_rfl
set_option maxRecDepth 8000 in
set_option maxHeartbeats 4000000 in
theorem rsame_node (A B : NodeV) (vp vo vq vr : Value) (w : World) (hA : NdAt w A vp vo) (hB : NdAt w B vq vr) : Calls Try.prog 18 #[.agg (ndA A.au A.ck vp vo), .agg (ndA B.au B.ck vq vr)] w fun e w' => e = .returned (.bool (sameN A B)) ∧ Below w.heap.size w w' := by
  obtain ⟨pa, pc, rfl⟩ := hA.ps.form
  obtain ⟨oa, oc, rfl⟩ := hA.ops.form
  obtain ⟨pb, pd, rfl⟩ := hB.ps.form
  obtain ⟨ob, od, rfl⟩ := hB.ops.form
  have HA := Keep.mk hA
  have HB := Keep.mk hB
  clear hA hB
  go_enter Try.func18, Try.ntmps18
  refine wp_seq_k fun K1 hK1 => ?_
  refine wp_region_list (WL.out ?_)
  refine WL.box (by kernel_rfl) 27 (.tmp 0) rfl _ rfl ?_
  have HX0 := Keep.mk (Blk.new w 27 (ndA A.au A.ck (.slice pa A.ps.length pc) (.slice oa A.ops.length oc)))
  have B0 := Keep.mk (below_new w (.cells (ndA A.au A.ck (.slice pa A.ps.length pc) (.slice oa A.ops.length oc)) 27))
  generalize w.alloc (.cells (ndA A.au A.ck (.slice pa A.ps.length pc) (.slice oa A.ops.length oc)) 27) = w1 at *
  have B0x : Keep (w.heap.size ≤ w1.heap.size) := ⟨B0.out.size⟩
  generalize hgg : w.heap.size = g at *
  simp only [Act.put, List.setIfInBounds_toArray, List.set_cons_zero, List.set_cons_succ]
  refine WL.box (by kernel_rfl) 27 (.tmp 1) rfl _ rfl ?_
  have HXa := Keep.mk (HX0.out.alloc (.cells (ndA B.au B.ck (.slice pb B.ps.length pd) (.slice ob B.ops.length od)) 27))
  have HXb := Keep.mk (Blk.new w1 27 (ndA B.au B.ck (.slice pb B.ps.length pd) (.slice ob B.ops.length od)))
  have B2 : Keep (Below g w (w1.alloc (.cells (ndA B.au B.ck (.slice pb B.ps.length pd) (.slice ob B.ops.length od)) 27))) := ⟨B0.out.trans ((below_new w1 _).mono B0x.out)⟩
  generalize w1.alloc (.cells (ndA B.au B.ck (.slice pb B.ps.length pd) (.slice ob B.ops.length od)) 27) = w2 at *
  have HA2 := Keep.mk (HA.out.below (by rw [hgg]; exact B2.out))
  have HB2 := Keep.mk (HB.out.below (by rw [hgg]; exact B2.out))
  have B2x : Keep (g ≤ w2.heap.size) := ⟨by have := B2.out.size; omega⟩
  generalize w1.heap.size = k at *
  have a0 := HXa.out.c 0 (nd_0 _ _ _ _)
  have a1 := HXa.out.c 1 (nd_1 _ _ _ _)
  have a2 := HXa.out.c 2 (nd_2 _ _ _ _)
  have a3 := HXa.out.c 3 (nd_3 _ _ _ _)
  have b0 := HXb.out.c 0 (nd_0 _ _ _ _)
  have b1 := HXb.out.c 1 (nd_1 _ _ _ _)
  have b2 := HXb.out.c 2 (nd_2 _ _ _ _)
  have b3 := HXb.out.c 3 (nd_3 _ _ _ _)
  simp only [Act.put, List.setIfInBounds_toArray, List.set_cons_zero, List.set_cons_succ]
  refine WL.val (by kernel_rfl) (.bool false) (by go_simp) ?_
  simp only [Act.put, List.setIfInBounds_toArray, List.set_cons_zero, List.set_cons_succ]
  refine WL.nil ?_
  refine hK1 _ _ ?_
  refine wp_seq_k fun K2 hK2 => ?_
  refine wp_seq_k fun K3 hK3 => ?_
  refine wp_region_list (WL.out ?_)
  refine WL.val (by kernel_rfl) (.pointer (some ⟨g, 0, none⟩)) (by go_simp) ?_
  simp only [Act.put, List.setIfInBounds_toArray, List.set_cons_zero, List.set_cons_succ]
  refine WL.val (by kernel_rfl) (.int .i64 A.au) (by go_simp) ?_
  simp only [Act.put, List.setIfInBounds_toArray, List.set_cons_zero, List.set_cons_succ]
  refine WL.val (by kernel_rfl) (.pointer (some ⟨k, 0, none⟩)) (by go_simp) ?_
  simp only [Act.put, List.setIfInBounds_toArray, List.set_cons_zero, List.set_cons_succ]
  refine WL.val (by kernel_rfl) (.int .i64 B.au) (by go_simp) ?_
  simp only [Act.put, List.setIfInBounds_toArray, List.set_cons_zero, List.set_cons_succ]
  by_cases h1_4 : A.au = B.au
  · skip
    refine WL.val (by kernel_rfl) (.bool false) (by go_simp) ?_
    simp only [Act.put, List.setIfInBounds_toArray, List.set_cons_zero, List.set_cons_succ]
    refine WL.val (by kernel_rfl) (.bool false) (by go_simp) ?_
    simp only [Act.put, List.setIfInBounds_toArray, List.set_cons_zero, List.set_cons_succ]
    refine WL.val (by kernel_rfl) (.pointer (some ⟨g, 1, none⟩)) (by go_simp) ?_
    simp only [Act.put, List.setIfInBounds_toArray, List.set_cons_zero, List.set_cons_succ]
    refine WL.val (by kernel_rfl) (.int .i64 A.ck) (by go_simp) ?_
    simp only [Act.put, List.setIfInBounds_toArray, List.set_cons_zero, List.set_cons_succ]
    refine WL.val (by kernel_rfl) (.pointer (some ⟨k, 1, none⟩)) (by go_simp) ?_
    simp only [Act.put, List.setIfInBounds_toArray, List.set_cons_zero, List.set_cons_succ]
    refine WL.val (by kernel_rfl) (.int .i64 B.ck) (by go_simp) ?_
    simp only [Act.put, List.setIfInBounds_toArray, List.set_cons_zero, List.set_cons_succ]
    by_cases h1_10 : A.ck = B.ck
    · skip
      refine WL.val (by kernel_rfl) (.bool false) (by go_simp) ?_
      simp only [Act.put, List.setIfInBounds_toArray, List.set_cons_zero, List.set_cons_succ]
      refine WL.val (by kernel_rfl) (.bool false) (by go_simp) ?_
      simp only [Act.put, List.setIfInBounds_toArray, List.set_cons_zero, List.set_cons_succ]
      refine WL.val (by kernel_rfl) (.bool false) (by go_simp) ?_
      simp only [Act.put, List.setIfInBounds_toArray, List.set_cons_zero, List.set_cons_succ]
      refine WL.val (by kernel_rfl) (.pointer (some ⟨g, 2, none⟩)) (by go_simp) ?_
      simp only [Act.put, List.setIfInBounds_toArray, List.set_cons_zero, List.set_cons_succ]
      refine WL.val (by kernel_rfl) (.slice pa A.ps.length pc) (by go_simp) ?_
      simp only [Act.put, List.setIfInBounds_toArray, List.set_cons_zero, List.set_cons_succ]
      refine WL.val (by kernel_rfl) (.int .i64 (A.ps.length : Int)) (by go_simp) ?_
      simp only [Act.put, List.setIfInBounds_toArray, List.set_cons_zero, List.set_cons_succ]
      refine WL.val (by kernel_rfl) (.pointer (some ⟨k, 2, none⟩)) (by go_simp) ?_
      simp only [Act.put, List.setIfInBounds_toArray, List.set_cons_zero, List.set_cons_succ]
      refine WL.val (by kernel_rfl) (.slice pb B.ps.length pd) (by go_simp) ?_
      simp only [Act.put, List.setIfInBounds_toArray, List.set_cons_zero, List.set_cons_succ]
      refine WL.val (by kernel_rfl) (.int .i64 (B.ps.length : Int)) (by go_simp) ?_
      simp only [Act.put, List.setIfInBounds_toArray, List.set_cons_zero, List.set_cons_succ]
      by_cases h1_19 : A.ps.length = B.ps.length
      · have h1_19i : (A.ps.length : Int) = (B.ps.length : Int) := by omega
        refine WL.val (by kernel_rfl) (.bool false) (by go_simp) ?_
        simp only [Act.put, List.setIfInBounds_toArray, List.set_cons_zero, List.set_cons_succ]
        refine WL.val (by kernel_rfl) (.bool false) (by go_simp) ?_
        simp only [Act.put, List.setIfInBounds_toArray, List.set_cons_zero, List.set_cons_succ]
        refine WL.val (by kernel_rfl) (.bool false) (by go_simp) ?_
        simp only [Act.put, List.setIfInBounds_toArray, List.set_cons_zero, List.set_cons_succ]
        refine WL.val (by kernel_rfl) (.pointer (some ⟨g, 3, none⟩)) (by go_simp) ?_
        simp only [Act.put, List.setIfInBounds_toArray, List.set_cons_zero, List.set_cons_succ]
        refine WL.val (by kernel_rfl) (.slice oa A.ops.length oc) (by go_simp) ?_
        simp only [Act.put, List.setIfInBounds_toArray, List.set_cons_zero, List.set_cons_succ]
        refine WL.val (by kernel_rfl) (.int .i64 (A.ops.length : Int)) (by go_simp) ?_
        simp only [Act.put, List.setIfInBounds_toArray, List.set_cons_zero, List.set_cons_succ]
        refine WL.val (by kernel_rfl) (.pointer (some ⟨k, 3, none⟩)) (by go_simp) ?_
        simp only [Act.put, List.setIfInBounds_toArray, List.set_cons_zero, List.set_cons_succ]
        refine WL.val (by kernel_rfl) (.slice ob B.ops.length od) (by go_simp) ?_
        simp only [Act.put, List.setIfInBounds_toArray, List.set_cons_zero, List.set_cons_succ]
        refine WL.val (by kernel_rfl) (.int .i64 (B.ops.length : Int)) (by go_simp) ?_
        simp only [Act.put, List.setIfInBounds_toArray, List.set_cons_zero, List.set_cons_succ]
        by_cases h1_28 : A.ops.length = B.ops.length
        · have h1_28i : (A.ops.length : Int) = (B.ops.length : Int) := by omega
          refine WL.val (by kernel_rfl) (.bool false) (by go_simp) ?_
          simp only [Act.put, List.setIfInBounds_toArray, List.set_cons_zero, List.set_cons_succ]
          refine WL.val (by kernel_rfl) (.bool false) (by go_simp) ?_
          simp only [Act.put, List.setIfInBounds_toArray, List.set_cons_zero, List.set_cons_succ]
          refine WL.nil ?_
          refine hK3 _ _ ?_
          refine wp_cond_false rfl ?_
          refine wp_skip ?_
          refine hK2 _ _ ?_
          refine wp_seq_k fun K4 hK4 => ?_
          refine wp_seq_k fun K5 hK5 => ?_
          refine wp_region_list (WL.out ?_)
          refine WL.val (by kernel_rfl) (.int .i64 0) (by go_simp) ?_
          simp only [Act.put, List.setIfInBounds_toArray, List.set_cons_zero, List.set_cons_succ]
          refine WL.nil ?_
          refine hK5 _ _ ?_
          refine wp_block ?_
          refine wp_loop (fun ac wr => ∃ (t : Nat) (u4 u37 u38 u39 u40 u41 u42 u43 u44 u45 u46 u47 u48 u49 u50 u51 u52 u53 u54 : Value), ac = { tmps := #[.agg (ndA A.au A.ck (.slice pa A.ps.length pc) (.slice oa A.ops.length oc)), .agg (ndA B.au B.ck (.slice pb B.ps.length pd) (.slice ob B.ops.length od)), .pointer (some ⟨g, 0, none⟩), .pointer (some ⟨k, 0, none⟩), u4, .int .i64 (t : Int), undef, .pointer (some ⟨g, 0, none⟩), .int .i64 A.au, .pointer (some ⟨k, 0, none⟩), .int .i64 B.au, .bool false, .bool false, .pointer (some ⟨g, 1, none⟩), .int .i64 A.ck, .pointer (some ⟨k, 1, none⟩), .int .i64 B.ck, .bool false, .bool false, .bool false, .pointer (some ⟨g, 2, none⟩), .slice pa A.ps.length pc, .int .i64 (A.ps.length : Int), .pointer (some ⟨k, 2, none⟩), .slice pb B.ps.length pd, .int .i64 (B.ps.length : Int), .bool false, .bool false, .bool false, .pointer (some ⟨g, 3, none⟩), .slice oa A.ops.length oc, .int .i64 (A.ops.length : Int), .pointer (some ⟨k, 3, none⟩), .slice ob B.ops.length od, .int .i64 (B.ops.length : Int), .bool false, .bool false, u37, u38, u39, u40, u41, u42, u43, u44, u45, u46, u47, u48, u49, u50, u51, u52, u53, u54, undef, undef, undef, undef, undef, undef, undef, undef, undef, undef, undef, undef, undef, undef, undef, undef, undef, undef, undef], defers := [] } ∧ t ≤ A.ps.length ∧ (∀ i, i < t → A.ps.getD i default = B.ps.getD i default) ∧ Below w2.heap.size w2 wr) (fun a _ => A.ps.length - (intOf (a.tmps.getD 5 undef)).toNat) ⟨0, .bool false, undef, undef, undef, undef, undef, undef, undef, undef, undef, undef, undef, undef, undef, undef, undef, undef, undef, undef, rfl, by omega, (fun i hi => by omega), Below.refl _ _⟩ ?_
          rintro ac wr ⟨t, u4, u37, u38, u39, u40, u41, u42, u43, u44, u45, u46, u47, u48, u49, u50, u51, u52, u53, u54, rfl, ht, hE, hB⟩
          have a2 := (HXa.out.below hB HXa.out.lt).c 2 (nd_2 _ _ _ _)
          by_cases htl : t < A.ps.length
          · have htl' : (t : Int) < (A.ps.length : Int) := by omega
            have hwr1 : IntKind.i64.wrap ((t : Int) + 1) = (t : Int) + 1 := by rw [IntKind.wrap_i64]; have := HA.out.lp; omega
            have htb : t < B.ps.length := by omega
            obtain ⟨ga, fa, rfl, hea⟩ := HRow.elem (HA2.out.below hB).ps htl
            obtain ⟨gb, fb, rfl, heb⟩ := HRow.elem (HB2.out.below hB).ps htb
            obtain ⟨x, hx⟩ : ∃ x, x = A.ps.getD t default := ⟨_, rfl⟩
            obtain ⟨y, hy⟩ : ∃ y, y = B.ps.getD t default := ⟨_, rfl⟩
            rw [← hx] at hea
            rw [← hy] at heb
            have htb' : (t : Int) < (B.ps.length : Int) := by omega
            have HS0 : Keep (∀ wx, Below wr.heap.size wr wx → wx.cell? ⟨g, 2, none⟩ = some (.slice (some ⟨ga, fa, none⟩) A.ps.length pc) ∧ wx.cell? ⟨k, 2, none⟩ = some (.slice (some ⟨gb, fb, none⟩) B.ps.length pd) ∧ wx.rangeAt ga (fa + t * 32) (Sh.encH x) ∧ wx.rangeAt gb (fb + t * 32) (Sh.encH y)) := ⟨fun wx hb => ⟨((HXa.out.below hB HXa.out.lt).below hb (HXa.out.below hB HXa.out.lt).lt).c 2 (nd_2 _ _ _ _), ((HXb.out.below hB HXb.out.lt).below hb (HXb.out.below hB HXb.out.lt).lt).c 2 (nd_2 _ _ _ _), hea wx hb, heb wx hb⟩⟩
            have Jx := Keep.mk hx
            have Jy := Keep.mk hy
            have JB := Keep.mk hB
            have JE := Keep.mk hE
            clear hea heb hx hy hB hE
            refine wp_seq_k fun K6 hK6 => ?_
            refine wp_seq_k fun K7 hK7 => ?_
            refine wp_region_list (WL.out ?_)
            refine WL.val (by kernel_rfl) (.int .i64 (t : Int)) (by go_simp) ?_
            simp only [Act.put, List.setIfInBounds_toArray, List.set_cons_zero, List.set_cons_succ]
            refine WL.val (by kernel_rfl) (.pointer (some ⟨g, 2, none⟩)) (by go_simp) ?_
            simp only [Act.put, List.setIfInBounds_toArray, List.set_cons_zero, List.set_cons_succ]
            refine WL.val (by kernel_rfl) (.slice (some ⟨ga, fa, none⟩) A.ps.length pc) (by go_simp) ?_
            simp only [Act.put, List.setIfInBounds_toArray, List.set_cons_zero, List.set_cons_succ]
            refine WL.val (by kernel_rfl) (.int .i64 (A.ps.length : Int)) (by go_simp) ?_
            simp only [Act.put, List.setIfInBounds_toArray, List.set_cons_zero, List.set_cons_succ]
            refine WL.val (by kernel_rfl) (.bool true) (by go_simp) ?_
            simp only [Act.put, List.setIfInBounds_toArray, List.set_cons_zero, List.set_cons_succ]
            refine WL.nil ?_
            refine hK7 _ _ ?_
            refine wp_cond_true rfl ?_
            refine wp_skip ?_
            refine hK6 _ _ ?_
            refine wp_seq_k fun K8 hK8 => ?_
            refine wp_block ?_
            refine wp_seq_k fun K9 hK9 => ?_
            have hD0 : Below wr.heap.size wr wr.drew := (Below.refl _ _).drew
            clear a2
            by_cases hxy : x = y
            · have hnq := neqH_run x y true (decide_eq_true hxy)
              have Hxy := Keep.mk hxy
              clear hxy
              refine wp_region_held_drew (S := fun wx => wx.cell? ⟨g, 2, none⟩ = some (.slice (some ⟨ga, fa, none⟩) A.ps.length pc) ∧ wx.cell? ⟨k, 2, none⟩ = some (.slice (some ⟨gb, fb, none⟩) B.ps.length pd) ∧ wx.rangeAt ga (fa + t * 32) (Sh.encH x) ∧ wx.rangeAt gb (fb + t * 32) (Sh.encH y)) (by kernel_rfl) (HS0.out _ hD0) (fun hHeld => ?_)
              refine wpAnyH_take (i := 0) (oi := ⟨some 44, Op.fieldAddr 27 (Operand.tmp 2) 2, 0, _, _, none⟩) (v := .pointer (some ⟨g, 2, none⟩)) rfl (by kernel_rfl) (by kernel_rfl) (by kernel_rfl) (fun _ _ _ h => h) (Or.inl ⟨by rfl, fun w hS => by obtain ⟨hs1, hs2, hs3, hs4⟩ := hS; go_simp⟩) hHeld ?_
              simp only [Act.put, List.setIfInBounds_toArray, List.set_cons_zero, List.set_cons_succ]
              refine wpAnyH_take (i := 1) (oi := ⟨some 45, Op.load 24 (Operand.tmp 44), 24, _, _, none⟩) (v := .slice (some ⟨ga, fa, none⟩) A.ps.length pc) rfl (by kernel_rfl) (by kernel_rfl) (by kernel_rfl) (fun _ _ _ h => h) (Or.inl ⟨by rfl, fun w hS => by obtain ⟨hs1, hs2, hs3, hs4⟩ := hS; go_simp⟩) hHeld ?_
              simp only [Act.put, List.setIfInBounds_toArray, List.set_cons_zero, List.set_cons_succ]
              refine wpAnyH_take (i := 2) (oi := ⟨some 46, Op.move (Operand.tmp 5), 3, _, _, none⟩) (v := .int .i64 (t : Int)) rfl (by kernel_rfl) (by kernel_rfl) (by kernel_rfl) (fun _ _ _ h => h) (Or.inl ⟨by rfl, fun w hS => by obtain ⟨hs1, hs2, hs3, hs4⟩ := hS; go_simp⟩) hHeld ?_
              simp only [Act.put, List.setIfInBounds_toArray, List.set_cons_zero, List.set_cons_succ]
              refine wpAnyH_take (i := 3) (oi := ⟨some 47, Op.indexAddr 24 (Operand.tmp 45) (Operand.tmp 46), 0, _, _, none⟩) (v := .pointer (some ⟨ga, fa + t * 32, none⟩)) rfl (by kernel_rfl) (by kernel_rfl) (by kernel_rfl) (fun _ _ _ h => h) (Or.inl ⟨by rfl, fun w hS => by obtain ⟨hs1, hs2, hs3, hs4⟩ := hS; go_simp⟩) hHeld ?_
              simp only [Act.put, List.setIfInBounds_toArray, List.set_cons_zero, List.set_cons_succ]
              refine wpAnyH_take (i := 4) (oi := ⟨some 48, Op.load 40 (Operand.tmp 47), 40, _, _, none⟩) (v := .agg (Sh.encH x).toArray) rfl (by kernel_rfl) (by kernel_rfl) (by kernel_rfl) (fun _ _ _ h => h) (yieldsIf_load_mid (by rfl) 40 (Operand.tmp 47) rfl ga (fa + t * 32) rfl (Sh.encH x) _ (fun w hS => hS.2.2.1) Try.underlying40 rfl (Try.sizeHL x)) hHeld ?_
              simp only [Act.put, List.setIfInBounds_toArray, List.set_cons_zero, List.set_cons_succ]
              refine wpAnyH_take (i := 5) (oi := ⟨some 49, Op.fieldAddr 27 (Operand.tmp 3) 2, 0, _, _, none⟩) (v := .pointer (some ⟨k, 2, none⟩)) rfl (by kernel_rfl) (by kernel_rfl) (by kernel_rfl) (fun _ _ _ h => h) (Or.inl ⟨by rfl, fun w hS => by obtain ⟨hs1, hs2, hs3, hs4⟩ := hS; go_simp⟩) hHeld ?_
              simp only [Act.put, List.setIfInBounds_toArray, List.set_cons_zero, List.set_cons_succ]
              refine wpAnyH_take (i := 6) (oi := ⟨some 50, Op.load 24 (Operand.tmp 49), 24, _, _, none⟩) (v := .slice (some ⟨gb, fb, none⟩) B.ps.length pd) rfl (by kernel_rfl) (by kernel_rfl) (by kernel_rfl) (fun _ _ _ h => h) (Or.inl ⟨by rfl, fun w hS => by obtain ⟨hs1, hs2, hs3, hs4⟩ := hS; go_simp⟩) hHeld ?_
              simp only [Act.put, List.setIfInBounds_toArray, List.set_cons_zero, List.set_cons_succ]
              refine wpAnyH_take (i := 7) (oi := ⟨some 51, Op.move (Operand.tmp 5), 3, _, _, none⟩) (v := .int .i64 (t : Int)) rfl (by kernel_rfl) (by kernel_rfl) (by kernel_rfl) (fun _ _ _ h => h) (Or.inl ⟨by rfl, fun w hS => by obtain ⟨hs1, hs2, hs3, hs4⟩ := hS; go_simp⟩) hHeld ?_
              simp only [Act.put, List.setIfInBounds_toArray, List.set_cons_zero, List.set_cons_succ]
              refine wpAnyH_take (i := 8) (oi := ⟨some 52, Op.indexAddr 24 (Operand.tmp 50) (Operand.tmp 51), 0, _, _, none⟩) (v := .pointer (some ⟨gb, fb + t * 32, none⟩)) rfl (by kernel_rfl) (by kernel_rfl) (by kernel_rfl) (fun _ _ _ h => h) (Or.inl ⟨by rfl, fun w hS => by obtain ⟨hs1, hs2, hs3, hs4⟩ := hS; go_simp⟩) hHeld ?_
              simp only [Act.put, List.setIfInBounds_toArray, List.set_cons_zero, List.set_cons_succ]
              refine wpAnyH_take (i := 9) (oi := ⟨some 53, Op.load 40 (Operand.tmp 52), 40, _, _, none⟩) (v := .agg (Sh.encH y).toArray) rfl (by kernel_rfl) (by kernel_rfl) (by kernel_rfl) (fun _ _ _ h => h) (yieldsIf_load_mid (by rfl) 40 (Operand.tmp 52) rfl gb (fb + t * 32) rfl (Sh.encH y) _ (fun w hS => hS.2.2.2) Try.underlying40 rfl (Try.sizeHL y)) hHeld ?_
              simp only [Act.put, List.setIfInBounds_toArray, List.set_cons_zero, List.set_cons_succ]
              refine wpAnyH_take (i := 10) (oi := ⟨some 54, Op.binOp BinOp.neq 40 (Operand.tmp 48) (Operand.tmp 53) 40, 4, _, _, none⟩) (v := .bool false) rfl (by kernel_rfl) (by kernel_rfl) (by kernel_rfl) (fun _ _ _ h => h) (Or.inl ⟨by rfl, fun w hS => by have hnq' := hnq w; go_simp⟩) hHeld ?_
              simp only [Act.put, List.setIfInBounds_toArray, List.set_cons_zero, List.set_cons_succ]
              refine wpAnyH_done (by kernel_rfl) ?_ _
              refine hK9 _ _ ?_
              refine wp_cond_false rfl ?_
              refine wp_skip ?_
              refine hK8 _ _ ?_
              refine wp_region_list (WL.out ?_)
              refine WL.val (by kernel_rfl) (.int .i64 (t : Int)) (by go_simp) ?_
              simp only [Act.put, List.setIfInBounds_toArray, List.set_cons_zero, List.set_cons_succ]
              refine WL.val (by kernel_rfl) (.int .i64 ((t : Int) + 1)) (by go_simp) ?_
              simp only [Act.put, List.setIfInBounds_toArray, List.set_cons_zero, List.set_cons_succ]
              refine WL.val (by kernel_rfl) (.int .i64 ((t : Int) + 1)) (by go_simp) ?_
              simp only [Act.put, List.setIfInBounds_toArray, List.set_cons_zero, List.set_cons_succ]
              refine WL.nil ?_
              refine ⟨⟨t + 1, u4, .int .i64 (t : Int), .pointer (some ⟨g, 2, none⟩), .slice (some ⟨ga, fa, none⟩) A.ps.length pc, .int .i64 (A.ps.length : Int), .bool true, .int .i64 (t : Int), .int .i64 ((t : Int) + 1), .pointer (some ⟨g, 2, none⟩), .slice (some ⟨ga, fa, none⟩) A.ps.length pc, .int .i64 (t : Int), .pointer (some ⟨ga, fa + t * 32, none⟩), .agg (Sh.encH x).toArray, .pointer (some ⟨k, 2, none⟩), .slice (some ⟨gb, fb, none⟩) B.ps.length pd, .int .i64 (t : Int), .pointer (some ⟨gb, fb + t * 32, none⟩), .agg (Sh.encH y).toArray, .bool false, rfl, by omega, fun i hi => ?_, JB.out.trans (hD0.mono JB.out.size)⟩, ?_⟩
              · by_cases hit : i < t
                · exact JE.out i hit
                · rw [show i = t by omega, ← Jx.out, ← Jy.out]; exact Hxy.out
              · simp only [intOf]; show A.ps.length - ((t : Int) + 1).toNat < A.ps.length - ((t : Int)).toNat; omega
            · have hnq := neqH_run x y false (decide_eq_false hxy)
              have Hxy := Keep.mk hxy
              clear hxy
              refine wp_region_held_drew (S := fun wx => wx.cell? ⟨g, 2, none⟩ = some (.slice (some ⟨ga, fa, none⟩) A.ps.length pc) ∧ wx.cell? ⟨k, 2, none⟩ = some (.slice (some ⟨gb, fb, none⟩) B.ps.length pd) ∧ wx.rangeAt ga (fa + t * 32) (Sh.encH x) ∧ wx.rangeAt gb (fb + t * 32) (Sh.encH y)) (by kernel_rfl) (HS0.out _ hD0) (fun hHeld => ?_)
              refine wpAnyH_take (i := 0) (oi := ⟨some 44, Op.fieldAddr 27 (Operand.tmp 2) 2, 0, _, _, none⟩) (v := .pointer (some ⟨g, 2, none⟩)) rfl (by kernel_rfl) (by kernel_rfl) (by kernel_rfl) (fun _ _ _ h => h) (Or.inl ⟨by rfl, fun w hS => by obtain ⟨hs1, hs2, hs3, hs4⟩ := hS; go_simp⟩) hHeld ?_
              simp only [Act.put, List.setIfInBounds_toArray, List.set_cons_zero, List.set_cons_succ]
              refine wpAnyH_take (i := 1) (oi := ⟨some 45, Op.load 24 (Operand.tmp 44), 24, _, _, none⟩) (v := .slice (some ⟨ga, fa, none⟩) A.ps.length pc) rfl (by kernel_rfl) (by kernel_rfl) (by kernel_rfl) (fun _ _ _ h => h) (Or.inl ⟨by rfl, fun w hS => by obtain ⟨hs1, hs2, hs3, hs4⟩ := hS; go_simp⟩) hHeld ?_
              simp only [Act.put, List.setIfInBounds_toArray, List.set_cons_zero, List.set_cons_succ]
              refine wpAnyH_take (i := 2) (oi := ⟨some 46, Op.move (Operand.tmp 5), 3, _, _, none⟩) (v := .int .i64 (t : Int)) rfl (by kernel_rfl) (by kernel_rfl) (by kernel_rfl) (fun _ _ _ h => h) (Or.inl ⟨by rfl, fun w hS => by obtain ⟨hs1, hs2, hs3, hs4⟩ := hS; go_simp⟩) hHeld ?_
              simp only [Act.put, List.setIfInBounds_toArray, List.set_cons_zero, List.set_cons_succ]
              refine wpAnyH_take (i := 3) (oi := ⟨some 47, Op.indexAddr 24 (Operand.tmp 45) (Operand.tmp 46), 0, _, _, none⟩) (v := .pointer (some ⟨ga, fa + t * 32, none⟩)) rfl (by kernel_rfl) (by kernel_rfl) (by kernel_rfl) (fun _ _ _ h => h) (Or.inl ⟨by rfl, fun w hS => by obtain ⟨hs1, hs2, hs3, hs4⟩ := hS; go_simp⟩) hHeld ?_
              simp only [Act.put, List.setIfInBounds_toArray, List.set_cons_zero, List.set_cons_succ]
              refine wpAnyH_take (i := 4) (oi := ⟨some 48, Op.load 40 (Operand.tmp 47), 40, _, _, none⟩) (v := .agg (Sh.encH x).toArray) rfl (by kernel_rfl) (by kernel_rfl) (by kernel_rfl) (fun _ _ _ h => h) (yieldsIf_load_mid (by rfl) 40 (Operand.tmp 47) rfl ga (fa + t * 32) rfl (Sh.encH x) _ (fun w hS => hS.2.2.1) Try.underlying40 rfl (Try.sizeHL x)) hHeld ?_
              simp only [Act.put, List.setIfInBounds_toArray, List.set_cons_zero, List.set_cons_succ]
              refine wpAnyH_take (i := 5) (oi := ⟨some 49, Op.fieldAddr 27 (Operand.tmp 3) 2, 0, _, _, none⟩) (v := .pointer (some ⟨k, 2, none⟩)) rfl (by kernel_rfl) (by kernel_rfl) (by kernel_rfl) (fun _ _ _ h => h) (Or.inl ⟨by rfl, fun w hS => by obtain ⟨hs1, hs2, hs3, hs4⟩ := hS; go_simp⟩) hHeld ?_
              simp only [Act.put, List.setIfInBounds_toArray, List.set_cons_zero, List.set_cons_succ]
              refine wpAnyH_take (i := 6) (oi := ⟨some 50, Op.load 24 (Operand.tmp 49), 24, _, _, none⟩) (v := .slice (some ⟨gb, fb, none⟩) B.ps.length pd) rfl (by kernel_rfl) (by kernel_rfl) (by kernel_rfl) (fun _ _ _ h => h) (Or.inl ⟨by rfl, fun w hS => by obtain ⟨hs1, hs2, hs3, hs4⟩ := hS; go_simp⟩) hHeld ?_
              simp only [Act.put, List.setIfInBounds_toArray, List.set_cons_zero, List.set_cons_succ]
              refine wpAnyH_take (i := 7) (oi := ⟨some 51, Op.move (Operand.tmp 5), 3, _, _, none⟩) (v := .int .i64 (t : Int)) rfl (by kernel_rfl) (by kernel_rfl) (by kernel_rfl) (fun _ _ _ h => h) (Or.inl ⟨by rfl, fun w hS => by obtain ⟨hs1, hs2, hs3, hs4⟩ := hS; go_simp⟩) hHeld ?_
              simp only [Act.put, List.setIfInBounds_toArray, List.set_cons_zero, List.set_cons_succ]
              refine wpAnyH_take (i := 8) (oi := ⟨some 52, Op.indexAddr 24 (Operand.tmp 50) (Operand.tmp 51), 0, _, _, none⟩) (v := .pointer (some ⟨gb, fb + t * 32, none⟩)) rfl (by kernel_rfl) (by kernel_rfl) (by kernel_rfl) (fun _ _ _ h => h) (Or.inl ⟨by rfl, fun w hS => by obtain ⟨hs1, hs2, hs3, hs4⟩ := hS; go_simp⟩) hHeld ?_
              simp only [Act.put, List.setIfInBounds_toArray, List.set_cons_zero, List.set_cons_succ]
              refine wpAnyH_take (i := 9) (oi := ⟨some 53, Op.load 40 (Operand.tmp 52), 40, _, _, none⟩) (v := .agg (Sh.encH y).toArray) rfl (by kernel_rfl) (by kernel_rfl) (by kernel_rfl) (fun _ _ _ h => h) (yieldsIf_load_mid (by rfl) 40 (Operand.tmp 52) rfl gb (fb + t * 32) rfl (Sh.encH y) _ (fun w hS => hS.2.2.2) Try.underlying40 rfl (Try.sizeHL y)) hHeld ?_
              simp only [Act.put, List.setIfInBounds_toArray, List.set_cons_zero, List.set_cons_succ]
              refine wpAnyH_take (i := 10) (oi := ⟨some 54, Op.binOp BinOp.neq 40 (Operand.tmp 48) (Operand.tmp 53) 40, 4, _, _, none⟩) (v := .bool true) rfl (by kernel_rfl) (by kernel_rfl) (by kernel_rfl) (fun _ _ _ h => h) (Or.inl ⟨by rfl, fun w hS => by have hnq' := hnq w; go_simp⟩) hHeld ?_
              simp only [Act.put, List.setIfInBounds_toArray, List.set_cons_zero, List.set_cons_succ]
              refine wpAnyH_done (by kernel_rfl) ?_ _
              refine hK9 _ _ ?_
              refine wp_cond_true rfl ?_
              refine wp_seq_k fun K10 hK10 => ?_
              refine wp_region_list (WL.out ?_)
              refine WL.val (by kernel_rfl) (.bool false) (by go_simp) ?_
              simp only [Act.put, List.setIfInBounds_toArray, List.set_cons_zero, List.set_cons_succ]
              refine WL.nil ?_
              refine hK10 _ _ ?_
              refine wp_ret ?_
              go_ret
              have hno : sameN A B = false := by
                have : A.ps ≠ B.ps := fun e => Hxy.out (by rw [Jx.out, Jy.out, e])
                simp [sameN, this]
              exact ⟨by rw [hno]; rfl, B2.out.trans ((JB.out.mono B2x.out).trans ((Below.refl _ _).drew.mono (Nat.le_trans B2x.out JB.out.size)))⟩
          · have htl' : ¬ (t : Int) < (A.ps.length : Int) := by omega
            have hle2 : B.ps.length ≤ t := by omega
            have hpe : Keep (A.ps = B.ps) := ⟨ps_eq h1_19 (fun i hi => hE i (by omega))⟩
            have JB := Keep.mk hB
            clear hB hE
            refine wp_seq_k fun K11 hK11 => ?_
            refine wp_seq_k fun K12 hK12 => ?_
            refine wp_region_list (WL.out ?_)
            refine WL.val (by kernel_rfl) (.int .i64 (t : Int)) (by go_simp) ?_
            simp only [Act.put, List.setIfInBounds_toArray, List.set_cons_zero, List.set_cons_succ]
            refine WL.val (by kernel_rfl) (.pointer (some ⟨g, 2, none⟩)) (by go_simp) ?_
            simp only [Act.put, List.setIfInBounds_toArray, List.set_cons_zero, List.set_cons_succ]
            refine WL.val (by kernel_rfl) (.slice pa A.ps.length pc) (by go_simp) ?_
            simp only [Act.put, List.setIfInBounds_toArray, List.set_cons_zero, List.set_cons_succ]
            refine WL.val (by kernel_rfl) (.int .i64 (A.ps.length : Int)) (by go_simp) ?_
            simp only [Act.put, List.setIfInBounds_toArray, List.set_cons_zero, List.set_cons_succ]
            refine WL.val (by kernel_rfl) (.bool false) (by go_simp) ?_
            simp only [Act.put, List.setIfInBounds_toArray, List.set_cons_zero, List.set_cons_succ]
            refine WL.nil ?_
            refine hK12 _ _ ?_
            refine wp_cond_false rfl ?_
            refine wp_exit ?_
            refine hK4 _ _ ?_
            refine wp_seq_k fun K13 hK13 => ?_
            refine wp_seq_k fun K14 hK14 => ?_
            refine wp_region_list (WL.out ?_)
            refine WL.val (by kernel_rfl) (.int .i64 0) (by go_simp) ?_
            simp only [Act.put, List.setIfInBounds_toArray, List.set_cons_zero, List.set_cons_succ]
            refine WL.nil ?_
            refine hK14 _ _ ?_
            refine wp_block ?_
            refine wp_loop (fun ac wq => ∃ (u : Nat) (y4 y55 y56 y57 y58 y59 y60 y61 y62 y63 y64 y65 y66 y67 y68 y69 y70 y71 y72 y73 : Value), ac = { tmps := #[.agg (ndA A.au A.ck (.slice pa A.ps.length pc) (.slice oa A.ops.length oc)), .agg (ndA B.au B.ck (.slice pb B.ps.length pd) (.slice ob B.ops.length od)), .pointer (some ⟨g, 0, none⟩), .pointer (some ⟨k, 0, none⟩), y4, .int .i64 (t : Int), .int .i64 (u : Int), .pointer (some ⟨g, 0, none⟩), .int .i64 A.au, .pointer (some ⟨k, 0, none⟩), .int .i64 B.au, .bool false, .bool false, .pointer (some ⟨g, 1, none⟩), .int .i64 A.ck, .pointer (some ⟨k, 1, none⟩), .int .i64 B.ck, .bool false, .bool false, .bool false, .pointer (some ⟨g, 2, none⟩), .slice pa A.ps.length pc, .int .i64 (A.ps.length : Int), .pointer (some ⟨k, 2, none⟩), .slice pb B.ps.length pd, .int .i64 (B.ps.length : Int), .bool false, .bool false, .bool false, .pointer (some ⟨g, 3, none⟩), .slice oa A.ops.length oc, .int .i64 (A.ops.length : Int), .pointer (some ⟨k, 3, none⟩), .slice ob B.ops.length od, .int .i64 (B.ops.length : Int), .bool false, .bool false, .int .i64 (t : Int), .pointer (some ⟨g, 2, none⟩), .slice pa A.ps.length pc, .int .i64 (A.ps.length : Int), .bool false, u42, u43, u44, u45, u46, u47, u48, u49, u50, u51, u52, u53, u54, y55, y56, y57, y58, y59, y60, y61, y62, y63, y64, y65, y66, y67, y68, y69, y70, y71, y72, y73], defers := [] } ∧ u ≤ A.ops.length ∧ (∀ i, i < u → sm (A.ops.getD i zeroOp) (B.ops.getD i zeroOp) = true) ∧ Below w2.heap.size w2 wq) (fun a _ => A.ops.length - (intOf (a.tmps.getD 6 undef)).toNat) ⟨0, u4, undef, undef, undef, undef, undef, undef, undef, undef, undef, undef, undef, undef, undef, undef, undef, undef, undef, undef, undef, rfl, by omega, (fun i hi => by omega), JB.out⟩ ?_
            rintro ac wq ⟨u, y4, y55, y56, y57, y58, y59, y60, y61, y62, y63, y64, y65, y66, y67, y68, y69, y70, y71, y72, y73, rfl, hu, hF, hC⟩
            have a3 := (HXa.out.below hC HXa.out.lt).c 3 (nd_3 _ _ _ _)
            by_cases hul : u < A.ops.length
            · have hul' : (u : Int) < (A.ops.length : Int) := by omega
              have hwr2 : IntKind.i64.wrap ((u : Int) + 1) = (u : Int) + 1 := by rw [IntKind.wrap_i64]; have := HA.out.lo; omega
              have hub : u < B.ops.length := by omega
              obtain ⟨ga, fa, rfl, hea⟩ := (HA2.out.below hC).ops.at hul
              obtain ⟨gb, fb, rfl, heb⟩ := (HB2.out.below hC).ops.at hub
              obtain ⟨x, hx⟩ : ∃ x, x = A.ops.getD u zeroOp := ⟨_, rfl⟩
              obtain ⟨y, hy⟩ : ∃ y, y = B.ops.getD u zeroOp := ⟨_, rfl⟩
              rw [← hx] at hea
              rw [← hy] at heb
              have hub' : (u : Int) < (B.ops.length : Int) := by omega
              have HS0 : Keep (∀ wx, Below wq.heap.size wq wx → wx.cell? ⟨g, 3, none⟩ = some (.slice (some ⟨ga, fa, none⟩) A.ops.length oc) ∧ wx.cell? ⟨k, 3, none⟩ = some (.slice (some ⟨gb, fb, none⟩) B.ops.length od) ∧ wx.rangeAt ga (fa + u * 37) (opL x) ∧ wx.rangeAt gb (fb + u * 37) (opL y)) := ⟨fun wx hb => ⟨((HXa.out.below hC HXa.out.lt).below hb (HXa.out.below hC HXa.out.lt).lt).c 3 (nd_3 _ _ _ _), ((HXb.out.below hC HXb.out.lt).below hb (HXb.out.below hC HXb.out.lt).lt).c 3 (nd_3 _ _ _ _), range_grown hea (Grown.below (S := fun _ => False) hb) (fun h => h), range_grown heb (Grown.below (S := fun _ => False) hb) (fun h => h)⟩⟩
              have Jx := Keep.mk hx
              have Jy := Keep.mk hy
              have JC := Keep.mk hC
              have JF := Keep.mk hF
              clear hea heb hx hy hC hF
              refine wp_seq_k fun K15 hK15 => ?_
              refine wp_seq_k fun K16 hK16 => ?_
              refine wp_region_list (WL.out ?_)
              refine WL.val (by kernel_rfl) (.int .i64 (u : Int)) (by go_simp) ?_
              simp only [Act.put, List.setIfInBounds_toArray, List.set_cons_zero, List.set_cons_succ]
              refine WL.val (by kernel_rfl) (.pointer (some ⟨g, 3, none⟩)) (by go_simp) ?_
              simp only [Act.put, List.setIfInBounds_toArray, List.set_cons_zero, List.set_cons_succ]
              refine WL.val (by kernel_rfl) (.slice (some ⟨ga, fa, none⟩) A.ops.length oc) (by go_simp) ?_
              simp only [Act.put, List.setIfInBounds_toArray, List.set_cons_zero, List.set_cons_succ]
              refine WL.val (by kernel_rfl) (.int .i64 (A.ops.length : Int)) (by go_simp) ?_
              simp only [Act.put, List.setIfInBounds_toArray, List.set_cons_zero, List.set_cons_succ]
              refine WL.val (by kernel_rfl) (.bool true) (by go_simp) ?_
              simp only [Act.put, List.setIfInBounds_toArray, List.set_cons_zero, List.set_cons_succ]
              refine WL.nil ?_
              refine hK16 _ _ ?_
              refine wp_cond_true rfl ?_
              refine wp_skip ?_
              refine hK15 _ _ ?_
              refine wp_seq_k fun K17 hK17 => ?_
              refine wp_block ?_
              refine wp_seq_k fun K18 hK18 => ?_
              have hD0 : Below wq.heap.size wq wq.drew := (Below.refl _ _).drew
              clear a3
              rcases Bool.eq_false_or_eq_true (sm x y) with hxy | hxy
              · skip
                refine wp_region_held_drew (S := fun wx => wx.cell? ⟨g, 3, none⟩ = some (.slice (some ⟨ga, fa, none⟩) A.ops.length oc) ∧ wx.cell? ⟨k, 3, none⟩ = some (.slice (some ⟨gb, fb, none⟩) B.ops.length od) ∧ wx.rangeAt ga (fa + u * 37) (opL x) ∧ wx.rangeAt gb (fb + u * 37) (opL y)) (by kernel_rfl) (HS0.out _ hD0) (fun hHeld => ?_)
                refine wpAnyH_take (i := 0) (oi := ⟨some 62, Op.fieldAddr 27 (Operand.tmp 2) 3, 0, _, _, none⟩) (v := .pointer (some ⟨g, 3, none⟩)) rfl (by kernel_rfl) (by kernel_rfl) (by kernel_rfl) (fun _ _ _ h => h) (Or.inl ⟨by rfl, fun w hS => by obtain ⟨hs1, hs2, hs3, hs4⟩ := hS; go_simp⟩) hHeld ?_
                simp only [Act.put, List.setIfInBounds_toArray, List.set_cons_zero, List.set_cons_succ]
                refine wpAnyH_take (i := 1) (oi := ⟨some 63, Op.load 25 (Operand.tmp 62), 25, _, _, none⟩) (v := .slice (some ⟨ga, fa, none⟩) A.ops.length oc) rfl (by kernel_rfl) (by kernel_rfl) (by kernel_rfl) (fun _ _ _ h => h) (Or.inl ⟨by rfl, fun w hS => by obtain ⟨hs1, hs2, hs3, hs4⟩ := hS; go_simp⟩) hHeld ?_
                simp only [Act.put, List.setIfInBounds_toArray, List.set_cons_zero, List.set_cons_succ]
                refine wpAnyH_take (i := 2) (oi := ⟨some 64, Op.move (Operand.tmp 6), 3, _, _, none⟩) (v := .int .i64 (u : Int)) rfl (by kernel_rfl) (by kernel_rfl) (by kernel_rfl) (fun _ _ _ h => h) (Or.inl ⟨by rfl, fun w hS => by obtain ⟨hs1, hs2, hs3, hs4⟩ := hS; go_simp⟩) hHeld ?_
                simp only [Act.put, List.setIfInBounds_toArray, List.set_cons_zero, List.set_cons_succ]
                refine wpAnyH_take (i := 3) (oi := ⟨some 65, Op.indexAddr 25 (Operand.tmp 63) (Operand.tmp 64), 0, _, _, none⟩) (v := .pointer (some ⟨ga, fa + u * 37, none⟩)) rfl (by kernel_rfl) (by kernel_rfl) (by kernel_rfl) (fun _ _ _ h => h) (Or.inl ⟨by rfl, fun w hS => by obtain ⟨hs1, hs2, hs3, hs4⟩ := hS; go_simp⟩) hHeld ?_
                simp only [Act.put, List.setIfInBounds_toArray, List.set_cons_zero, List.set_cons_succ]
                refine wpAnyH_take (i := 4) (oi := ⟨some 66, Op.load 79 (Operand.tmp 65), 79, _, _, none⟩) (v := .agg (opL x).toArray) rfl (by kernel_rfl) (by kernel_rfl) (by kernel_rfl) (fun _ _ _ h => h) (yieldsIf_load_mid (by rfl) 79 (Operand.tmp 65) rfl ga (fa + u * 37) rfl (opL x) _ (fun w hS => hS.2.2.1) Try.underlying79 rfl (Try.size79L x)) hHeld ?_
                simp only [Act.put, List.setIfInBounds_toArray, List.set_cons_zero, List.set_cons_succ]
                refine wpAnyH_take (i := 5) (oi := ⟨some 67, Op.fieldAddr 27 (Operand.tmp 3) 3, 0, _, _, none⟩) (v := .pointer (some ⟨k, 3, none⟩)) rfl (by kernel_rfl) (by kernel_rfl) (by kernel_rfl) (fun _ _ _ h => h) (Or.inl ⟨by rfl, fun w hS => by obtain ⟨hs1, hs2, hs3, hs4⟩ := hS; go_simp⟩) hHeld ?_
                simp only [Act.put, List.setIfInBounds_toArray, List.set_cons_zero, List.set_cons_succ]
                refine wpAnyH_take (i := 6) (oi := ⟨some 68, Op.load 25 (Operand.tmp 67), 25, _, _, none⟩) (v := .slice (some ⟨gb, fb, none⟩) B.ops.length od) rfl (by kernel_rfl) (by kernel_rfl) (by kernel_rfl) (fun _ _ _ h => h) (Or.inl ⟨by rfl, fun w hS => by obtain ⟨hs1, hs2, hs3, hs4⟩ := hS; go_simp⟩) hHeld ?_
                simp only [Act.put, List.setIfInBounds_toArray, List.set_cons_zero, List.set_cons_succ]
                refine wpAnyH_take (i := 7) (oi := ⟨some 69, Op.move (Operand.tmp 6), 3, _, _, none⟩) (v := .int .i64 (u : Int)) rfl (by kernel_rfl) (by kernel_rfl) (by kernel_rfl) (fun _ _ _ h => h) (Or.inl ⟨by rfl, fun w hS => by obtain ⟨hs1, hs2, hs3, hs4⟩ := hS; go_simp⟩) hHeld ?_
                simp only [Act.put, List.setIfInBounds_toArray, List.set_cons_zero, List.set_cons_succ]
                refine wpAnyH_take (i := 8) (oi := ⟨some 70, Op.indexAddr 25 (Operand.tmp 68) (Operand.tmp 69), 0, _, _, none⟩) (v := .pointer (some ⟨gb, fb + u * 37, none⟩)) rfl (by kernel_rfl) (by kernel_rfl) (by kernel_rfl) (fun _ _ _ h => h) (Or.inl ⟨by rfl, fun w hS => by obtain ⟨hs1, hs2, hs3, hs4⟩ := hS; go_simp⟩) hHeld ?_
                simp only [Act.put, List.setIfInBounds_toArray, List.set_cons_zero, List.set_cons_succ]
                refine wpAnyH_take (i := 9) (oi := ⟨some 71, Op.load 79 (Operand.tmp 70), 79, _, _, none⟩) (v := .agg (opL y).toArray) rfl (by kernel_rfl) (by kernel_rfl) (by kernel_rfl) (fun _ _ _ h => h) (yieldsIf_load_mid (by rfl) 79 (Operand.tmp 70) rfl gb (fb + u * 37) rfl (opL y) _ (fun w hS => hS.2.2.2) Try.underlying79 rfl (Try.size79L y)) hHeld ?_
                simp only [Act.put, List.setIfInBounds_toArray, List.set_cons_zero, List.set_cons_succ]
                refine wpAnyH_ready (rs := [10]) (by kernel_rfl) (by simp) ?_
                refine AllReadyH.cons (o := ⟨some 72, Op.call { callee := Callee.value (Operand.func 37), args := #[Operand.tmp 66, Operand.tmp 71], argTypes := #[79, 79] }, 4, _, _, none⟩) rfl (fun K hK => ?_) AllReadyH.nil
                rw [if_pos (by rfl)]
                refine wp_callF 37 _ _ rfl Try.in37 #[.agg (opA x), .agg (opA y)] (by simp [Act.eval, rng_load]) (fun vz wz => vz = .bool true ∧ Below wq.heap.size wq wz) ?_ ?_
                · refine (rsame_any x y wq.drew).mono ?_
                  rintro e wz ⟨rfl, h⟩
                  rw [hxy]
                  exact ⟨_, rfl, rfl, hD0.trans (h.mono hD0.size)⟩
                rintro vz w7 ⟨rfl, h7⟩
                have HB7 := Keep.mk h7
                clear h7
                refine hK.out _ _ (HS0.out _ HB7.out) fun hHeld2 => ?_
                clear hK
                simp only [Act.put, List.setIfInBounds_toArray, List.set_cons_zero, List.set_cons_succ]
                refine wpAnyH_take (i := 11) (oi := ⟨some 73, Op.unOp UnOp.not 4 (Operand.tmp 72), 4, _, _, none⟩) (v := .bool false) rfl (by kernel_rfl) (by kernel_rfl) (by kernel_rfl) (fun _ _ _ h => h) (Or.inl ⟨by rfl, fun w hS => by obtain ⟨hs1, hs2, hs3, hs4⟩ := hS; go_simp⟩) hHeld2 ?_
                simp only [Act.put, List.setIfInBounds_toArray, List.set_cons_zero, List.set_cons_succ]
                refine wpAnyH_done (by kernel_rfl) ?_ _
                refine hK18 _ _ ?_
                refine wp_cond_false rfl ?_
                refine wp_skip ?_
                refine hK17 _ _ ?_
                refine wp_region_list (WL.out ?_)
                refine WL.val (by kernel_rfl) (.int .i64 (u : Int)) (by go_simp) ?_
                simp only [Act.put, List.setIfInBounds_toArray, List.set_cons_zero, List.set_cons_succ]
                refine WL.val (by kernel_rfl) (.int .i64 ((u : Int) + 1)) (by go_simp) ?_
                simp only [Act.put, List.setIfInBounds_toArray, List.set_cons_zero, List.set_cons_succ]
                refine WL.val (by kernel_rfl) (.int .i64 ((u : Int) + 1)) (by go_simp) ?_
                simp only [Act.put, List.setIfInBounds_toArray, List.set_cons_zero, List.set_cons_succ]
                refine WL.nil ?_
                refine ⟨⟨u + 1, y4, .int .i64 (u : Int), .pointer (some ⟨g, 3, none⟩), .slice (some ⟨ga, fa, none⟩) A.ops.length oc, .int .i64 (A.ops.length : Int), .bool true, .int .i64 (u : Int), .int .i64 ((u : Int) + 1), .pointer (some ⟨g, 3, none⟩), .slice (some ⟨ga, fa, none⟩) A.ops.length oc, .int .i64 (u : Int), .pointer (some ⟨ga, fa + u * 37, none⟩), .agg (opL x).toArray, .pointer (some ⟨k, 3, none⟩), .slice (some ⟨gb, fb, none⟩) B.ops.length od, .int .i64 (u : Int), .pointer (some ⟨gb, fb + u * 37, none⟩), .agg (opL y).toArray, .bool true, .bool false, rfl, by omega, fun i hi => ?_, JC.out.trans (HB7.out.mono JC.out.size)⟩, ?_⟩
                · by_cases hit : i < u
                  · exact JF.out i hit
                  · rw [show i = u by omega, ← Jx.out, ← Jy.out]; exact hxy
                · simp only [intOf]; show A.ops.length - ((u : Int) + 1).toNat < A.ops.length - ((u : Int)).toNat; omega
              · skip
                refine wp_region_held_drew (S := fun wx => wx.cell? ⟨g, 3, none⟩ = some (.slice (some ⟨ga, fa, none⟩) A.ops.length oc) ∧ wx.cell? ⟨k, 3, none⟩ = some (.slice (some ⟨gb, fb, none⟩) B.ops.length od) ∧ wx.rangeAt ga (fa + u * 37) (opL x) ∧ wx.rangeAt gb (fb + u * 37) (opL y)) (by kernel_rfl) (HS0.out _ hD0) (fun hHeld => ?_)
                refine wpAnyH_take (i := 0) (oi := ⟨some 62, Op.fieldAddr 27 (Operand.tmp 2) 3, 0, _, _, none⟩) (v := .pointer (some ⟨g, 3, none⟩)) rfl (by kernel_rfl) (by kernel_rfl) (by kernel_rfl) (fun _ _ _ h => h) (Or.inl ⟨by rfl, fun w hS => by obtain ⟨hs1, hs2, hs3, hs4⟩ := hS; go_simp⟩) hHeld ?_
                simp only [Act.put, List.setIfInBounds_toArray, List.set_cons_zero, List.set_cons_succ]
                refine wpAnyH_take (i := 1) (oi := ⟨some 63, Op.load 25 (Operand.tmp 62), 25, _, _, none⟩) (v := .slice (some ⟨ga, fa, none⟩) A.ops.length oc) rfl (by kernel_rfl) (by kernel_rfl) (by kernel_rfl) (fun _ _ _ h => h) (Or.inl ⟨by rfl, fun w hS => by obtain ⟨hs1, hs2, hs3, hs4⟩ := hS; go_simp⟩) hHeld ?_
                simp only [Act.put, List.setIfInBounds_toArray, List.set_cons_zero, List.set_cons_succ]
                refine wpAnyH_take (i := 2) (oi := ⟨some 64, Op.move (Operand.tmp 6), 3, _, _, none⟩) (v := .int .i64 (u : Int)) rfl (by kernel_rfl) (by kernel_rfl) (by kernel_rfl) (fun _ _ _ h => h) (Or.inl ⟨by rfl, fun w hS => by obtain ⟨hs1, hs2, hs3, hs4⟩ := hS; go_simp⟩) hHeld ?_
                simp only [Act.put, List.setIfInBounds_toArray, List.set_cons_zero, List.set_cons_succ]
                refine wpAnyH_take (i := 3) (oi := ⟨some 65, Op.indexAddr 25 (Operand.tmp 63) (Operand.tmp 64), 0, _, _, none⟩) (v := .pointer (some ⟨ga, fa + u * 37, none⟩)) rfl (by kernel_rfl) (by kernel_rfl) (by kernel_rfl) (fun _ _ _ h => h) (Or.inl ⟨by rfl, fun w hS => by obtain ⟨hs1, hs2, hs3, hs4⟩ := hS; go_simp⟩) hHeld ?_
                simp only [Act.put, List.setIfInBounds_toArray, List.set_cons_zero, List.set_cons_succ]
                refine wpAnyH_take (i := 4) (oi := ⟨some 66, Op.load 79 (Operand.tmp 65), 79, _, _, none⟩) (v := .agg (opL x).toArray) rfl (by kernel_rfl) (by kernel_rfl) (by kernel_rfl) (fun _ _ _ h => h) (yieldsIf_load_mid (by rfl) 79 (Operand.tmp 65) rfl ga (fa + u * 37) rfl (opL x) _ (fun w hS => hS.2.2.1) Try.underlying79 rfl (Try.size79L x)) hHeld ?_
                simp only [Act.put, List.setIfInBounds_toArray, List.set_cons_zero, List.set_cons_succ]
                refine wpAnyH_take (i := 5) (oi := ⟨some 67, Op.fieldAddr 27 (Operand.tmp 3) 3, 0, _, _, none⟩) (v := .pointer (some ⟨k, 3, none⟩)) rfl (by kernel_rfl) (by kernel_rfl) (by kernel_rfl) (fun _ _ _ h => h) (Or.inl ⟨by rfl, fun w hS => by obtain ⟨hs1, hs2, hs3, hs4⟩ := hS; go_simp⟩) hHeld ?_
                simp only [Act.put, List.setIfInBounds_toArray, List.set_cons_zero, List.set_cons_succ]
                refine wpAnyH_take (i := 6) (oi := ⟨some 68, Op.load 25 (Operand.tmp 67), 25, _, _, none⟩) (v := .slice (some ⟨gb, fb, none⟩) B.ops.length od) rfl (by kernel_rfl) (by kernel_rfl) (by kernel_rfl) (fun _ _ _ h => h) (Or.inl ⟨by rfl, fun w hS => by obtain ⟨hs1, hs2, hs3, hs4⟩ := hS; go_simp⟩) hHeld ?_
                simp only [Act.put, List.setIfInBounds_toArray, List.set_cons_zero, List.set_cons_succ]
                refine wpAnyH_take (i := 7) (oi := ⟨some 69, Op.move (Operand.tmp 6), 3, _, _, none⟩) (v := .int .i64 (u : Int)) rfl (by kernel_rfl) (by kernel_rfl) (by kernel_rfl) (fun _ _ _ h => h) (Or.inl ⟨by rfl, fun w hS => by obtain ⟨hs1, hs2, hs3, hs4⟩ := hS; go_simp⟩) hHeld ?_
                simp only [Act.put, List.setIfInBounds_toArray, List.set_cons_zero, List.set_cons_succ]
                refine wpAnyH_take (i := 8) (oi := ⟨some 70, Op.indexAddr 25 (Operand.tmp 68) (Operand.tmp 69), 0, _, _, none⟩) (v := .pointer (some ⟨gb, fb + u * 37, none⟩)) rfl (by kernel_rfl) (by kernel_rfl) (by kernel_rfl) (fun _ _ _ h => h) (Or.inl ⟨by rfl, fun w hS => by obtain ⟨hs1, hs2, hs3, hs4⟩ := hS; go_simp⟩) hHeld ?_
                simp only [Act.put, List.setIfInBounds_toArray, List.set_cons_zero, List.set_cons_succ]
                refine wpAnyH_take (i := 9) (oi := ⟨some 71, Op.load 79 (Operand.tmp 70), 79, _, _, none⟩) (v := .agg (opL y).toArray) rfl (by kernel_rfl) (by kernel_rfl) (by kernel_rfl) (fun _ _ _ h => h) (yieldsIf_load_mid (by rfl) 79 (Operand.tmp 70) rfl gb (fb + u * 37) rfl (opL y) _ (fun w hS => hS.2.2.2) Try.underlying79 rfl (Try.size79L y)) hHeld ?_
                simp only [Act.put, List.setIfInBounds_toArray, List.set_cons_zero, List.set_cons_succ]
                refine wpAnyH_ready (rs := [10]) (by kernel_rfl) (by simp) ?_
                refine AllReadyH.cons (o := ⟨some 72, Op.call { callee := Callee.value (Operand.func 37), args := #[Operand.tmp 66, Operand.tmp 71], argTypes := #[79, 79] }, 4, _, _, none⟩) rfl (fun K hK => ?_) AllReadyH.nil
                rw [if_pos (by rfl)]
                refine wp_callF 37 _ _ rfl Try.in37 #[.agg (opA x), .agg (opA y)] (by simp [Act.eval, rng_load]) (fun vz wz => vz = .bool false ∧ Below wq.heap.size wq wz) ?_ ?_
                · refine (rsame_any x y wq.drew).mono ?_
                  rintro e wz ⟨rfl, h⟩
                  rw [hxy]
                  exact ⟨_, rfl, rfl, hD0.trans (h.mono hD0.size)⟩
                rintro vz w7 ⟨rfl, h7⟩
                have HB7 := Keep.mk h7
                clear h7
                refine hK.out _ _ (HS0.out _ HB7.out) fun hHeld2 => ?_
                clear hK
                simp only [Act.put, List.setIfInBounds_toArray, List.set_cons_zero, List.set_cons_succ]
                refine wpAnyH_take (i := 11) (oi := ⟨some 73, Op.unOp UnOp.not 4 (Operand.tmp 72), 4, _, _, none⟩) (v := .bool true) rfl (by kernel_rfl) (by kernel_rfl) (by kernel_rfl) (fun _ _ _ h => h) (Or.inl ⟨by rfl, fun w hS => by obtain ⟨hs1, hs2, hs3, hs4⟩ := hS; go_simp⟩) hHeld2 ?_
                simp only [Act.put, List.setIfInBounds_toArray, List.set_cons_zero, List.set_cons_succ]
                refine wpAnyH_done (by kernel_rfl) ?_ _
                refine hK18 _ _ ?_
                refine wp_cond_true rfl ?_
                refine wp_seq_k fun K19 hK19 => ?_
                refine wp_region_list (WL.out ?_)
                refine WL.val (by kernel_rfl) (.bool false) (by go_simp) ?_
                simp only [Act.put, List.setIfInBounds_toArray, List.set_cons_zero, List.set_cons_succ]
                refine WL.nil ?_
                refine hK19 _ _ ?_
                refine wp_ret ?_
                go_ret
                have hno : sameN A B = false := by
                  have : smL A.ops B.ops = false := by
                    rw [Bool.eq_false_iff]; intro h
                    simp only [smL, Bool.and_eq_true, List.all_eq_true, List.mem_range] at h
                    have := h.2 u hul
                    rw [← Jx.out, ← Jy.out, hxy] at this; cases this
                  simp [sameN, this]
                exact ⟨by rw [hno]; rfl, B2.out.trans ((JC.out.mono B2x.out).trans (HB7.out.mono (Nat.le_trans B2x.out JC.out.size)))⟩
            · have hul' : ¬ (u : Int) < (A.ops.length : Int) := by omega
              have hle3 : B.ops.length ≤ u := by omega
              refine wp_seq_k fun K20 hK20 => ?_
              refine wp_seq_k fun K21 hK21 => ?_
              refine wp_region_list (WL.out ?_)
              refine WL.val (by kernel_rfl) (.int .i64 (u : Int)) (by go_simp) ?_
              simp only [Act.put, List.setIfInBounds_toArray, List.set_cons_zero, List.set_cons_succ]
              refine WL.val (by kernel_rfl) (.pointer (some ⟨g, 3, none⟩)) (by go_simp) ?_
              simp only [Act.put, List.setIfInBounds_toArray, List.set_cons_zero, List.set_cons_succ]
              refine WL.val (by kernel_rfl) (.slice oa A.ops.length oc) (by go_simp) ?_
              simp only [Act.put, List.setIfInBounds_toArray, List.set_cons_zero, List.set_cons_succ]
              refine WL.val (by kernel_rfl) (.int .i64 (A.ops.length : Int)) (by go_simp) ?_
              simp only [Act.put, List.setIfInBounds_toArray, List.set_cons_zero, List.set_cons_succ]
              refine WL.val (by kernel_rfl) (.bool false) (by go_simp) ?_
              simp only [Act.put, List.setIfInBounds_toArray, List.set_cons_zero, List.set_cons_succ]
              refine WL.nil ?_
              refine hK21 _ _ ?_
              refine wp_cond_false rfl ?_
              refine wp_exit ?_
              refine hK13 _ _ ?_
              refine wp_seq_k fun K22 hK22 => ?_
              refine wp_region_list (WL.out ?_)
              refine WL.val (by kernel_rfl) (.bool true) (by go_simp) ?_
              simp only [Act.put, List.setIfInBounds_toArray, List.set_cons_zero, List.set_cons_succ]
              refine WL.nil ?_
              refine hK22 _ _ ?_
              refine wp_ret ?_
              go_ret
              have hyes : sameN A B = true := by
                have : smL A.ops B.ops = true := by
                  simp only [smL, Bool.and_eq_true, List.all_eq_true, List.mem_range, decide_eq_true_eq]
                  exact ⟨h1_28, fun i hi => hF i (by omega)⟩
                simp [sameN, this, h1_4, h1_10, hpe.out]
              exact ⟨by rw [hyes]; rfl, B2.out.trans (hC.mono B2x.out)⟩
        · have h1_28i : ¬ (A.ops.length : Int) = (B.ops.length : Int) := by omega
          refine WL.val (by kernel_rfl) (.bool true) (by go_simp) ?_
          simp only [Act.put, List.setIfInBounds_toArray, List.set_cons_zero, List.set_cons_succ]
          refine WL.val (by kernel_rfl) (.bool true) (by go_simp) ?_
          simp only [Act.put, List.setIfInBounds_toArray, List.set_cons_zero, List.set_cons_succ]
          refine WL.nil ?_
          refine hK3 _ _ ?_
          refine wp_cond_true rfl ?_
          refine wp_seq_k fun K23 hK23 => ?_
          refine wp_region_list (WL.out ?_)
          refine WL.val (by kernel_rfl) (.bool false) (by go_simp) ?_
          simp only [Act.put, List.setIfInBounds_toArray, List.set_cons_zero, List.set_cons_succ]
          refine WL.nil ?_
          refine hK23 _ _ ?_
          refine wp_ret ?_
          go_ret
          have hno : sameN A B = false := by simp [sameN, smL, h1_28]
          exact ⟨by rw [hno]; rfl, B2.out⟩
      · have h1_19i : ¬ (A.ps.length : Int) = (B.ps.length : Int) := by omega
        refine WL.val (by kernel_rfl) (.bool true) (by go_simp) ?_
        simp only [Act.put, List.setIfInBounds_toArray, List.set_cons_zero, List.set_cons_succ]
        refine WL.val (by kernel_rfl) (.bool true) (by go_simp) ?_
        simp only [Act.put, List.setIfInBounds_toArray, List.set_cons_zero, List.set_cons_succ]
        refine WL.val (by kernel_rfl) (.bool true) (by go_simp) ?_
        simp only [Act.put, List.setIfInBounds_toArray, List.set_cons_zero, List.set_cons_succ]
        refine WL.skip (by kernel_rfl) ?_
        simp only [Act.put, List.setIfInBounds_toArray, List.set_cons_zero, List.set_cons_succ]
        refine WL.skip (by kernel_rfl) ?_
        simp only [Act.put, List.setIfInBounds_toArray, List.set_cons_zero, List.set_cons_succ]
        refine WL.skip (by kernel_rfl) ?_
        simp only [Act.put, List.setIfInBounds_toArray, List.set_cons_zero, List.set_cons_succ]
        refine WL.skip (by kernel_rfl) ?_
        simp only [Act.put, List.setIfInBounds_toArray, List.set_cons_zero, List.set_cons_succ]
        refine WL.skip (by kernel_rfl) ?_
        simp only [Act.put, List.setIfInBounds_toArray, List.set_cons_zero, List.set_cons_succ]
        refine WL.skip (by kernel_rfl) ?_
        simp only [Act.put, List.setIfInBounds_toArray, List.set_cons_zero, List.set_cons_succ]
        refine WL.skip (by kernel_rfl) ?_
        simp only [Act.put, List.setIfInBounds_toArray, List.set_cons_zero, List.set_cons_succ]
        refine WL.val (by kernel_rfl) (.bool true) (by go_simp) ?_
        simp only [Act.put, List.setIfInBounds_toArray, List.set_cons_zero, List.set_cons_succ]
        refine WL.nil ?_
        refine hK3 _ _ ?_
        refine wp_cond_true rfl ?_
        refine wp_seq_k fun K24 hK24 => ?_
        refine wp_region_list (WL.out ?_)
        refine WL.val (by kernel_rfl) (.bool false) (by go_simp) ?_
        simp only [Act.put, List.setIfInBounds_toArray, List.set_cons_zero, List.set_cons_succ]
        refine WL.nil ?_
        refine hK24 _ _ ?_
        refine wp_ret ?_
        go_ret
        have hno : sameN A B = false := by
          have : A.ps ≠ B.ps := fun e => h1_19 (by rw [e])
          simp [sameN, this]
        exact ⟨by rw [hno]; rfl, B2.out⟩
    · skip
      refine WL.val (by kernel_rfl) (.bool true) (by go_simp) ?_
      simp only [Act.put, List.setIfInBounds_toArray, List.set_cons_zero, List.set_cons_succ]
      refine WL.val (by kernel_rfl) (.bool true) (by go_simp) ?_
      simp only [Act.put, List.setIfInBounds_toArray, List.set_cons_zero, List.set_cons_succ]
      refine WL.val (by kernel_rfl) (.bool true) (by go_simp) ?_
      simp only [Act.put, List.setIfInBounds_toArray, List.set_cons_zero, List.set_cons_succ]
      refine WL.skip (by kernel_rfl) ?_
      simp only [Act.put, List.setIfInBounds_toArray, List.set_cons_zero, List.set_cons_succ]
      refine WL.skip (by kernel_rfl) ?_
      simp only [Act.put, List.setIfInBounds_toArray, List.set_cons_zero, List.set_cons_succ]
      refine WL.skip (by kernel_rfl) ?_
      simp only [Act.put, List.setIfInBounds_toArray, List.set_cons_zero, List.set_cons_succ]
      refine WL.skip (by kernel_rfl) ?_
      simp only [Act.put, List.setIfInBounds_toArray, List.set_cons_zero, List.set_cons_succ]
      refine WL.skip (by kernel_rfl) ?_
      simp only [Act.put, List.setIfInBounds_toArray, List.set_cons_zero, List.set_cons_succ]
      refine WL.skip (by kernel_rfl) ?_
      simp only [Act.put, List.setIfInBounds_toArray, List.set_cons_zero, List.set_cons_succ]
      refine WL.skip (by kernel_rfl) ?_
      simp only [Act.put, List.setIfInBounds_toArray, List.set_cons_zero, List.set_cons_succ]
      refine WL.val (by kernel_rfl) (.bool true) (by go_simp) ?_
      simp only [Act.put, List.setIfInBounds_toArray, List.set_cons_zero, List.set_cons_succ]
      refine WL.val (by kernel_rfl) (.bool true) (by go_simp) ?_
      simp only [Act.put, List.setIfInBounds_toArray, List.set_cons_zero, List.set_cons_succ]
      refine WL.skip (by kernel_rfl) ?_
      simp only [Act.put, List.setIfInBounds_toArray, List.set_cons_zero, List.set_cons_succ]
      refine WL.skip (by kernel_rfl) ?_
      simp only [Act.put, List.setIfInBounds_toArray, List.set_cons_zero, List.set_cons_succ]
      refine WL.skip (by kernel_rfl) ?_
      simp only [Act.put, List.setIfInBounds_toArray, List.set_cons_zero, List.set_cons_succ]
      refine WL.skip (by kernel_rfl) ?_
      simp only [Act.put, List.setIfInBounds_toArray, List.set_cons_zero, List.set_cons_succ]
      refine WL.skip (by kernel_rfl) ?_
      simp only [Act.put, List.setIfInBounds_toArray, List.set_cons_zero, List.set_cons_succ]
      refine WL.skip (by kernel_rfl) ?_
      simp only [Act.put, List.setIfInBounds_toArray, List.set_cons_zero, List.set_cons_succ]
      refine WL.skip (by kernel_rfl) ?_
      simp only [Act.put, List.setIfInBounds_toArray, List.set_cons_zero, List.set_cons_succ]
      refine WL.val (by kernel_rfl) (.bool true) (by go_simp) ?_
      simp only [Act.put, List.setIfInBounds_toArray, List.set_cons_zero, List.set_cons_succ]
      refine WL.nil ?_
      refine hK3 _ _ ?_
      refine wp_cond_true rfl ?_
      refine wp_seq_k fun K25 hK25 => ?_
      refine wp_region_list (WL.out ?_)
      refine WL.val (by kernel_rfl) (.bool false) (by go_simp) ?_
      simp only [Act.put, List.setIfInBounds_toArray, List.set_cons_zero, List.set_cons_succ]
      refine WL.nil ?_
      refine hK25 _ _ ?_
      refine wp_ret ?_
      go_ret
      have hno : sameN A B = false := by simp [sameN, h1_10]
      exact ⟨by rw [hno]; rfl, B2.out⟩
  · skip
    refine WL.val (by kernel_rfl) (.bool true) (by go_simp) ?_
    simp only [Act.put, List.setIfInBounds_toArray, List.set_cons_zero, List.set_cons_succ]
    refine WL.val (by kernel_rfl) (.bool true) (by go_simp) ?_
    simp only [Act.put, List.setIfInBounds_toArray, List.set_cons_zero, List.set_cons_succ]
    refine WL.skip (by kernel_rfl) ?_
    simp only [Act.put, List.setIfInBounds_toArray, List.set_cons_zero, List.set_cons_succ]
    refine WL.skip (by kernel_rfl) ?_
    simp only [Act.put, List.setIfInBounds_toArray, List.set_cons_zero, List.set_cons_succ]
    refine WL.skip (by kernel_rfl) ?_
    simp only [Act.put, List.setIfInBounds_toArray, List.set_cons_zero, List.set_cons_succ]
    refine WL.skip (by kernel_rfl) ?_
    simp only [Act.put, List.setIfInBounds_toArray, List.set_cons_zero, List.set_cons_succ]
    refine WL.skip (by kernel_rfl) ?_
    simp only [Act.put, List.setIfInBounds_toArray, List.set_cons_zero, List.set_cons_succ]
    refine WL.val (by kernel_rfl) (.bool true) (by go_simp) ?_
    simp only [Act.put, List.setIfInBounds_toArray, List.set_cons_zero, List.set_cons_succ]
    refine WL.val (by kernel_rfl) (.bool true) (by go_simp) ?_
    simp only [Act.put, List.setIfInBounds_toArray, List.set_cons_zero, List.set_cons_succ]
    refine WL.skip (by kernel_rfl) ?_
    simp only [Act.put, List.setIfInBounds_toArray, List.set_cons_zero, List.set_cons_succ]
    refine WL.skip (by kernel_rfl) ?_
    simp only [Act.put, List.setIfInBounds_toArray, List.set_cons_zero, List.set_cons_succ]
    refine WL.skip (by kernel_rfl) ?_
    simp only [Act.put, List.setIfInBounds_toArray, List.set_cons_zero, List.set_cons_succ]
    refine WL.skip (by kernel_rfl) ?_
    simp only [Act.put, List.setIfInBounds_toArray, List.set_cons_zero, List.set_cons_succ]
    refine WL.skip (by kernel_rfl) ?_
    simp only [Act.put, List.setIfInBounds_toArray, List.set_cons_zero, List.set_cons_succ]
    refine WL.skip (by kernel_rfl) ?_
    simp only [Act.put, List.setIfInBounds_toArray, List.set_cons_zero, List.set_cons_succ]
    refine WL.skip (by kernel_rfl) ?_
    simp only [Act.put, List.setIfInBounds_toArray, List.set_cons_zero, List.set_cons_succ]
    refine WL.val (by kernel_rfl) (.bool true) (by go_simp) ?_
    simp only [Act.put, List.setIfInBounds_toArray, List.set_cons_zero, List.set_cons_succ]
    refine WL.val (by kernel_rfl) (.bool true) (by go_simp) ?_
    simp only [Act.put, List.setIfInBounds_toArray, List.set_cons_zero, List.set_cons_succ]
    refine WL.skip (by kernel_rfl) ?_
    simp only [Act.put, List.setIfInBounds_toArray, List.set_cons_zero, List.set_cons_succ]
    refine WL.skip (by kernel_rfl) ?_
    simp only [Act.put, List.setIfInBounds_toArray, List.set_cons_zero, List.set_cons_succ]
    refine WL.skip (by kernel_rfl) ?_
    simp only [Act.put, List.setIfInBounds_toArray, List.set_cons_zero, List.set_cons_succ]
    refine WL.skip (by kernel_rfl) ?_
    simp only [Act.put, List.setIfInBounds_toArray, List.set_cons_zero, List.set_cons_succ]
    refine WL.skip (by kernel_rfl) ?_
    simp only [Act.put, List.setIfInBounds_toArray, List.set_cons_zero, List.set_cons_succ]
    refine WL.skip (by kernel_rfl) ?_
    simp only [Act.put, List.setIfInBounds_toArray, List.set_cons_zero, List.set_cons_succ]
    refine WL.skip (by kernel_rfl) ?_
    simp only [Act.put, List.setIfInBounds_toArray, List.set_cons_zero, List.set_cons_succ]
    refine WL.val (by kernel_rfl) (.bool true) (by go_simp) ?_
    simp only [Act.put, List.setIfInBounds_toArray, List.set_cons_zero, List.set_cons_succ]
    refine WL.nil ?_
    refine hK3 _ _ ?_
    refine wp_cond_true rfl ?_
    refine wp_seq_k fun K26 hK26 => ?_
    refine wp_region_list (WL.out ?_)
    refine WL.val (by kernel_rfl) (.bool false) (by go_simp) ?_
    simp only [Act.put, List.setIfInBounds_toArray, List.set_cons_zero, List.set_cons_succ]
    refine WL.nil ?_
    refine hK26 _ _ ?_
    refine wp_ret ?_
    go_ret
    have hno : sameN A B = false := by simp [sameN, h1_4]
    exact ⟨by rw [hno]; rfl, B2.out⟩
end Go.Proofs.Ytgpgnldcdimmbaa
