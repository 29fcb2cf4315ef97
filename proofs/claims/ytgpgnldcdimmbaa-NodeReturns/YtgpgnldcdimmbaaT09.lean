import Derived.Test.YtgpgnldcdimmbaaT08
namespace Go.Proofs.Ytgpgnldcdimmbaa
open Go.RowKit
set_option linter.unusedSimpArgs false
set_option linter.unusedVariables false

theorem chkN_ok {N : NodeV} (h : chkN N = 0) : headE N = 0 ∧ (chk N.ops).1 = 0 := by
  unfold chkN at h
  by_cases h0 : headE N = 0
  · rw [if_neg (fun e => e h0)] at h; exact ⟨h0, h⟩
  · rw [if_pos h0] at h; exact absurd h h0
theorem chkN_is {N : NodeV} (h : headE N = 0) : chkN N = (chk N.ops).1 := if_neg (fun e => e h)
theorem chkN_no {N : NodeV} (h : headE N ≠ 0) : chkN N ≠ 0 := by unfold chkN; rw [if_pos h]; exact h
def EncP (N : NodeV) (w : World) (e : Ending) (w' : World) : Prop :=
  Below w.heap.size w w' ∧ ((chkN N ≠ 0 ∧ e = .returned (.tuple #[.slice none 0 0, .int .i64 (chkN N)])) ∨ (chkN N = 0 ∧ 1048576 < (blkL N).length ∧ e = .returned (.tuple #[.slice none 0 0, .int .i64 4])) ∨
    (chkN N = 0 ∧ (blkL N).length ≤ 1048576 ∧ ∃ g, w.heap.size ≤ g ∧ e = .returned (.tuple #[.slice (some ⟨g, 0, none⟩) (blkL N).length (blkL N).length, .int .i64 0]) ∧ Blk w' g 5 (bv (blkL N)).toArray))
def sizeN (N : NodeV) : Int := if chkN N = 0 then ((blkL N).length : Int) else 0
theorem blkL_len {N : NodeV} (h : (chk N.ops).1 = 0) (hp : N.ps.length ≤ 4398046511104) : (blkL N).length ≤ 200000000000000 := by
  have h1 := headL_len N
  have h3 := hB_flat N.ps
  have h4 := form_small N.ops h
  simp only [blkL, List.length_append]; omega
set_option maxRecDepth 8000 in
theorem encode_any (N : NodeV) (vp vo : Value) (w : World) (hN : NdAt w N vp vo) : Calls Try.prog 10 #[.agg (ndA N.au N.ck vp vo)] w (EncP N w) := by
  obtain ⟨pa, pc, rfl⟩ := hN.ps.form
  have HN := Keep.mk hN
  clear hN
  go_enter Try.func10, Try.ntmps10
  refine wp_seq_k fun K1 hK1 => ?_
  refine wp_region_list (WL.out ?_)
  refine WL.box (by kernel_rfl) 27 (.tmp 0) rfl _ rfl ?_
  have HX1 := Keep.mk (Blk.new w 27 (ndA N.au N.ck (.slice pa N.ps.length pc) vo))
  have B1 := Keep.mk (below_new w (.cells (ndA N.au N.ck (.slice pa N.ps.length pc) vo) 27))
  generalize w.alloc (.cells (ndA N.au N.ck (.slice pa N.ps.length pc) vo) 27) = w1 at *
  have HN1 := Keep.mk (HN.out.below B1.out)
  have Hs1 : Keep (w.heap.size < w1.heap.size) := ⟨HX1.out.lt⟩
  have B1x : Keep (w.heap.size ≤ w1.heap.size) := ⟨B1.out.size⟩
  generalize hgg : w.heap.size = g at *
  simp only [Act.put, List.setIfInBounds_toArray, List.set_cons_zero, List.set_cons_succ]
  refine WL.val (by kernel_rfl) (.slice none 0 0) (by go_simp) ?_
  simp only [Act.put, List.setIfInBounds_toArray, List.set_cons_zero, List.set_cons_succ]
  refine WL.val (by kernel_rfl) (.int .i64 0) (by go_simp) ?_
  simp only [Act.put, List.setIfInBounds_toArray, List.set_cons_zero, List.set_cons_succ]
  refine WL.nil ?_
  refine hK1 _ _ ?_
  refine wp_seq_k fun K2 hK2 => ?_
  refine wp_region_list (WL.out ?_)
  refine WL.row (by kernel_rfl) 27 (.tmp 1) rfl g rfl 27 (ndA N.au N.ck (.slice pa N.ps.length pc) vo) _ HX1.out Try.underlying27 rfl (Try.size27B _ _ _ _) ?_
  simp only [Act.put, List.setIfInBounds_toArray, List.set_cons_zero, List.set_cons_succ]
  refine WL.callF (by kernel_rfl) 25 _ _ rfl Try.in25 #[.agg (ndA N.au N.ck (.slice pa N.ps.length pc) vo)] (by simp [Act.eval]) ?_
  refine (lay_any N _ vo w1 HN1.out).mono ?_
  rintro e w2 ⟨hb2, (⟨hh, rfl⟩ | ⟨hh, p, v, rfl, hO⟩)⟩
  · refine ⟨_, rfl, ?_⟩
    have B2 := Keep.mk hb2
    have Hh := Keep.mk (chkN_no hh)
    have hch := chkN_no hh
    clear hb2
    simp only [Act.put, List.setIfInBounds_toArray, List.set_cons_zero, List.set_cons_succ]
    refine WL.val (by kernel_rfl) (.tuple #[.pointer none, .int .i64 (chkN N)]) (by go_simp) ?_
    simp only [Act.put, List.setIfInBounds_toArray, List.set_cons_zero, List.set_cons_succ]
    refine WL.val (by kernel_rfl) (.pointer none) (by go_simp) ?_
    simp only [Act.put, List.setIfInBounds_toArray, List.set_cons_zero, List.set_cons_succ]
    refine WL.val (by kernel_rfl) (.int .i64 (chkN N)) (by go_simp) ?_
    simp only [Act.put, List.setIfInBounds_toArray, List.set_cons_zero, List.set_cons_succ]
    refine WL.val (by kernel_rfl) (.pointer none) (by go_simp) ?_
    simp only [Act.put, List.setIfInBounds_toArray, List.set_cons_zero, List.set_cons_succ]
    refine WL.val (by kernel_rfl) (.int .i64 (chkN N)) (by go_simp) ?_
    simp only [Act.put, List.setIfInBounds_toArray, List.set_cons_zero, List.set_cons_succ]
    refine WL.nil ?_
    refine hK2 _ _ ?_
    refine wp_seq_k fun K3 hK3 => ?_
    refine wp_seq_k fun K4 hK4 => ?_
    refine wp_region_list (WL.out ?_)
    refine WL.val (by kernel_rfl) (.int .i64 (chkN N)) (by go_simp) ?_
    simp only [Act.put, List.setIfInBounds_toArray, List.set_cons_zero, List.set_cons_succ]
    refine WL.val (by kernel_rfl) (.bool true) (by go_simp) ?_
    simp only [Act.put, List.setIfInBounds_toArray, List.set_cons_zero, List.set_cons_succ]
    refine WL.nil ?_
    refine hK4 _ _ ?_
    refine wp_cond_true rfl ?_
    refine wp_seq_k fun K5 hK5 => ?_
    refine wp_region_list (WL.out ?_)
    refine WL.val (by kernel_rfl) (.int .i64 (chkN N)) (by go_simp) ?_
    simp only [Act.put, List.setIfInBounds_toArray, List.set_cons_zero, List.set_cons_succ]
    refine WL.val (by kernel_rfl) (.slice none 0 0) (by go_simp) ?_
    simp only [Act.put, List.setIfInBounds_toArray, List.set_cons_zero, List.set_cons_succ]
    refine WL.val (by kernel_rfl) (.int .i64 (chkN N)) (by go_simp) ?_
    simp only [Act.put, List.setIfInBounds_toArray, List.set_cons_zero, List.set_cons_succ]
    refine WL.nil ?_
    refine hK5 _ _ ?_
    refine wp_ret ?_
    go_ret2
    have BB : Below w.heap.size w w2 := by rw [hgg]; exact B1.out.trans (B2.out.mono B1x.out)
    exact ⟨BB, .inl ⟨Hh.out, rfl⟩⟩
  · refine ⟨_, rfl, ?_⟩
    have B2 := Keep.mk hb2
    have Hh := Keep.mk hh
    have HO := Keep.mk hO
    clear hb2 hO
    simp only [Act.put, List.setIfInBounds_toArray, List.set_cons_zero, List.set_cons_succ]
    refine WL.val (by kernel_rfl) (.tuple #[.pointer (some ⟨p, 0, none⟩), .int .i64 (chkN N)]) (by go_simp) ?_
    simp only [Act.put, List.setIfInBounds_toArray, List.set_cons_zero, List.set_cons_succ]
    refine WL.val (by kernel_rfl) (.pointer (some ⟨p, 0, none⟩)) (by go_simp) ?_
    simp only [Act.put, List.setIfInBounds_toArray, List.set_cons_zero, List.set_cons_succ]
    refine WL.val (by kernel_rfl) (.int .i64 (chkN N)) (by go_simp) ?_
    simp only [Act.put, List.setIfInBounds_toArray, List.set_cons_zero, List.set_cons_succ]
    refine WL.val (by kernel_rfl) (.pointer (some ⟨p, 0, none⟩)) (by go_simp) ?_
    simp only [Act.put, List.setIfInBounds_toArray, List.set_cons_zero, List.set_cons_succ]
    refine WL.val (by kernel_rfl) (.int .i64 (chkN N)) (by go_simp) ?_
    simp only [Act.put, List.setIfInBounds_toArray, List.set_cons_zero, List.set_cons_succ]
    refine WL.nil ?_
    refine hK2 _ _ ?_
    refine wp_seq_k fun K6 hK6 => ?_
    refine wp_seq_k fun K7 hK7 => ?_
    refine wp_region_list (WL.out ?_)
    refine WL.val (by kernel_rfl) (.int .i64 (chkN N)) (by go_simp) ?_
    simp only [Act.put, List.setIfInBounds_toArray, List.set_cons_zero, List.set_cons_succ]
    by_cases h2_1 : chkN N = 0
    · skip
      refine WL.val (by kernel_rfl) (.bool false) (by go_simp) ?_
      simp only [Act.put, List.setIfInBounds_toArray, List.set_cons_zero, List.set_cons_succ]
      refine WL.nil ?_
      refine hK7 _ _ ?_
      refine wp_cond_false rfl ?_
      refine wp_skip ?_
      refine hK6 _ _ ?_
      refine wp_seq_k fun K8 hK8 => ?_
      refine wp_seq_k fun K9 hK9 => ?_
      have hc := (chkN_ok h2_1).2
      have HL := Keep.mk (blkL_len hc HN.out.lp)
      rw [if_pos hc] at HO
      clear hc
      refine wp_region_list (WL.out ?_)
      refine WL.val (by kernel_rfl) (.pointer (some ⟨p, 0, none⟩)) (by go_simp) ?_
      simp only [Act.put, List.setIfInBounds_toArray, List.set_cons_zero, List.set_cons_succ]
      refine WL.callF (by kernel_rfl) 26 _ _ rfl Try.in26 #[ptr p] (by simp [Act.eval]) ?_
      refine (olen_any p v _ w2 HO.out).mono ?_
      rintro e w0 ⟨rfl, hw0⟩
      rw [hw0]
      clear hw0 w0
      refine ⟨_, rfl, ?_⟩
      simp only [Act.put, List.setIfInBounds_toArray, List.set_cons_zero, List.set_cons_succ]
      by_cases h4_2 : 1048576 < (blkL N).length
      · have h4_2i : (1048576 : Int) < ((blkL N).length : Int) := by omega
        refine WL.val (by kernel_rfl) (.bool true) (by go_simp) ?_
        simp only [Act.put, List.setIfInBounds_toArray, List.set_cons_zero, List.set_cons_succ]
        refine WL.nil ?_
        refine hK9 _ _ ?_
        refine wp_cond_true rfl ?_
        refine wp_seq_k fun K10 hK10 => ?_
        refine wp_region_list (WL.out ?_)
        refine WL.val (by kernel_rfl) (.slice none 0 0) (by go_simp) ?_
        simp only [Act.put, List.setIfInBounds_toArray, List.set_cons_zero, List.set_cons_succ]
        refine WL.val (by kernel_rfl) (.int .i64 4) (by go_simp) ?_
        simp only [Act.put, List.setIfInBounds_toArray, List.set_cons_zero, List.set_cons_succ]
        refine WL.nil ?_
        refine hK10 _ _ ?_
        refine wp_ret ?_
        go_ret2
        have BB : Below w.heap.size w w2 := by rw [hgg]; exact B1.out.trans (B2.out.mono B1x.out)
        exact ⟨BB, .inr (.inl ⟨h2_1, h4_2, rfl⟩)⟩
      · have h4_2i : ¬ (1048576 : Int) < ((blkL N).length : Int) := by omega
        refine WL.val (by kernel_rfl) (.bool false) (by go_simp) ?_
        simp only [Act.put, List.setIfInBounds_toArray, List.set_cons_zero, List.set_cons_succ]
        refine WL.nil ?_
        refine hK9 _ _ ?_
        refine wp_cond_false rfl ?_
        refine wp_skip ?_
        refine hK8 _ _ ?_
        refine wp_seq_k fun K11 hK11 => ?_
        refine wp_region_list (WL.out ?_)
        refine WL.val (by kernel_rfl) (.pointer (some ⟨p, 0, none⟩)) (by go_simp) ?_
        simp only [Act.put, List.setIfInBounds_toArray, List.set_cons_zero, List.set_cons_succ]
        refine WL.callF (by kernel_rfl) 27 _ _ rfl Try.in27 #[ptr p] (by simp [Act.eval]) ?_
        refine (odone_any p v _ w2 HO.out HL.out).mono ?_
        rintro e w3 ⟨rfl, hw3⟩
        refine ⟨_, rfl, ?_⟩
        rw [hw3]
        clear hw3 w3
        simp only [Act.put, List.setIfInBounds_toArray, List.set_cons_zero, List.set_cons_succ]
        refine WL.val (by kernel_rfl) (.slice (some ⟨w2.heap.size, 0, none⟩) (blkL N).length (blkL N).length) (by go_simp) ?_
        simp only [Act.put, List.setIfInBounds_toArray, List.set_cons_zero, List.set_cons_succ]
        refine WL.val (by kernel_rfl) (.int .i64 0) (by go_simp) ?_
        simp only [Act.put, List.setIfInBounds_toArray, List.set_cons_zero, List.set_cons_succ]
        refine WL.nil ?_
        refine hK11 _ _ ?_
        refine wp_ret ?_
        go_ret2
        have BB : Below w.heap.size w w2 := by rw [hgg]; exact B1.out.trans (B2.out.mono B1x.out)
        exact ⟨BB.trans ((below_new w2 _).mono BB.size), .inr (.inr ⟨h2_1, by omega, w2.heap.size, BB.size, rfl, Blk.new w2 5 _⟩)⟩
    · skip
      refine WL.val (by kernel_rfl) (.bool true) (by go_simp) ?_
      simp only [Act.put, List.setIfInBounds_toArray, List.set_cons_zero, List.set_cons_succ]
      refine WL.nil ?_
      refine hK7 _ _ ?_
      refine wp_cond_true rfl ?_
      refine wp_seq_k fun K12 hK12 => ?_
      refine wp_region_list (WL.out ?_)
      refine WL.val (by kernel_rfl) (.int .i64 (chkN N)) (by go_simp) ?_
      simp only [Act.put, List.setIfInBounds_toArray, List.set_cons_zero, List.set_cons_succ]
      refine WL.val (by kernel_rfl) (.slice none 0 0) (by go_simp) ?_
      simp only [Act.put, List.setIfInBounds_toArray, List.set_cons_zero, List.set_cons_succ]
      refine WL.val (by kernel_rfl) (.int .i64 (chkN N)) (by go_simp) ?_
      simp only [Act.put, List.setIfInBounds_toArray, List.set_cons_zero, List.set_cons_succ]
      refine WL.nil ?_
      refine hK12 _ _ ?_
      refine wp_ret ?_
      go_ret2
      have BB : Below w.heap.size w w2 := by rw [hgg]; exact B1.out.trans (B2.out.mono B1x.out)
      exact ⟨BB, .inl ⟨h2_1, rfl⟩⟩
set_option maxRecDepth 8000 in
theorem size_any (N : NodeV) (vp vo : Value) (w : World) (hN : NdAt w N vp vo) : Calls Try.prog 14 #[.agg (ndA N.au N.ck vp vo)] w fun e w' => e = .returned (.int .i64 (sizeN N)) ∧ Below w.heap.size w w' := by
  obtain ⟨pa, pc, rfl⟩ := hN.ps.form
  have HN := Keep.mk hN
  clear hN
  go_enter Try.func14, Try.ntmps14
  refine wp_seq_k fun K1 hK1 => ?_
  refine wp_region_list (WL.out ?_)
  refine WL.box (by kernel_rfl) 27 (.tmp 0) rfl _ rfl ?_
  have HX1 := Keep.mk (Blk.new w 27 (ndA N.au N.ck (.slice pa N.ps.length pc) vo))
  have B1 := Keep.mk (below_new w (.cells (ndA N.au N.ck (.slice pa N.ps.length pc) vo) 27))
  generalize w.alloc (.cells (ndA N.au N.ck (.slice pa N.ps.length pc) vo) 27) = w1 at *
  have HN1 := Keep.mk (HN.out.below B1.out)
  have Hs1 : Keep (w.heap.size < w1.heap.size) := ⟨HX1.out.lt⟩
  have B1x : Keep (w.heap.size ≤ w1.heap.size) := ⟨B1.out.size⟩
  generalize hgg : w.heap.size = g at *
  simp only [Act.put, List.setIfInBounds_toArray, List.set_cons_zero, List.set_cons_succ]
  refine WL.val (by kernel_rfl) (.int .i64 0) (by go_simp) ?_
  simp only [Act.put, List.setIfInBounds_toArray, List.set_cons_zero, List.set_cons_succ]
  refine WL.nil ?_
  refine hK1 _ _ ?_
  refine wp_seq_k fun K2 hK2 => ?_
  refine wp_region_list (WL.out ?_)
  refine WL.row (by kernel_rfl) 27 (.tmp 1) rfl g rfl 27 (ndA N.au N.ck (.slice pa N.ps.length pc) vo) _ HX1.out Try.underlying27 rfl (Try.size27B _ _ _ _) ?_
  simp only [Act.put, List.setIfInBounds_toArray, List.set_cons_zero, List.set_cons_succ]
  refine WL.callF (by kernel_rfl) 25 _ _ rfl Try.in25 #[.agg (ndA N.au N.ck (.slice pa N.ps.length pc) vo)] (by simp [Act.eval]) ?_
  refine (lay_any N _ vo w1 HN1.out).mono ?_
  rintro e w2 ⟨hb2, (⟨hh, rfl⟩ | ⟨hh, p, v, rfl, hO⟩)⟩
  · refine ⟨_, rfl, ?_⟩
    have B2 := Keep.mk hb2
    have Hh := Keep.mk (chkN_no hh)
    have hch := chkN_no hh
    clear hb2
    simp only [Act.put, List.setIfInBounds_toArray, List.set_cons_zero, List.set_cons_succ]
    refine WL.val (by kernel_rfl) (.tuple #[.pointer none, .int .i64 (chkN N)]) (by go_simp) ?_
    simp only [Act.put, List.setIfInBounds_toArray, List.set_cons_zero, List.set_cons_succ]
    refine WL.val (by kernel_rfl) (.pointer none) (by go_simp) ?_
    simp only [Act.put, List.setIfInBounds_toArray, List.set_cons_zero, List.set_cons_succ]
    refine WL.val (by kernel_rfl) (.int .i64 (chkN N)) (by go_simp) ?_
    simp only [Act.put, List.setIfInBounds_toArray, List.set_cons_zero, List.set_cons_succ]
    refine WL.val (by kernel_rfl) (.pointer none) (by go_simp) ?_
    simp only [Act.put, List.setIfInBounds_toArray, List.set_cons_zero, List.set_cons_succ]
    refine WL.val (by kernel_rfl) (.int .i64 (chkN N)) (by go_simp) ?_
    simp only [Act.put, List.setIfInBounds_toArray, List.set_cons_zero, List.set_cons_succ]
    refine WL.nil ?_
    refine hK2 _ _ ?_
    refine wp_seq_k fun K3 hK3 => ?_
    refine wp_seq_k fun K4 hK4 => ?_
    refine wp_region_list (WL.out ?_)
    refine WL.val (by kernel_rfl) (.int .i64 (chkN N)) (by go_simp) ?_
    simp only [Act.put, List.setIfInBounds_toArray, List.set_cons_zero, List.set_cons_succ]
    refine WL.val (by kernel_rfl) (.bool true) (by go_simp) ?_
    simp only [Act.put, List.setIfInBounds_toArray, List.set_cons_zero, List.set_cons_succ]
    refine WL.nil ?_
    refine hK4 _ _ ?_
    refine wp_cond_true rfl ?_
    refine wp_seq_k fun K5 hK5 => ?_
    refine wp_region_list (WL.out ?_)
    refine WL.val (by kernel_rfl) (.int .i64 0) (by go_simp) ?_
    simp only [Act.put, List.setIfInBounds_toArray, List.set_cons_zero, List.set_cons_succ]
    refine WL.nil ?_
    refine hK5 _ _ ?_
    refine wp_ret ?_
    go_ret
    have BB := B1.out.trans (B2.out.mono B1x.out)
    exact ⟨by rw [show sizeN N = 0 from if_neg Hh.out]; rfl, BB⟩
  · refine ⟨_, rfl, ?_⟩
    have B2 := Keep.mk hb2
    have Hh := Keep.mk hh
    have HO := Keep.mk hO
    clear hb2 hO
    simp only [Act.put, List.setIfInBounds_toArray, List.set_cons_zero, List.set_cons_succ]
    refine WL.val (by kernel_rfl) (.tuple #[.pointer (some ⟨p, 0, none⟩), .int .i64 (chkN N)]) (by go_simp) ?_
    simp only [Act.put, List.setIfInBounds_toArray, List.set_cons_zero, List.set_cons_succ]
    refine WL.val (by kernel_rfl) (.pointer (some ⟨p, 0, none⟩)) (by go_simp) ?_
    simp only [Act.put, List.setIfInBounds_toArray, List.set_cons_zero, List.set_cons_succ]
    refine WL.val (by kernel_rfl) (.int .i64 (chkN N)) (by go_simp) ?_
    simp only [Act.put, List.setIfInBounds_toArray, List.set_cons_zero, List.set_cons_succ]
    refine WL.val (by kernel_rfl) (.pointer (some ⟨p, 0, none⟩)) (by go_simp) ?_
    simp only [Act.put, List.setIfInBounds_toArray, List.set_cons_zero, List.set_cons_succ]
    refine WL.val (by kernel_rfl) (.int .i64 (chkN N)) (by go_simp) ?_
    simp only [Act.put, List.setIfInBounds_toArray, List.set_cons_zero, List.set_cons_succ]
    refine WL.nil ?_
    refine hK2 _ _ ?_
    refine wp_seq_k fun K6 hK6 => ?_
    refine wp_seq_k fun K7 hK7 => ?_
    refine wp_region_list (WL.out ?_)
    refine WL.val (by kernel_rfl) (.int .i64 (chkN N)) (by go_simp) ?_
    simp only [Act.put, List.setIfInBounds_toArray, List.set_cons_zero, List.set_cons_succ]
    by_cases h2_1 : chkN N = 0
    · skip
      refine WL.val (by kernel_rfl) (.bool false) (by go_simp) ?_
      simp only [Act.put, List.setIfInBounds_toArray, List.set_cons_zero, List.set_cons_succ]
      refine WL.nil ?_
      refine hK7 _ _ ?_
      refine wp_cond_false rfl ?_
      refine wp_skip ?_
      refine hK6 _ _ ?_
      refine wp_seq_k fun K8 hK8 => ?_
      have hc := (chkN_ok h2_1).2
      have HL := Keep.mk (blkL_len hc HN.out.lp)
      rw [if_pos hc] at HO
      clear hc
      refine wp_region_list (WL.out ?_)
      refine WL.val (by kernel_rfl) (.pointer (some ⟨p, 0, none⟩)) (by go_simp) ?_
      simp only [Act.put, List.setIfInBounds_toArray, List.set_cons_zero, List.set_cons_succ]
      refine WL.callF (by kernel_rfl) 26 _ _ rfl Try.in26 #[ptr p] (by simp [Act.eval]) ?_
      refine (olen_any p v _ w2 HO.out).mono ?_
      rintro e w0 ⟨rfl, hw0⟩
      rw [hw0]
      clear hw0 w0
      refine ⟨_, rfl, ?_⟩
      simp only [Act.put, List.setIfInBounds_toArray, List.set_cons_zero, List.set_cons_succ]
      refine WL.val (by kernel_rfl) (.int .i64 ((blkL N).length : Int)) (by go_simp) ?_
      simp only [Act.put, List.setIfInBounds_toArray, List.set_cons_zero, List.set_cons_succ]
      refine WL.nil ?_
      refine hK8 _ _ ?_
      refine wp_ret ?_
      go_ret
      have BB := B1.out.trans (B2.out.mono B1x.out)
      exact ⟨by rw [show sizeN N = ((blkL N).length : Int) from if_pos h2_1]; rfl, BB⟩
    · skip
      refine WL.val (by kernel_rfl) (.bool true) (by go_simp) ?_
      simp only [Act.put, List.setIfInBounds_toArray, List.set_cons_zero, List.set_cons_succ]
      refine WL.nil ?_
      refine hK7 _ _ ?_
      refine wp_cond_true rfl ?_
      refine wp_seq_k fun K9 hK9 => ?_
      refine wp_region_list (WL.out ?_)
      refine WL.val (by kernel_rfl) (.int .i64 0) (by go_simp) ?_
      simp only [Act.put, List.setIfInBounds_toArray, List.set_cons_zero, List.set_cons_succ]
      refine WL.nil ?_
      refine hK9 _ _ ?_
      refine wp_ret ?_
      go_ret
      have BB := B1.out.trans (B2.out.mono B1x.out)
      exact ⟨by rw [show sizeN N = 0 from if_neg h2_1]; rfl, BB⟩
def erA (why b : Int) : Array Value := #[.int .i64 why, .int .i64 b]
theorem erA_sizes (a b c d : Int) : (erA a b).size = (erA c d).size := rfl
theorem erA_one (a b : Int) : (erA a b).all (·.oneCell') = true := by simp [erA, Value.oneCell']
theorem Try.size49B (a b : Int) : (Try.prog.info? 49).map (·.size) = some (erA a b).size := Try.size49
theorem Try.new49E (w : World) : (Instr.alloc 49 true (.tuple #[])).run Try.prog w = .ok (.pointer (some ⟨w.heap.size, 0, none⟩)) (w.alloc (.cells (erA 0 0) 49)) := by kernel_rfl
theorem er_built : Try.prog.built 49 [] = some (erA 0 0) := by kernel_rfl
theorem run_bldE (a b : Int) (w : World) : (Next.value <$> Instr.build 49 #[(0, .int .i64 a), (1, .int .i64 b)]).run Try.prog w = .ok (.value (.agg (erA a b))) w := by kernel_rfl
theorem assertBad (v : Value) (W : World) : (Instr.typeAssert (.iface 68 v) 36 68 true).run Try.prog W = .ok (.tuple #[v, .bool true]) W := by kernel_rfl
theorem Try.in21 (w : World) (vs : Array Value) : (callFunc 21 vs).run Try.prog w = .ok (.enter 21 vs) w := by kernel_rfl
set_option maxRecDepth 8000 in
theorem told_nil (w : World) : Calls Try.prog 21 #[.nilIface] w fun e w' => e = .returned (.tuple #[.agg (erA 0 0), .bool true]) ∧ Below w.heap.size w w' := by
  go_enter Try.func21, Try.ntmps21
  refine wp_seq_k fun K1 hK1 => ?_
  refine wp_region_list (WL.out ?_)
  refine WL.new (by kernel_rfl) 49 rfl _ Try.new49E ?_
  have HZ := Keep.mk (Blk.new w 49 (erA 0 0))
  have HB := Keep.mk (below_new w (.cells (erA 0 0) 49))
  generalize w.alloc (.cells (erA 0 0) 49) = w1 at *
  simp only [Act.put, List.setIfInBounds_toArray, List.set_cons_zero, List.set_cons_succ]
  refine WL.val (by kernel_rfl) (.bool false) (by go_simp) ?_
  simp only [Act.put, List.setIfInBounds_toArray, List.set_cons_zero, List.set_cons_succ]
  refine WL.nil ?_
  refine hK1 _ _ ?_
  refine wp_seq_k fun K2 hK2 => ?_
  refine wp_seq_k fun K3 hK3 => ?_
  refine wp_region_list (WL.out ?_)
  refine WL.val (by kernel_rfl) (.nilIface) (by go_simp) ?_
  simp only [Act.put, List.setIfInBounds_toArray, List.set_cons_zero, List.set_cons_succ]
  refine WL.val (by kernel_rfl) (.bool true) (by go_simp) ?_
  simp only [Act.put, List.setIfInBounds_toArray, List.set_cons_zero, List.set_cons_succ]
  refine WL.nil ?_
  refine hK3 _ _ ?_
  refine wp_cond_true rfl ?_
  refine wp_seq_k fun K4 hK4 => ?_
  refine wp_region_list (WL.out ?_)
  refine WL.bld (by kernel_rfl) 49 _ rfl [] (by simp) _ er_built ?_
  simp only [Act.put, List.setIfInBounds_toArray, List.set_cons_zero, List.set_cons_succ]
  refine WL.storeR (by kernel_rfl) 49 (.tmp 2) (.tmp 8) rfl w.heap.size (erA 0 0) rfl rfl 49 (erA 0 0) HZ.out (Try.size49B _ _) (erA_sizes _ _ _ _) (erA_one _ _) ?_
  simp only [Act.put]
  refine WL.val (by kernel_rfl) (.bool true) (by go_simp) ?_
  simp only [Act.put, List.setIfInBounds_toArray, List.set_cons_zero, List.set_cons_succ]
  refine WL.nil ?_
  refine hK4 _ _ ?_
  refine wp_ret ?_
  try simp only [Exit.then]
  refine bodyPost_ret (v := .tuple #[.agg (erA 0 0), .bool true]) (results_cell_row2 Try.results21 _ _ w.heap.size 49 _ (0, 0) _ _ rfl rfl (HZ.out.setRow _) Try.underlying49 rfl (Try.size49B _ _)) rfl ?_
  exact ⟨rfl, below_setRow HB.out (Nat.le_refl _) _⟩
set_option maxRecDepth 8000 in
theorem told_err (q : Nat) (why : Int) (a : Nat) (w : World) (hq : BadAt w q why a) (hw : why ≠ 0) : Calls Try.prog 21 #[err q] w fun e w' => e = .returned (.tuple #[.agg (erA why (a : Int)), .bool true]) ∧ Below w.heap.size w w' := by
  have HQ : Keep (Blk w q 70 #[.int .i64 why, .int .i64 (a : Int)]) := ⟨hq⟩
  have has := assertBad (ptr q)
  clear hq
  unfold err
  go_enter Try.func21, Try.ntmps21
  refine wp_seq_k fun K1 hK1 => ?_
  refine wp_region_list (WL.out ?_)
  refine WL.new (by kernel_rfl) 49 rfl _ Try.new49E ?_
  have HZ := Keep.mk (Blk.new w 49 (erA 0 0))
  have HB := Keep.mk (below_new w (.cells (erA 0 0) 49))
  have HQ1 := Keep.mk (HQ.out.alloc (.cells (erA 0 0) 49))
  generalize w.alloc (.cells (erA 0 0) 49) = w1 at *
  have c0 := HQ1.out.c 0 rfl
  simp only [Act.put, List.setIfInBounds_toArray, List.set_cons_zero, List.set_cons_succ]
  refine WL.val (by kernel_rfl) (.bool false) (by go_simp) ?_
  simp only [Act.put, List.setIfInBounds_toArray, List.set_cons_zero, List.set_cons_succ]
  refine WL.nil ?_
  refine hK1 _ _ ?_
  refine wp_seq_k fun K2 hK2 => ?_
  refine wp_seq_k fun K3 hK3 => ?_
  refine wp_region_list (WL.out ?_)
  refine WL.val (by kernel_rfl) (.iface 68 (ptr q)) (by go_simp) ?_
  simp only [Act.put, List.setIfInBounds_toArray, List.set_cons_zero, List.set_cons_succ]
  refine WL.val (by kernel_rfl) (.bool false) (by go_simp) ?_
  simp only [Act.put, List.setIfInBounds_toArray, List.set_cons_zero, List.set_cons_succ]
  refine WL.nil ?_
  refine hK3 _ _ ?_
  refine wp_cond_false rfl ?_
  refine wp_skip ?_
  refine hK2 _ _ ?_
  refine wp_seq_k fun K4 hK4 => ?_
  refine wp_region_list (WL.out ?_)
  refine WL.val (by kernel_rfl) (.iface 68 (ptr q)) (by go_simp) ?_
  simp only [Act.put, List.setIfInBounds_toArray, List.set_cons_zero, List.set_cons_succ]
  refine WL.val (by kernel_rfl) (.tuple #[ptr q, .bool true]) (by go_simp) ?_
  simp only [Act.put, List.setIfInBounds_toArray, List.set_cons_zero, List.set_cons_succ]
  refine WL.val (by kernel_rfl) (.tuple #[ptr q, .bool true]) (by go_simp) ?_
  simp only [Act.put, List.setIfInBounds_toArray, List.set_cons_zero, List.set_cons_succ]
  refine WL.val (by kernel_rfl) (ptr q) (by go_simp) ?_
  simp only [Act.put, List.setIfInBounds_toArray, List.set_cons_zero, List.set_cons_succ]
  refine WL.val (by kernel_rfl) (.bool true) (by go_simp) ?_
  simp only [Act.put, List.setIfInBounds_toArray, List.set_cons_zero, List.set_cons_succ]
  refine WL.val (by kernel_rfl) (ptr q) (by go_simp) ?_
  simp only [Act.put, List.setIfInBounds_toArray, List.set_cons_zero, List.set_cons_succ]
  refine WL.val (by kernel_rfl) (.bool true) (by go_simp) ?_
  simp only [Act.put, List.setIfInBounds_toArray, List.set_cons_zero, List.set_cons_succ]
  refine WL.nil ?_
  refine hK4 _ _ ?_
  refine wp_seq_k fun K5 hK5 => ?_
  refine wp_seq_k fun K6 hK6 => ?_
  refine wp_region_list (WL.out ?_)
  refine WL.val (by kernel_rfl) (.bool true) (by go_simp) ?_
  simp only [Act.put, List.setIfInBounds_toArray, List.set_cons_zero, List.set_cons_succ]
  refine WL.val (by kernel_rfl) (.bool false) (by go_simp) ?_
  simp only [Act.put, List.setIfInBounds_toArray, List.set_cons_zero, List.set_cons_succ]
  refine WL.val (by kernel_rfl) (.bool false) (by go_simp) ?_
  simp only [Act.put, List.setIfInBounds_toArray, List.set_cons_zero, List.set_cons_succ]
  refine WL.val (by kernel_rfl) (ptr q) (by go_simp) ?_
  simp only [Act.put, List.setIfInBounds_toArray, List.set_cons_zero, List.set_cons_succ]
  refine WL.val (by kernel_rfl) (.bool false) (by go_simp) ?_
  simp only [Act.put, List.setIfInBounds_toArray, List.set_cons_zero, List.set_cons_succ]
  refine WL.val (by kernel_rfl) (.bool false) (by go_simp) ?_
  simp only [Act.put, List.setIfInBounds_toArray, List.set_cons_zero, List.set_cons_succ]
  refine WL.val (by kernel_rfl) (.bool false) (by go_simp) ?_
  simp only [Act.put, List.setIfInBounds_toArray, List.set_cons_zero, List.set_cons_succ]
  refine WL.val (by kernel_rfl) (ptr q) (by go_simp) ?_
  simp only [Act.put, List.setIfInBounds_toArray, List.set_cons_zero, List.set_cons_succ]
  refine WL.val (by kernel_rfl) (.pointer (some ⟨q, 0, none⟩)) (by go_simp) ?_
  simp only [Act.put, List.setIfInBounds_toArray, List.set_cons_zero, List.set_cons_succ]
  refine WL.val (by kernel_rfl) (.pointer (some ⟨q, 0, none⟩)) (by go_simp) ?_
  simp only [Act.put, List.setIfInBounds_toArray, List.set_cons_zero, List.set_cons_succ]
  refine WL.val (by kernel_rfl) (.int .i64 why) (by go_simp) ?_
  simp only [Act.put, List.setIfInBounds_toArray, List.set_cons_zero, List.set_cons_succ]
  refine WL.val (by kernel_rfl) (.bool false) (by go_simp) ?_
  simp only [Act.put, List.setIfInBounds_toArray, List.set_cons_zero, List.set_cons_succ]
  refine WL.val (by kernel_rfl) (.bool false) (by go_simp) ?_
  simp only [Act.put, List.setIfInBounds_toArray, List.set_cons_zero, List.set_cons_succ]
  refine WL.nil ?_
  refine hK6 _ _ ?_
  refine wp_cond_false rfl ?_
  refine wp_skip ?_
  refine hK5 _ _ ?_
  refine wp_seq_k fun K7 hK7 => ?_
  clear c0
  have HS : Keep (∀ wx, Blk wx q 70 #[.int .i64 why, .int .i64 (a : Int)] → wx.cell? ⟨q, 0, none⟩ = some (.int .i64 why) ∧ wx.cell? ⟨q, 1, none⟩ = some (.int .i64 (a : Int))) := ⟨fun wx h => ⟨h.c 0 rfl, h.c 1 rfl⟩⟩
  refine wp_region_held_drew (S := fun wx => wx.cell? ⟨q, 0, none⟩ = some (.int .i64 why) ∧ wx.cell? ⟨q, 1, none⟩ = some (.int .i64 (a : Int))) (by kernel_rfl) (HS.out _ HQ1.out.drew) (fun hHeld => ?_)
  refine wpAnyH_take (i := 0) (oi := ⟨some 28, Op.move (Operand.tmp 4), 68, _, _, none⟩) (v := .pointer (some ⟨q, 0, none⟩)) rfl (by kernel_rfl) (by kernel_rfl) (by kernel_rfl) (fun _ _ _ h => h) (Or.inl ⟨by rfl, fun w hS => by obtain ⟨hs1, hs2⟩ := hS; go_simp⟩) hHeld ?_
  simp only [Act.put, List.setIfInBounds_toArray, List.set_cons_zero, List.set_cons_succ]
  refine wpAnyH_take (i := 1) (oi := ⟨some 29, Op.nilCheck (Operand.tmp 28), 0, _, _, none⟩) (v := .pointer (some ⟨q, 0, none⟩)) rfl (by kernel_rfl) (by kernel_rfl) (by kernel_rfl) (fun _ _ _ h => h) (Or.inl ⟨by rfl, fun w hS => by obtain ⟨hs1, hs2⟩ := hS; go_simp⟩) hHeld ?_
  simp only [Act.put, List.setIfInBounds_toArray, List.set_cons_zero, List.set_cons_succ]
  refine wpAnyH_take (i := 2) (oi := ⟨some 30, Op.fieldAddr 70 (Operand.tmp 29) 0, 0, _, _, none⟩) (v := .pointer (some ⟨q, 0, none⟩)) rfl (by kernel_rfl) (by kernel_rfl) (by kernel_rfl) (fun _ _ _ h => h) (Or.inl ⟨by rfl, fun w hS => by obtain ⟨hs1, hs2⟩ := hS; go_simp⟩) hHeld ?_
  simp only [Act.put, List.setIfInBounds_toArray, List.set_cons_zero, List.set_cons_succ]
  refine wpAnyH_take (i := 3) (oi := ⟨some 31, Op.load 29 (Operand.tmp 30), 29, _, _, none⟩) (v := .int .i64 why) rfl (by kernel_rfl) (by kernel_rfl) (by kernel_rfl) (fun _ _ _ h => h) (Or.inl ⟨by rfl, fun w hS => by obtain ⟨hs1, hs2⟩ := hS; go_simp⟩) hHeld ?_
  simp only [Act.put, List.setIfInBounds_toArray, List.set_cons_zero, List.set_cons_succ]
  refine wpAnyH_take (i := 4) (oi := ⟨some 32, Op.move (Operand.tmp 4), 68, _, _, none⟩) (v := .pointer (some ⟨q, 0, none⟩)) rfl (by kernel_rfl) (by kernel_rfl) (by kernel_rfl) (fun _ _ _ h => h) (Or.inl ⟨by rfl, fun w hS => by obtain ⟨hs1, hs2⟩ := hS; go_simp⟩) hHeld ?_
  simp only [Act.put, List.setIfInBounds_toArray, List.set_cons_zero, List.set_cons_succ]
  refine wpAnyH_take (i := 5) (oi := ⟨some 33, Op.nilCheck (Operand.tmp 32), 0, _, _, none⟩) (v := .pointer (some ⟨q, 0, none⟩)) rfl (by kernel_rfl) (by kernel_rfl) (by kernel_rfl) (fun _ _ _ h => h) (Or.inl ⟨by rfl, fun w hS => by obtain ⟨hs1, hs2⟩ := hS; go_simp⟩) hHeld ?_
  simp only [Act.put, List.setIfInBounds_toArray, List.set_cons_zero, List.set_cons_succ]
  refine wpAnyH_take (i := 6) (oi := ⟨some 34, Op.fieldAddr 70 (Operand.tmp 33) 1, 0, _, _, none⟩) (v := .pointer (some ⟨q, 1, none⟩)) rfl (by kernel_rfl) (by kernel_rfl) (by kernel_rfl) (fun _ _ _ h => h) (Or.inl ⟨by rfl, fun w hS => by obtain ⟨hs1, hs2⟩ := hS; go_simp⟩) hHeld ?_
  simp only [Act.put, List.setIfInBounds_toArray, List.set_cons_zero, List.set_cons_succ]
  refine wpAnyH_take (i := 7) (oi := ⟨some 35, Op.load 3 (Operand.tmp 34), 3, _, _, none⟩) (v := .int .i64 (a : Int)) rfl (by kernel_rfl) (by kernel_rfl) (by kernel_rfl) (fun _ _ _ h => h) (Or.inl ⟨by rfl, fun w hS => by obtain ⟨hs1, hs2⟩ := hS; go_simp⟩) hHeld ?_
  simp only [Act.put, List.setIfInBounds_toArray, List.set_cons_zero, List.set_cons_succ]
  refine wpAnyH_take (i := 8) (oi := ⟨some 36, Op.build 49 #[(0, Operand.tmp 31), (1, Operand.tmp 35)], 49, _, _, none⟩) (v := .agg #[.int .i64 why, .int .i64 (a : Int)]) rfl (by kernel_rfl) (by kernel_rfl) (by kernel_rfl) (fun _ _ _ h => h) (Or.inl ⟨by rfl, fun w hS => by go_simp⟩) hHeld ?_
  simp only [Act.put, List.setIfInBounds_toArray, List.set_cons_zero, List.set_cons_succ]
  refine wpAnyH_ready (rs := [9]) (by kernel_rfl) (by simp) ?_
  refine AllReadyH.cons (o := ⟨none, Op.store 49 (Operand.tmp 2) (Operand.tmp 36), 0, _, _, none⟩) rfl (fun K hK => ?_) AllReadyH.nil
  rw [if_pos (by rfl)]
  refine wp_store_row 49 (.tmp 2) (.tmp 36) rfl w.heap.size (erA why (a : Int)) rfl rfl 49 (erA 0 0) HZ.out.drew (Try.size49B _ _) (erA_sizes _ _ _ _) (erA_one _ _) ?_
  refine hK.out _ _ (HS.out _ (HQ1.out.drew.setRow_ne (blk_ne HQ1.out HZ.out (by decide)) _)) fun hH2 => ?_
  clear hK
  simp only [Act.put, List.setIfInBounds_toArray, List.set_cons_zero, List.set_cons_succ]
  refine wpAnyH_take (i := 10) (oi := ⟨some 3, Op.assign (Operand.const (Value.bool true)), 4, _, _, none⟩) (v := .bool true) rfl (by kernel_rfl) (by kernel_rfl) (by kernel_rfl) (fun _ _ _ h => h) (Or.inl ⟨by rfl, fun w hS => by obtain ⟨hs1, hs2⟩ := hS; go_simp⟩) hH2 ?_
  simp only [Act.put, List.setIfInBounds_toArray, List.set_cons_zero, List.set_cons_succ]
  refine wpAnyH_done (by kernel_rfl) ?_ _
  refine hK7 _ _ ?_
  refine wp_ret ?_
  try simp only [Exit.then]
  refine bodyPost_ret (v := .tuple #[.agg (erA why (a : Int)), .bool true]) (results_cell_row2 Try.results21 _ _ w.heap.size 49 _ (0, 0) _ _ rfl rfl (HZ.out.drew.setRow _) Try.underlying49 rfl (Try.size49B _ _)) rfl ?_
  exact ⟨rfl, below_setRow HB.out.drew (Nat.le_refl _) _⟩
theorem byts_c {L : List Int} {a : Nat} {c : Int} {r : List Int} (hB : Byts L) (h : L.drop a = c :: r) : 0 ≤ c ∧ c < 256 := hB c (List.mem_of_mem_drop (by rw [h]; simp))
theorem formR_there {L r : List Int} {a : Nat} (h : L.drop a = 1 :: r) : formR L a = (0, a + 1) := by
  unfold formR
  rw [h, next_one, if_neg (by decide)]
  simp
theorem auR_there {L r : List Int} {a : Nat} {c : Int} (h : L.drop a = c :: r) (hc : 1 ≤ c ∧ c ≤ 8) : auR L a = (0, a + 1) ∧ (L.drop a).getD 0 0 = c := by
  refine ⟨?_, by rw [h]; rfl⟩
  unfold auR
  rw [h, next_one, if_neg (by decide)]
  simp only [List.getD_cons_zero]
  rw [if_pos hc]
theorem ckR_there {L r : List Int} {a n : Nat} (h : L.drop a = numL n ++ r) (h1 : 1 ≤ n) (h2 : n ≤ 4096) : ckR L a = (0, a + (numL n).length) ∧ (fstM (L.drop a) 4096).1 = n := by
  have hf := fst_num n (by omega) r 4096 (by omega)
  rw [← h] at hf
  refine ⟨?_, by rw [hf]⟩
  unfold ckR
  rw [hf]
  simp only [Int.toNat_natCast]
  rw [if_neg (by simp), if_neg (by omega)]
theorem rises_step {P Q : List Hs} {x : Hs} (h : Sh.risesB (P ++ x :: Q) = true) : ¬ (0 < P.length ∧ 0 ≤ Sh.cf (P.getD (P.length - 1) default) x) := by
  rintro ⟨h1, h2⟩
  have h3 := (Sh.risesB_iff _).1 h (P.length - 1) (by simp; omega)
  have e1 : (P ++ x :: Q).getD (P.length - 1) default = P.getD (P.length - 1) default := by
    rw [List.getD_eq_getElem?_getD, List.getD_eq_getElem?_getD, List.getElem?_append_left (by omega)]
  have e2 : (P ++ x :: Q).getD (P.length - 1 + 1) default = x := by
    rw [show P.length - 1 + 1 = P.length by omega, List.getD_eq_getElem?_getD, List.getElem?_append_right (Nat.le_refl _)]
    simp
  rw [e1, e2] at h3
  omega
theorem hash_there {L r : List Int} {a : Nat} {x : Hs} (h : L.drop a = hB x ++ r) : nextW (L.drop a) 32 = 0 ∧ hs ((L.drop a).take 32) = x := by
  have hn := next_app (hB x) r
  rw [hB_len] at hn
  rw [h]
  exact ⟨hn.1, by rw [List.take_left' (hB_len x), hs_hB]⟩
theorem getH_there {L : List Int} : ∀ (Q P : List Hs) (a : Nat) (r : List Int), Sh.risesB (P ++ Q) = true → L.drop a = Q.flatMap hB ++ r → getH L Q.length P a = (0, a + (Q.flatMap hB).length, P ++ Q)
  | [], P, a, r, _, _ => by simp [getH]
  | x :: Q, P, a, r, hr, h => by
    rw [List.flatMap_cons, List.append_assoc] at h
    obtain ⟨h1, h2⟩ := hash_there h
    simp only [List.length_cons]
    rw [getH, h1, if_neg (by simp), h2, if_neg (rises_step hr)]
    have hd := drop_next h
    rw [hB_len] at hd
    rw [getH_there Q (P ++ [x]) (a + 32) r (by simpa using hr) hd, List.flatMap_cons, List.length_append, hB_len]
    simp only [List.append_assoc, List.cons_append, List.nil_append, Prod.mk.injEq, true_and, and_true]
    omega
theorem getH_short {L m : List Int} (hne : m ≠ []) : ∀ (Q P : List Hs) (a : Nat), Sh.risesB (P ++ Q) = true → a ≤ L.length → L.drop a ++ m = Q.flatMap hB → (getH L Q.length P a).1 = 20 ∧ (getH L Q.length P a).2.1 ≤ L.length
  | [], P, a, _, _, h => by
    simp only [List.flatMap_nil] at h
    exact absurd (List.append_eq_nil_iff.1 h).2 hne
  | x :: Q, P, a, hr, ha, h => by
    rw [List.flatMap_cons] at h
    simp only [List.length_cons]
    rcases pre_split h with ⟨s, h4, h5⟩ | ⟨E, h4, h5⟩
    · have hs' := next_short (L.drop a) s (hB x) h5 h4
      rw [hB_len] at hs'
      have hs'' : nextW (L.drop a) 32 = 20 := hs'
      rw [getH, hs'', nextN_1 _ _ (by rw [hs'']; decide), if_pos (by decide)]
      exact ⟨rfl, ha⟩
    · obtain ⟨h1, h2⟩ := hash_there h4
      have hl := congrArg List.length h4
      rw [List.length_drop, List.length_append, hB_len] at hl
      have hd := drop_next h4
      rw [hB_len] at hd
      rw [getH, h1, if_neg (by simp), h2, if_neg (rises_step hr)]
      exact getH_short hne Q (P ++ [x]) (a + 32) (by simpa using hr) (by omega) (by rw [hd]; exact h5)
theorem blk_parts {N : NodeV} {L : List Int} {X : List Int} (h : L = headL N ++ X) : L.drop 0 = 1 :: (L.drop 1) ∧ L.drop 1 = N.au :: L.drop 2 ∧ L.drop 2 = numL N.ck.toNat ++ (numL N.ps.length ++ X) := by
  subst h
  simp [headL]
theorem dec_go {L : List Int} (h1 : (formR L 0).1 = 0) (h2 : (auR L 1).1 = 0) (h3 : (ckR L 2).1 = 0) (h4 : (fstM (L.drop (ckR L 2).2) 64).2.2 = 0) (h5 : (((fstM (L.drop 2) 4096).1 == 1) == ((fstM (L.drop (ckR L 2).2) 64).1 == 0)) = true) (H : Int × Nat × List Hs) (hH : getH L (fstM (L.drop (ckR L 2).2) 64).1.toNat [] ((ckR L 2).2 + (fstM (L.drop (ckR L 2).2) 64).2.1.toNat) = H) :
    decR L = if H.1 ≠ 0 then (H.1, H.2.1, zeroN) else if (getL L H.2.1).1 ≠ 0 then ((getL L H.2.1).1, (getL L H.2.1).2.1, zeroN) else if (getL L H.2.1).2.1 < L.length then (23, (getL L H.2.1).2.1, zeroN) else (0, (getL L H.2.1).2.1, ⟨(L.drop 1).getD 0 0, (fstM (L.drop 2) 4096).1, H.2.2, (getL L H.2.1).2.2⟩) := by
  subst hH
  unfold decR
  rw [if_neg (by simp [h1]), if_neg (by simp [h2]), if_neg (by simp [h3]), if_neg (by simp [h4]), if_neg (by rw [h5]; decide)]
theorem head_there {N : NodeV} (hN : headE N = 0) {L X : List Int} (h : L = headL N ++ X) :
    ∃ a1, decR L = (if (getH L N.ps.length [] a1).1 ≠ 0 then ((getH L N.ps.length [] a1).1, (getH L N.ps.length [] a1).2.1, zeroN) else if (getL L (getH L N.ps.length [] a1).2.1).1 ≠ 0 then ((getL L (getH L N.ps.length [] a1).2.1).1, (getL L (getH L N.ps.length [] a1).2.1).2.1, zeroN) else if (getL L (getH L N.ps.length [] a1).2.1).2.1 < L.length then (23, (getL L (getH L N.ps.length [] a1).2.1).2.1, zeroN) else (0, (getL L (getH L N.ps.length [] a1).2.1).2.1, ⟨N.au, N.ck, (getH L N.ps.length [] a1).2.2, (getL L (getH L N.ps.length [] a1).2.1).2.2⟩)) ∧ a1 = (headL N).length ∧ L.drop a1 = X := by
  obtain ⟨k1, k2, k3, k4, k5, k6⟩ := headE_ok hN
  obtain ⟨p0, p1, p2⟩ := blk_parts h
  have e1 := formR_there p0
  have e2 := auR_there p1 k1
  have e3 := ckR_there p2 (by omega) (by omega)
  have hd := drop_next p2
  have e4 := fst_num N.ps.length (by omega) X 64 (by omega)
  rw [← hd] at e4
  have hck : (fstM (L.drop 2) 4096).1 = N.ck := by rw [e3.2]; omega
  have hd2 := drop_next hd
  refine ⟨2 + (numL N.ck.toNat).length + (numL N.ps.length).length, ?_, by simp [headL]; omega, hd2⟩
  have hg := dec_go (L := L) (by rw [e1]) (by rw [e2.1]) (by rw [e3.1]) (by rw [e3.1]; simp only; rw [e4]) (by rw [hck, e3.1]; simp only; rw [e4]; exact k4) _ rfl
  rw [hg, e3.1]
  simp only
  rw [e4, hck, e2.2]
  simp only [Int.toNat_natCast]
theorem decR_there {N : NodeV} (hc : chkN N = 0) (hok : ∀ x ∈ N.ops, OpOk x) (more : List Int) : decR (blkL N ++ more) = if more = [] then (0, (blkL N).length, N) else (23, (blkL N).length, zeroN) := by
  obtain ⟨hN, hco⟩ := chkN_ok hc
  obtain ⟨k1, k2, k3, k4, k5, k6⟩ := headE_ok hN
  obtain ⟨a1, h1, h2, h3⟩ := head_there hN (L := blkL N ++ more) (X := N.ps.flatMap hB ++ (formL N.ops ++ more)) (by simp [blkL])
  have hH := getH_there N.ps [] a1 _ (by simpa using k6) h3
  have hd := drop_next h3
  have hG := getL_there hok hco hd
  rw [h1, hH]
  simp only [List.nil_append]
  rw [if_neg (by simp), hG]
  simp only
  rw [if_neg (by simp)]
  have hl : a1 + (N.ps.flatMap hB).length + (formL N.ops).length = (blkL N).length := by simp only [blkL, List.length_append]; omega
  rw [hl]
  by_cases hm : more = []
  · rw [if_neg (by rw [hm]; simp), if_pos hm]
  · rw [if_pos (by rw [List.length_append]; have := List.length_pos_iff.2 hm; omega), if_neg hm]
theorem decR_short {N : NodeV} (hc : chkN N = 0) (hok : ∀ x ∈ N.ops, OpOk x) {D m : List Int} (h : D ++ m = blkL N) (hne : m ≠ []) : (decR D).1 = 20 ∧ (decR D).2.1 ≤ D.length := by
  obtain ⟨hN, hco⟩ := chkN_ok hc
  obtain ⟨k1, k2, k3, k4, k5, k6⟩ := headE_ok hN
  have h' : D ++ m = 1 :: (N.au :: (numL N.ck.toNat ++ (numL N.ps.length ++ (N.ps.flatMap hB ++ formL N.ops)))) := by rw [h]; simp [blkL, headL]
  cases D with
  | nil => exact ⟨rfl, Nat.le_refl _⟩
  | cons c D1 =>
    rw [List.cons_append] at h'
    injection h' with hc1 h1
    subst hc1
    have e1 := formR_there (L := 1 :: D1) (a := 0) (r := D1) rfl
    cases D1 with
    | nil => exact ⟨by decide, by decide⟩
    | cons c2 D2 =>
      rw [List.cons_append] at h1
      injection h1 with hc2 h2
      subst hc2
      have e2 := auR_there (L := 1 :: N.au :: D2) (a := 1) (r := D2) rfl k1
      rcases pre_split h2 with ⟨s, h4, h5⟩ | ⟨E, h4, h5⟩
      · have hf := fst_short N.ck.toNat D2 s 4096 h5 h4
        have hk : ckR (1 :: N.au :: D2) 2 = (20, 2) := by
          unfold ckR
          rw [show (1 :: N.au :: D2).drop 2 = D2 from rfl, hf, if_pos (by simp)]
          rfl
        unfold decR
        rw [e1, if_neg (by simp), e2.1, if_neg (by simp), hk, if_pos (by simp)]
        exact ⟨rfl, by simp⟩
      · have e3 := ckR_there (L := 1 :: N.au :: D2) (a := 2) (n := N.ck.toNat) (r := E) h4 (by omega) (by omega)
        have hd : (1 :: N.au :: D2).drop (2 + (numL N.ck.toNat).length) = E := drop_next (L := 1 :: N.au :: D2) (a := 2) h4
        have hl : 2 + (numL N.ck.toNat).length ≤ (1 :: N.au :: D2).length := by rw [h4]; simp; omega
        rcases pre_split h5 with ⟨s, h6, h7⟩ | ⟨E2, h6, h7⟩
        · have hf := fst_short N.ps.length E s 64 h7 h6
          unfold decR
          rw [e1, if_neg (by simp), e2.1, if_neg (by simp), e3.1, if_neg (by simp)]
          simp only
          rw [hd, hf, if_pos (by simp)]
          exact ⟨rfl, by simpa using hl⟩
        · obtain ⟨a1, g1, g2, g3⟩ := head_there hN (L := 1 :: N.au :: D2) (X := E2) (by rw [h4, h6]; simp [headL])
          have hla : a1 ≤ (1 :: N.au :: D2).length := by rw [g2, h4, h6]; simp [headL]
          rcases pre_split h7 with ⟨s, h8, h9⟩ | ⟨E3, h8, h9⟩
          · have hs := getH_short (L := 1 :: N.au :: D2) h8 N.ps [] a1 (by simpa using k6) hla (by rw [g3]; exact h9)
            rw [g1, if_pos (by rw [hs.1]; decide)]
            exact hs
          · rw [h8] at g3
            have hH := getH_there N.ps [] a1 _ (by simpa using k6) g3
            have hd3 := drop_next g3
            have hs := getL_short (L := 1 :: N.au :: D2) (a := a1 + (N.ps.flatMap hB).length) hok hco (by
              have hz := congrArg List.length g3
              rw [List.length_drop, List.length_append] at hz; omega) hne (by rw [hd3]; exact h9)
            rw [g1, hH]
            simp only
            rw [if_neg (by simp), if_pos (by rw [hs.1]; decide)]
            exact hs
theorem rises_snoc {P : List Hs} {x : Hs} (h : Sh.risesB P = true) (hx : ¬ (0 < P.length ∧ 0 ≤ Sh.cf (P.getD (P.length - 1) default) x)) : Sh.risesB (P ++ [x]) = true := by
  rw [Sh.risesB_iff] at h ⊢
  intro i hi
  rw [List.length_append, List.length_singleton] at hi
  by_cases h1 : i + 1 < P.length
  · have := h i h1
    rwa [show (P ++ [x]).getD i default = P.getD i default by rw [List.getD_eq_getElem?_getD, List.getD_eq_getElem?_getD, List.getElem?_append_left (by omega)], show (P ++ [x]).getD (i + 1) default = P.getD (i + 1) default by rw [List.getD_eq_getElem?_getD, List.getD_eq_getElem?_getD, List.getElem?_append_left (by omega)]]
  · have hi2 : i = P.length - 1 := by omega
    subst hi2
    rw [show (P ++ [x]).getD (P.length - 1) default = P.getD (P.length - 1) default by rw [List.getD_eq_getElem?_getD, List.getD_eq_getElem?_getD, List.getElem?_append_left (by omega)], show (P ++ [x]).getD (P.length - 1 + 1) default = x by rw [show P.length - 1 + 1 = P.length by omega, List.getD_eq_getElem?_getD, List.getElem?_append_right (Nat.le_refl _)]; simp]
    apply Classical.byContradiction
    intro hn
    exact hx ⟨by omega, by omega⟩
theorem getH_back {L : List Int} (hB : Byts L) : ∀ (n : Nat) (P : List Hs) (a : Nat), Sh.risesB P = true → (getH L n P a).1 = 0 → ∃ (Q : List Hs) (r : List Int), Q.length = n ∧ Sh.risesB (P ++ Q) = true ∧ L.drop a = Q.flatMap Go.Proofs.Ytgpgnldcdimmbaa.hB ++ r ∧ getH L n P a = (0, a + (Q.flatMap Go.Proofs.Ytgpgnldcdimmbaa.hB).length, P ++ Q)
  | 0, P, a, hP, _ => ⟨[], L.drop a, rfl, by simpa using hP, by simp, by simp [getH]⟩
  | n + 1, P, a, hP, h => by
    rw [getH] at h ⊢
    by_cases h0 : nextW (L.drop a) 32 = 0
    · rw [if_neg (by simp [h0])] at h ⊢
      by_cases h1 : 0 < P.length ∧ 0 ≤ Sh.cf (P.getD (P.length - 1) default) (hs ((L.drop a).take 32))
      · rw [if_pos h1] at h; cases h
      · rw [if_neg h1] at h ⊢
        have hN := nextN_0 _ _ h0
        have hlen : ((L.drop a).take 32).length = 32 := by rw [List.length_take]; have := hN.2.2; omega
        obtain ⟨Q, r, h2, h3, h4, h5⟩ := getH_back hB n _ (a + 32) (rises_snoc hP h1) h
        have hb := hB_hs _ hlen ((hB.drop a).take 32)
        refine ⟨hs ((L.drop a).take 32) :: Q, r, by simp [h2], by simpa using h3, ?_, ?_⟩
        · rw [List.flatMap_cons, hb, List.append_assoc, ← h4, ← List.drop_drop, List.take_append_drop]
        · rw [h5, List.flatMap_cons, List.length_append, hB_len]; simp only [List.append_assoc, List.cons_append, List.nil_append, Prod.mk.injEq, true_and, and_true]; omega
    · rw [if_pos h0] at h; exact absurd h h0
theorem one_back {L : List Int} {a : Nat} (h : nextW (L.drop a) 1 = 0) : L.drop a = (L.drop a).getD 0 0 :: L.drop (a + 1) := by
  cases hd : L.drop a with
  | nil => rw [hd] at h; exact absurd h (by decide)
  | cons c D => rw [← List.drop_drop, hd]; rfl
theorem formR_back {L : List Int} {a : Nat} (h : (formR L a).1 = 0) : L.drop a = 1 :: L.drop (a + 1) := by
  unfold formR at h
  by_cases h0 : nextW (L.drop a) 1 = 0
  · rw [if_neg (by simp [h0])] at h
    by_cases h1 : (L.drop a).getD 0 0 = 1
    · have := one_back h0; rwa [h1] at this
    · rw [if_neg h1] at h; cases h
  · rw [if_pos h0] at h; exact absurd h h0
theorem auR_back {L : List Int} {a : Nat} (h : (auR L a).1 = 0) : L.drop a = (L.drop a).getD 0 0 :: L.drop (a + 1) ∧ 1 ≤ (L.drop a).getD 0 0 ∧ (L.drop a).getD 0 0 ≤ 8 := by
  unfold auR at h
  by_cases h0 : nextW (L.drop a) 1 = 0
  · rw [if_neg (by simp [h0])] at h
    by_cases h1 : 1 ≤ (L.drop a).getD 0 0 ∧ (L.drop a).getD 0 0 ≤ 8
    · exact ⟨one_back h0, h1⟩
    · rw [if_neg h1] at h; cases h
  · rw [if_pos h0] at h; exact absurd h h0
theorem ckR_back {L : List Int} {a : Nat} (hB : Byts L) (h : (ckR L a).1 = 0) : ∃ (n : Nat) (r : List Int), 1 ≤ n ∧ n ≤ 4096 ∧ L.drop a = numL n ++ r ∧ (fstM (L.drop a) 4096).1 = n ∧ (ckR L a).2 = a + (numL n).length := by
  unfold ckR at h ⊢
  by_cases h0 : (fstM (L.drop a) 4096).2.2 = 0
  · obtain ⟨n, h1, h2, h3, h4, r, h5⟩ := fst_form _ _ (hB.drop a) h0
    rw [if_neg (by simp [h0])] at h ⊢
    by_cases hz : (fstM (L.drop a) 4096).1 = 0
    · rw [if_pos hz] at h; cases h
    · rw [if_neg hz] at h ⊢
      exact ⟨n, r, by rw [h3] at hz; omega, by omega, h5, h3, by rw [h4, Int.toNat_natCast]⟩
  · rw [if_pos h0] at h; exact absurd h h0
theorem decR_back {L : List Int} (hB : Byts L) (h : (decR L).1 = 0) : chkN (decR L).2.2 = 0 ∧ blkL (decR L).2.2 = L ∧ (∀ x ∈ (decR L).2.2.ops, OpOk x) := by
  have h1 : (formR L 0).1 = 0 := Classical.byContradiction fun hn => by unfold decR at h; rw [if_pos hn] at h; exact hn h
  have h2 : (auR L 1).1 = 0 := Classical.byContradiction fun hn => by unfold decR at h; rw [if_neg (by simp [h1]), if_pos hn] at h; exact hn h
  have h3 : (ckR L 2).1 = 0 := Classical.byContradiction fun hn => by unfold decR at h; rw [if_neg (by simp [h1]), if_neg (by simp [h2]), if_pos hn] at h; exact hn h
  have h4 : (fstM (L.drop (ckR L 2).2) 64).2.2 = 0 := Classical.byContradiction fun hn => by unfold decR at h; rw [if_neg (by simp [h1]), if_neg (by simp [h2]), if_neg (by simp [h3]), if_pos hn] at h; exact hn h
  have h5 : (((fstM (L.drop 2) 4096).1 == 1) == ((fstM (L.drop (ckR L 2).2) 64).1 == 0)) = true := by
    cases hf : (((fstM (L.drop 2) 4096).1 == 1) == ((fstM (L.drop (ckR L 2).2) 64).1 == 0)) with
    | true => rfl
    | false => unfold decR at h; rw [if_neg (by simp [h1]), if_neg (by simp [h2]), if_neg (by simp [h3]), if_neg (by simp [h4]), if_pos hf] at h; cases h
  have b1 := formR_back h1
  have b2 := auR_back h2
  obtain ⟨n, r, n1, n2, b3, b4, b5⟩ := ckR_back hB h3
  obtain ⟨k, _, k2, k3, k4, r2, k5⟩ := fst_form _ _ (hB.drop _) h4
  have hg := dec_go h1 h2 h3 h4 h5 _ rfl
  rw [hg] at h ⊢
  rw [k3, k4, Int.toNat_natCast, Int.toNat_natCast] at h ⊢
  rw [k3, b4] at h5
  rw [b5] at k5 h ⊢
  generalize hH : getH L k [] (2 + (numL n).length + (numL k).length) = H at h ⊢
  by_cases hh : H.1 = 0
  · obtain ⟨Q, r3, q1, q2, q3, q4⟩ := getH_back hB k [] _ (by decide) (by rw [hH]; exact hh)
    rw [hH] at q4
    rw [if_neg (by simp [hh])] at h ⊢
    rw [q4] at h ⊢
    simp only [List.nil_append] at h q2 ⊢
    by_cases hG : (getL L (2 + (numL n).length + (numL k).length + (Q.flatMap Go.Proofs.Ytgpgnldcdimmbaa.hB).length)).1 = 0
    · obtain ⟨l, r4, g1, g2, g3, g4⟩ := getL_back hB hG
      rw [if_neg (fun e => e hG)] at h ⊢
      rw [g4] at h ⊢
      simp only at h ⊢
      by_cases hr : 2 + (numL n).length + (numL k).length + (Q.flatMap Go.Proofs.Ytgpgnldcdimmbaa.hB).length + (formL l).length < L.length
      · rw [if_pos hr] at h; cases h
      · rw [if_neg hr]
        have c2 := drop_next b3
        rw [k5] at c2
        have c3 := drop_next (L := L) (a := 2 + (numL n).length) k5
        have c4 := drop_next q3
        rw [g3] at c4
        have hr4 : r4 = [] := by
          have := drop_next g3
          rw [List.drop_of_length_le (by omega)] at this
          exact this.symm
        have hc : headE ⟨(L.drop 1).getD 0 0, (fstM (L.drop 2) 4096).1, Q, l⟩ = 0 := by
          unfold headE
          simp only
          rw [if_neg (by simpa using b2.2), b4, if_neg (by
            rintro (e | e | e)
            · omega
            · omega
            · rw [q1, h5] at e; cases e), if_neg (by
            rintro (e | e)
            · omega
            · rw [q2] at e; cases e)]
        refine ⟨by rw [chkN_is hc]; exact g2, ?_, g1⟩
        have hL : L = 1 :: (L.drop 1).getD 0 0 :: L.drop 2 := by
          have := b1
          rw [b2.1] at this
          simpa using this
        conv => rhs; rw [hL, b3, ← c2, ← c3, q3, ← c4, hr4]
        simp [blkL, headL, b4, q1]
    · rw [if_pos hG] at h; exact absurd h hG
  · rw [if_pos hh] at h; exact absurd h hh
theorem byt_n (D : List Int) (mm : Int) : (byt D mm).2.1 ≤ D.length := by
  rw [byt_eq]
  have hs := fstM_shape D mm
  by_cases h : (fstM D mm).2.2 = 0
  · rw [if_pos h]
    simp only
    by_cases hw : nextW (D.drop (fstM D mm).2.1.toNat) (fstM D mm).1 = 0
    · have hN := nextN_0 _ _ hw
      rw [hN.1]
      have := hN.2.2
      rw [List.length_drop] at this
      omega
    · rw [nextN_1 _ _ hw]; omega
  · rw [if_neg h]; exact Nat.zero_le _
theorem nextN_le (D : List Int) (n : Int) : nextN D n ≤ D.length := by
  by_cases hw : nextW D n = 0
  · rw [(nextN_0 _ _ hw).1]; exact (nextN_0 _ _ hw).2.2
  · rw [nextN_1 _ _ hw]; exact Nat.zero_le _
theorem fst_n (L : List Int) (a : Nat) (ha : a ≤ L.length) (m : Int) : a + (fstM (L.drop a) m).2.1.toNat ≤ L.length := by
  have hs := fstM_shape (L.drop a) m
  rw [List.length_drop] at hs
  omega
theorem getF_at (L : List Int) (ah : List OpV) (i : Nat) (x : OpV) (a : Nat) (ha : a ≤ L.length) : (getF L ah i x a).2.1 ≤ L.length := by
  have hl : (L.drop a).length = L.length - a := List.length_drop
  unfold getF
  split
  · have := byt_n (L.drop a) 65536; simp only; omega
  split
  · have := byt_n (L.drop a) 65536; simp only; omega
  split
  · exact fst_n L a ha _
  · unfold getA
    have h1 := fst_n L a ha 1024
    have h2 := nextN_le (L.drop (a + (fstM (L.drop a) 1024).2.1.toNat)) 32
    rw [List.length_drop] at h2
    split
    · exact h1
    split
    · split
      · exact h1
      · exact ha
    split
    · simp only; omega
    · rename_i hw
      have hw' : nextW (L.drop (a + (fstM (L.drop a) 1024).2.1.toNat)) 32 = 0 := by simpa using hw
      have := (nextN_0 _ _ hw').2.2
      rw [List.length_drop] at this
      split
      · simp only; omega
      · exact ha
theorem getFs_at (L : List Int) (ah : List OpV) : ∀ (is : List Nat) (x : OpV) (a : Nat), a ≤ L.length → (getFs L ah is x a).2.1 ≤ L.length
  | [], _, _, ha => ha
  | i :: is, x, a, ha => by
    rw [getFs]
    split
    · exact getFs_at L ah is _ _ (getF_at L ah i x a ha)
    · exact getF_at L ah i x a ha
theorem getO_at (L : List Int) (ah : List OpV) (a : Nat) (ha : a ≤ L.length) : (getO L ah a).2.1 ≤ L.length := by
  unfold getO
  split
  · have := nextN_le (L.drop a) 1
    rw [List.length_drop] at this
    simp only; omega
  split
  · exact ha
  · rename_i hw _
    have hw' : nextW (L.drop a) 1 = 0 := by simpa using hw
    have := (nextN_0 _ _ hw').2.2
    rw [List.length_drop] at this
    exact getFs_at L ah _ _ _ (by omega)
theorem getN_at (L : List Int) : ∀ (n : Nat) (l : List OpV) (a : Nat), a ≤ L.length → (getN L n l a).2.1 ≤ L.length
  | 0, _, _, ha => ha
  | n + 1, l, a, ha => by
    rw [getN]
    split
    · exact getN_at L n _ _ (getO_at L l a ha)
    · exact getO_at L l a ha
theorem getL_at (L : List Int) (a : Nat) (ha : a ≤ L.length) : (getL L a).2.1 ≤ L.length := by
  unfold getL
  split
  · exact fst_n L a ha _
  · exact getN_at L _ _ _ (fst_n L a ha _)
theorem getH_at (L : List Int) : ∀ (n : Nat) (P : List Hs) (a : Nat), a ≤ L.length → (getH L n P a).2.1 ≤ L.length
  | 0, _, _, ha => ha
  | n + 1, P, a, ha => by
    rw [getH]
    have h2 := nextN_le (L.drop a) 32
    rw [List.length_drop] at h2
    split
    · simp only; omega
    split
    · exact ha
    · rename_i hw _
      have hw' : nextW (L.drop a) 32 = 0 := by simpa using hw
      have := (nextN_0 _ _ hw').2.2
      rw [List.length_drop] at this
      exact getH_at L n _ _ (by omega)
theorem decR_at (L : List Int) : (decR L).2.1 ≤ L.length := by
  have f0 : (formR L 0).2 ≤ L.length ∧ ((formR L 0).1 = 0 → 1 ≤ L.length) := by
    have h2 := nextN_le (L.drop 0) 1
    rw [List.length_drop] at h2
    unfold formR
    split
    · exact ⟨by simp only; omega, fun h => by rename_i hw; exact absurd h hw⟩
    · rename_i hw
      have hw' : nextW (L.drop 0) 1 = 0 := by simpa using hw
      have := (nextN_0 _ _ hw').2.2
      rw [List.length_drop] at this
      split
      · exact ⟨by simp only; omega, fun _ => by omega⟩
      · exact ⟨by simp only; omega, fun _ => by omega⟩
  unfold decR
  by_cases h1 : (formR L 0).1 = 0
  · rw [if_neg (by simp [h1])]
    have hl1 := f0.2 h1
    have f1 : (auR L 1).2 ≤ L.length ∧ ((auR L 1).1 = 0 → 2 ≤ L.length) := by
      have h2 := nextN_le (L.drop 1) 1
      rw [List.length_drop] at h2
      unfold auR
      split
      · exact ⟨by simp only; omega, fun h => by rename_i hw; exact absurd h hw⟩
      · rename_i hw
        have hw' : nextW (L.drop 1) 1 = 0 := by simpa using hw
        have := (nextN_0 _ _ hw').2.2
        rw [List.length_drop] at this
        split
        · exact ⟨by simp only; omega, fun _ => by omega⟩
        · exact ⟨by simp only; omega, fun _ => by omega⟩
    by_cases h2 : (auR L 1).1 = 0
    · rw [if_neg (by simp [h2])]
      have hl2 := f1.2 h2
      have f2 : (ckR L 2).2 ≤ L.length := by
        unfold ckR
        have := fst_n L 2 hl2 4096
        split
        · exact this
        split
        · exact hl2
        · exact this
      split
      · exact f2
      have f3 := fst_n L (ckR L 2).2 f2 64
      split
      · exact f3
      split
      · exact hl2
      have f4 := getH_at L (fstM (L.drop (ckR L 2).2) 64).1.toNat [] _ f3
      split
      · exact f4
      have f5 := getL_at L _ f4
      split
      · exact f5
      split
      · exact f5
      · exact f5
    · rw [if_pos h2]; exact f1.1
  · rw [if_pos h1]; exact f0.1
theorem badR_at (l : List Int) : (badR l).2 ≤ l.length := by
  unfold badR
  split
  · simp only; omega
  · exact decR_at l
theorem flat_byts {α : Type} (f : α → List Int) : ∀ l : List α, (∀ x ∈ l, Byts (f x)) → Byts (l.flatMap f)
  | [], _ => Byts.nil
  | x :: l, h => by rw [List.flatMap_cons]; exact (h x (by simp)).app (flat_byts f l fun y hy => h y (by simp [hy]))
theorem bform_byts (s : ByteArray) (h : s.size ≤ 65536) : Byts (bform (lst s)) := (numL_byts _ (by rw [lst_len]; omega)).app (lst_byts s)
theorem one_byts {ah : List OpV} {x : OpV} (hal : ah.length ≤ 1024) (hx : OpOk x) (hw : wrongV ah x = 0) : Byts (oneF x) := by
  obtain ⟨h1, h2, h3, h4, h5⟩ := wrongV_ok hw
  have hk := hasI_mem h1
  have hop : 3 ∈ hasI x.kind → x.op.toNat ≤ 1024 := fun h => by have := mayAt_op hal (h5 (hasI_three h)); omega
  have hp : ∀ i ∈ hasI x.kind, Byts (putF i x) := fun i hi => by
    unfold putF
    split
    · exact bform_byts _ h2
    split
    · exact bform_byts _ h3
    split
    · exact numL_byts _ (zig_lt _ hx.n1 hx.n2)
    · rename_i e1 e2 e3
      have h3' : i = 3 := by have := hasI_lt x.kind i hi; omega
      subst h3'
      refine (numL_byts _ (by have := hop hi; omega)).app ?_
      split
      · exact Byts.nil
      · rw [hl_hof _ hx.node]; exact hx.byts
  refine Byts.app (a := [x.kind]) (Byts.one ?_) (flat_byts _ _ hp)
  simp only [List.mem_cons, List.not_mem_nil, or_false] at hk
  omega
theorem form_byts {l : List OpV} (hc : (chk l).1 = 0) (hok : ∀ x ∈ l, OpOk x) : Byts (formL l) := by
  obtain ⟨h1, h2⟩ := chk_ok hc
  refine (numL_byts _ (by omega)).app (flat_byts _ _ fun x hx => ?_)
  obtain ⟨i, hi⟩ := List.getElem?_of_mem hx
  exact one_byts (ah := l.take i) (by rw [List.length_take]; omega) (hok x hx) (h2 i x hi)
theorem blk_byts {N : NodeV} (hc : chkN N = 0) (hok : ∀ x ∈ N.ops, OpOk x) : Byts (blkL N) := by
  obtain ⟨h1, h2⟩ := chkN_ok hc
  obtain ⟨k1, k2, k3, k4, k5, k6⟩ := headE_ok h1
  refine Byts.app (Byts.app (Byts.app (Byts.app ?_ (numL_byts _ (by omega))) (numL_byts _ (by omega))) (flat_byts _ _ fun x _ => hB_byts x)) (form_byts h2 hok)
  intro c hc
  simp at hc
  omega
theorem nA_built : Try.prog.built 27 [(0, .int .i64 1), (1, .int .i64 1)] = some (ndA 1 1 noS noS) := by kernel_rfl
def nA : NodeV := ⟨1, 1, [], []⟩
def nB : NodeV := ⟨2, 1, [], []⟩
theorem nA_chk : chkN nA = 0 := by decide
theorem nB_chk : chkN nB = 0 := by decide
theorem nA_blk : blkL nA = [1, 1, 1, 0, 0] := by decide
theorem nA_str : strOfNums [1, 1, 1, 0, 0] = { data := #[1, 1, 1, 0, 0] } := by kernel_rfl
theorem dB : decR [1, 2, 1, 0, 0] = (0, 5, nB) := by kernel_rfl
theorem byB : Byts [1, 2, 1, 0, 0] := fun c hc => by simp at hc; omega
theorem byC : Byts [1, 9] := fun c hc => by simp at hc; omega
theorem dC : badR [1, 9] = (50, 1) := by decide
theorem dC1 : ¬ ([1, 9] : List Int).length ≤ 1048576 ∨ (decR [1, 9]).1 ≠ 0 := by decide
theorem bsB5 (w : World) : (Instr.buildSlice 28 5 #[(0, .int .u8 1), (1, .int .u8 2), (2, .int .u8 1), (3, .int .u8 0), (4, .int .u8 0)]).run Try.prog w = .ok (.slice (some ⟨w.heap.size, 0, none⟩) 5 5) (w.alloc (.cells (bv [1, 2, 1, 0, 0]).toArray 5)) := by kernel_rfl
theorem bsB2 (w : World) : (Instr.buildSlice 28 2 #[(0, .int .u8 1), (1, .int .u8 9)]).run Try.prog w = .ok (.slice (some ⟨w.heap.size, 0, none⟩) 2 2) (w.alloc (.cells (bv [1, 9]).toArray 5)) := by kernel_rfl
theorem row_of {w : World} {g : Nat} {T : TypeId} {l : List Int} {n : Nat} (h : Blk w g T (bv l).toArray) (hn : n = l.length) : RowAt w (.slice (some ⟨g, 0, none⟩) n n) l := by
  subst hn
  refine .inr (.inr ⟨g, 0, l.length, rfl, Nat.le_refl _, fun i hi => ?_⟩)
  rw [Nat.zero_add, h.cell, List.getElem?_toArray]
  exact bv_get l i hi
theorem ndAt_empty (w : World) (N : NodeV) (hp : N.ps = []) (ho : N.ops = []) (h1 : -9223372036854775808 ≤ N.au ∧ N.au ≤ 9223372036854775807) (h2 : -9223372036854775808 ≤ N.ck ∧ N.ck ≤ 9223372036854775807) : NdAt w N noS noS :=
  ⟨.inl ⟨none, 0, rfl, hp, fun _ => rfl⟩, .inl ⟨none, 0, rfl, ho⟩, by rw [ho]; simp, by rw [hp]; decide, by rw [ho]; decide, fun _ k hk => by simp [noS, Value.ownBlock] at hk, h1.1, h1.2, h2.1, h2.2⟩
theorem ndAt_own {w : World} {N : NodeV} {vp vo : Value} (hp : OwnH w vp N.ps) (ho : OwnO w vo N.ops) (hk : ∀ x ∈ N.ops, OpOk x) (h1 : -9223372036854775808 ≤ N.au ∧ N.au ≤ 9223372036854775807) (h2 : -9223372036854775808 ≤ N.ck ∧ N.ck ≤ 9223372036854775807) (h3 : N.ps.length ≤ 4398046511104) (h4 : N.ops.length ≤ 4398046511104) : NdAt w N vp vo :=
  ⟨hp.row, ho.ops, hk, h3, h4, fun _ => ho.lt, h1.1, h1.2, h2.1, h2.2⟩
theorem Try.in9 (w : World) (vs : Array Value) : (callFunc 9 vs).run Try.prog w = .ok (.enter 9 vs) w := by kernel_rfl
theorem Try.in3 (w : World) (vs : Array Value) : (callFunc 3 vs).run Try.prog w = .ok (.enter 3 vs) w := by kernel_rfl
theorem Try.in16 (w : World) (vs : Array Value) : (callFunc 16 vs).run Try.prog w = .ok (.enter 16 vs) w := by kernel_rfl
set_option maxRecDepth 8000 in
set_option maxHeartbeats 2000000 in
theorem awake_any (w : World) : Calls Try.prog 9 #[] w fun e w' => e = .returned (.bool true) ∧ Below w.heap.size w w' := by
  go_enter Try.func9, Try.ntmps9
  refine wp_seq_k fun K1 hK1 => ?_
  refine wp_region_list (WL.out ?_)
  refine WL.val (by kernel_rfl) (.bool false) (by go_simp) ?_
  simp only [Act.put, List.setIfInBounds_toArray, List.set_cons_zero, List.set_cons_succ]
  refine WL.nil ?_
  refine hK1 _ _ ?_
  refine wp_seq_k fun K2 hK2 => ?_
  refine wp_region_list (WL.out ?_)
  refine WL.bld (by kernel_rfl) 27 _ rfl [(0, .int .i64 1), (1, .int .i64 1)] (by simp [Act.eval]) _ nA_built ?_
  simp only [Act.put, List.setIfInBounds_toArray, List.set_cons_zero, List.set_cons_succ]
  refine WL.callF (by kernel_rfl) 10 _ _ rfl Try.in10 #[.agg (ndA 1 1 noS noS)] (by simp [Act.eval]) ?_
  refine (encode_any nA noS noS w (ndAt_empty w nA rfl rfl (by decide) (by decide))).mono ?_
  rintro e w1 ⟨hb1, h1⟩
  obtain ⟨ga, hga, rfl, hbl⟩ : ∃ g, w.heap.size ≤ g ∧ e = .returned (.tuple #[.slice (some ⟨g, 0, none⟩) (blkL nA).length (blkL nA).length, .int .i64 0]) ∧ Blk w1 g 5 (bv (blkL nA)).toArray := by
    rcases h1 with ⟨h, _⟩ | ⟨_, h, _⟩ | ⟨_, _, h⟩
    · exact absurd nA_chk h
    · rw [nA_blk] at h; exact absurd h (by decide)
    · exact h
  refine ⟨_, rfl, ?_⟩
  clear h1
  rw [nA_blk] at hbl ⊢
  rw [show ([1, 1, 1, 0, 0] : List Int).length = 5 from rfl]
  have HA := Keep.mk hbl
  have B1 := Keep.mk hb1
  clear hbl hb1
  simp only [Act.put, List.setIfInBounds_toArray, List.set_cons_zero, List.set_cons_succ]
  refine WL.val (by kernel_rfl) (.tuple #[.slice (some ⟨ga, 0, none⟩) 5 5, .int .i64 0]) (by go_simp) ?_
  simp only [Act.put, List.setIfInBounds_toArray, List.set_cons_zero, List.set_cons_succ]
  refine WL.val (by kernel_rfl) (.slice (some ⟨ga, 0, none⟩) 5 5) (by go_simp) ?_
  simp only [Act.put, List.setIfInBounds_toArray, List.set_cons_zero, List.set_cons_succ]
  refine WL.val (by kernel_rfl) (.int .i64 0) (by go_simp) ?_
  simp only [Act.put, List.setIfInBounds_toArray, List.set_cons_zero, List.set_cons_succ]
  refine WL.val (by kernel_rfl) (.slice (some ⟨ga, 0, none⟩) 5 5) (by go_simp) ?_
  simp only [Act.put, List.setIfInBounds_toArray, List.set_cons_zero, List.set_cons_succ]
  refine WL.val (by kernel_rfl) (.int .i64 0) (by go_simp) ?_
  simp only [Act.put, List.setIfInBounds_toArray, List.set_cons_zero, List.set_cons_succ]
  refine WL.nil ?_
  refine hK2 _ _ ?_
  refine wp_seq_k fun K3 hK3 => ?_
  refine wp_region_list (WL.out ?_)
  refine WL.bs (by kernel_rfl) 28 5 _ rfl _ (by simp [Act.eval]) _ _ (bsB5 w1) ?_
  have HR2 := Keep.mk (row_of (Blk.new w1 5 (bv [1, 2, 1, 0, 0]).toArray) (n := 5) rfl)
  have B2 : Keep (Below w.heap.size w (w1.alloc (.cells (bv [1, 2, 1, 0, 0]).toArray 5))) := ⟨B1.out.trans ((below_new w1 _).mono B1.out.size)⟩
  have Bz2 : Keep (Below w1.heap.size w1 (w1.alloc (.cells (bv [1, 2, 1, 0, 0]).toArray 5))) := ⟨below_new w1 _⟩
  generalize w1.alloc (.cells (bv [1, 2, 1, 0, 0]).toArray 5) = w2 at *
  have HA2 := Keep.mk (HA.out.below Bz2.out HA.out.lt)
  simp only [Act.put, List.setIfInBounds_toArray, List.set_cons_zero, List.set_cons_succ]
  refine WL.callF (by kernel_rfl) 16 _ _ rfl Try.in16 #[.slice (some ⟨w1.heap.size, 0, none⟩) 5 5] (by simp [Act.eval]) ?_
  refine (decode_any _ [1, 2, 1, 0, 0] w2 HR2.out byB).mono ?_
  rintro e w3 h1
  obtain ⟨vp, vo, rfl, h2, h3, h4, hb3⟩ : ∃ vp vo, e = .returned (.tuple #[.agg (ndA 2 1 vp vo), .nilIface]) ∧ OwnH w3 vp [] ∧ OwnO w3 vo [] ∧ (∀ k, vp.ownBlock = some k → w2.heap.size ≤ k) ∧ Below w2.heap.size w2 w3 := by
    unfold DecPost at h1
    rw [dB] at h1
    rcases h1 with ⟨_, _, vp, vo, h1, h2, h3, h4, _, _, _, h5⟩ | ⟨h1, _⟩
    · exact ⟨vp, vo, h1, h2, h3, h4, h5⟩
    · exfalso; revert h1; decide
  refine ⟨_, rfl, ?_⟩
  clear h1 h4
  obtain ⟨pa, pc, rfl⟩ := h2.sl
  obtain ⟨qa, qc, rfl⟩ := h3.sl
  have HP := Keep.mk h2
  have HQ := Keep.mk h3
  have Bz3 := Keep.mk hb3
  have B3 : Keep (Below w.heap.size w w3) := ⟨B2.out.trans (hb3.mono B2.out.size)⟩
  have HA3 := Keep.mk (HA2.out.below hb3 HA2.out.lt)
  clear h2 h3 hb3
  simp only [Act.put, List.setIfInBounds_toArray, List.set_cons_zero, List.set_cons_succ]
  refine WL.val (by kernel_rfl) (.tuple #[.agg (ndA 2 1 (.slice pa ([] : List Hs).length pc) (.slice qa ([] : List OpV).length qc)), .nilIface]) (by go_simp) ?_
  simp only [Act.put, List.setIfInBounds_toArray, List.set_cons_zero, List.set_cons_succ]
  refine WL.val (by kernel_rfl) (.agg (ndA 2 1 (.slice pa ([] : List Hs).length pc) (.slice qa ([] : List OpV).length qc))) (by go_simp) ?_
  simp only [Act.put, List.setIfInBounds_toArray, List.set_cons_zero, List.set_cons_succ]
  refine WL.val (by kernel_rfl) (.nilIface) (by go_simp) ?_
  simp only [Act.put, List.setIfInBounds_toArray, List.set_cons_zero, List.set_cons_succ]
  refine WL.new (by kernel_rfl) 27 rfl _ Try.new27N ?_
  simp only [Act.put, List.setIfInBounds_toArray, List.set_cons_zero, List.set_cons_succ]
  refine WL.storeR (by kernel_rfl) 27 (.tmp 3) (.tmp 17) rfl w3.heap.size (ndA 2 1 (.slice pa ([] : List Hs).length pc) (.slice qa ([] : List OpV).length qc)) rfl rfl 27 (ndA 0 0 noS noS) (Blk.new w3 27 _) (Try.size27B _ _ _ _) rfl (nd_one _ _ _ _ _ _ _ _) ?_
  have HN4 := Keep.mk ((Blk.new w3 27 (ndA 0 0 noS noS)).setRow (ndA 2 1 (.slice pa ([] : List Hs).length pc) (.slice qa ([] : List OpV).length qc)))
  have Bz4 : Keep (Below w3.heap.size w3 ((w3.alloc (.cells (ndA 0 0 noS noS) 27)).setRow w3.heap.size (ndA 2 1 (.slice pa ([] : List Hs).length pc) (.slice qa ([] : List OpV).length qc)))) := ⟨below_setRow (below_new w3 _) (Nat.le_refl _) _⟩
  generalize (w3.alloc (.cells (ndA 0 0 noS noS) 27)).setRow w3.heap.size (ndA 2 1 (.slice pa ([] : List Hs).length pc) (.slice qa ([] : List OpV).length qc)) = w4 at *
  have B4 : Keep (Below w.heap.size w w4) := ⟨B3.out.trans (Bz4.out.mono B3.out.size)⟩
  have HA4 := Keep.mk (HA3.out.below Bz4.out HA3.out.lt)
  have HP4 := Keep.mk (HP.out.below Bz4.out)
  have HQ4 := Keep.mk (HQ.out.below Bz4.out)
  simp only [Act.put]
  refine WL.val (by kernel_rfl) (.nilIface) (by go_simp) ?_
  simp only [Act.put, List.setIfInBounds_toArray, List.set_cons_zero, List.set_cons_succ]
  refine WL.nil ?_
  refine hK3 _ _ ?_
  refine wp_seq_k fun K4 hK4 => ?_
  refine wp_region_list (WL.out ?_)
  refine WL.bs (by kernel_rfl) 28 2 _ rfl _ (by simp [Act.eval]) _ _ (bsB2 w4) ?_
  have HR5 := Keep.mk (row_of (Blk.new w4 5 (bv [1, 9]).toArray) (n := 2) rfl)
  have B5 : Keep (Below w.heap.size w (w4.alloc (.cells (bv [1, 9]).toArray 5))) := ⟨B4.out.trans ((below_new w4 _).mono B4.out.size)⟩
  have Bz5 : Keep (Below w4.heap.size w4 (w4.alloc (.cells (bv [1, 9]).toArray 5))) := ⟨below_new w4 _⟩
  generalize w4.alloc (.cells (bv [1, 9]).toArray 5) = w5 at *
  have HA5 := Keep.mk (HA4.out.below Bz5.out HA4.out.lt)
  have HP5 := Keep.mk (HP4.out.below Bz5.out)
  have HQ5 := Keep.mk (HQ4.out.below Bz5.out)
  have HN5 := Keep.mk (HN4.out.below Bz5.out HN4.out.lt)
  simp only [Act.put, List.setIfInBounds_toArray, List.set_cons_zero, List.set_cons_succ]
  refine WL.callF (by kernel_rfl) 16 _ _ rfl Try.in16 #[.slice (some ⟨w4.heap.size, 0, none⟩) 2 2] (by simp [Act.eval]) ?_
  refine (decode_any _ [1, 9] w5 HR5.out byC).mono ?_
  rintro e w6 h1
  obtain ⟨q, hq, rfl, hbad, hb6⟩ : ∃ q, w5.heap.size ≤ q ∧ e = .returned (.tuple #[.agg (ndA 0 0 noS noS), err q]) ∧ BadAt w6 q 50 1 ∧ Below w5.heap.size w5 w6 := by
    unfold DecPost at h1
    rw [dC] at h1
    rcases h1 with ⟨_, h1, _⟩ | ⟨_, h1⟩
    · exact absurd h1 (by decide)
    · exact h1
  refine ⟨_, rfl, ?_⟩
  clear h1
  unfold err
  have HBd := Keep.mk hbad
  have Bz6 := Keep.mk hb6
  have B6 : Keep (Below w.heap.size w w6) := ⟨B5.out.trans (hb6.mono B5.out.size)⟩
  have HA6 := Keep.mk (HA5.out.below hb6 HA5.out.lt)
  have HP6 := Keep.mk (HP5.out.below hb6)
  have HQ6 := Keep.mk (HQ5.out.below hb6)
  have HN6 := Keep.mk (HN5.out.below hb6 HN5.out.lt)
  clear hbad hb6
  simp only [Act.put, List.setIfInBounds_toArray, List.set_cons_zero, List.set_cons_succ]
  refine WL.val (by kernel_rfl) (.tuple #[.agg (ndA 0 0 noS noS), .iface 68 (ptr q)]) (by go_simp) ?_
  simp only [Act.put, List.setIfInBounds_toArray, List.set_cons_zero, List.set_cons_succ]
  refine WL.val (by kernel_rfl) (.agg (ndA 0 0 noS noS)) (by go_simp) ?_
  simp only [Act.put, List.setIfInBounds_toArray, List.set_cons_zero, List.set_cons_succ]
  refine WL.val (by kernel_rfl) (.iface 68 (ptr q)) (by go_simp) ?_
  simp only [Act.put, List.setIfInBounds_toArray, List.set_cons_zero, List.set_cons_succ]
  refine WL.new (by kernel_rfl) 27 rfl _ Try.new27N ?_
  simp only [Act.put, List.setIfInBounds_toArray, List.set_cons_zero, List.set_cons_succ]
  refine WL.storeR (by kernel_rfl) 27 (.tmp 5) (.tmp 22) rfl w6.heap.size (ndA 0 0 noS noS) rfl rfl 27 (ndA 0 0 noS noS) (Blk.new w6 27 _) (Try.size27B _ _ _ _) rfl (nd_one 0 0 none 0 0 none 0 0) ?_
  have HZ7 := Keep.mk ((Blk.new w6 27 (ndA 0 0 noS noS)).setRow (ndA 0 0 noS noS))
  have Bz7 : Keep (Below w6.heap.size w6 ((w6.alloc (.cells (ndA 0 0 noS noS) 27)).setRow w6.heap.size (ndA 0 0 noS noS))) := ⟨below_setRow (below_new w6 _) (Nat.le_refl _) _⟩
  generalize (w6.alloc (.cells (ndA 0 0 noS noS) 27)).setRow w6.heap.size (ndA 0 0 noS noS) = w7 at *
  have B7 : Keep (Below w.heap.size w w7) := ⟨B6.out.trans (Bz7.out.mono B6.out.size)⟩
  have HA7 := Keep.mk (HA6.out.below Bz7.out HA6.out.lt)
  have HP7 := Keep.mk (HP6.out.below Bz7.out)
  have HQ7 := Keep.mk (HQ6.out.below Bz7.out)
  have HN7 := Keep.mk (HN6.out.below Bz7.out HN6.out.lt)
  have HB7 : Keep (BadAt w7 q 50 1) := ⟨HBd.out.below Bz7.out HBd.out.lt⟩
  simp only [Act.put]
  refine WL.val (by kernel_rfl) (.iface 68 (ptr q)) (by go_simp) ?_
  simp only [Act.put, List.setIfInBounds_toArray, List.set_cons_zero, List.set_cons_succ]
  refine WL.nil ?_
  refine hK4 _ _ ?_
  refine wp_seq_k fun K5 hK5 => ?_
  refine wp_region_list (WL.out ?_)
  refine WL.val (by kernel_rfl) (.iface 68 (ptr q)) (by go_simp) ?_
  simp only [Act.put, List.setIfInBounds_toArray, List.set_cons_zero, List.set_cons_succ]
  refine WL.callF (by kernel_rfl) 21 _ _ rfl Try.in21 #[.iface 68 (ptr q)] (by simp [Act.eval]) ?_
  refine (told_err q 50 1 w7 HB7.out (by decide)).mono ?_
  rintro e w8 ⟨rfl, hb8⟩
  refine ⟨_, rfl, ?_⟩
  have Bz8 := Keep.mk hb8
  have B8 : Keep (Below w.heap.size w w8) := ⟨B7.out.trans (hb8.mono B7.out.size)⟩
  have HA8 := Keep.mk (HA7.out.below hb8 HA7.out.lt)
  have HP8 := Keep.mk (HP7.out.below hb8)
  have HQ8 := Keep.mk (HQ7.out.below hb8)
  have HN8 := Keep.mk (HN7.out.below hb8 HN7.out.lt)
  clear hb8
  simp only [Act.put, List.setIfInBounds_toArray, List.set_cons_zero, List.set_cons_succ]
  refine WL.val (by kernel_rfl) (.tuple #[.agg (erA 50 ((1 : Nat) : Int)), .bool true]) (by go_simp) ?_
  simp only [Act.put, List.setIfInBounds_toArray, List.set_cons_zero, List.set_cons_succ]
  refine WL.val (by kernel_rfl) (.agg (erA 50 ((1 : Nat) : Int))) (by go_simp) ?_
  simp only [Act.put, List.setIfInBounds_toArray, List.set_cons_zero, List.set_cons_succ]
  refine WL.val (by kernel_rfl) (.bool true) (by go_simp) ?_
  simp only [Act.put, List.setIfInBounds_toArray, List.set_cons_zero, List.set_cons_succ]
  refine WL.new (by kernel_rfl) 49 rfl _ Try.new49E ?_
  simp only [Act.put, List.setIfInBounds_toArray, List.set_cons_zero, List.set_cons_succ]
  refine WL.storeR (by kernel_rfl) 49 (.tmp 7) (.tmp 27) rfl w8.heap.size (erA 50 ((1 : Nat) : Int)) rfl rfl 49 (erA 0 0) (Blk.new w8 49 _) (Try.size49B _ _) (erA_sizes _ _ _ _) (erA_one _ _) ?_
  have HZ9 := Keep.mk ((Blk.new w8 49 (erA 0 0)).setRow (erA 50 ((1 : Nat) : Int)))
  have Bz9 : Keep (Below w8.heap.size w8 ((w8.alloc (.cells (erA 0 0) 49)).setRow w8.heap.size (erA 50 ((1 : Nat) : Int)))) := ⟨below_setRow (below_new w8 _) (Nat.le_refl _) _⟩
  generalize (w8.alloc (.cells (erA 0 0) 49)).setRow w8.heap.size (erA 50 ((1 : Nat) : Int)) = w9 at *
  have B9 : Keep (Below w.heap.size w w9) := ⟨B8.out.trans (Bz9.out.mono B8.out.size)⟩
  have HA9 := Keep.mk (HA8.out.below Bz9.out HA8.out.lt)
  have HP9 := Keep.mk (HP8.out.below Bz9.out)
  have HQ9 := Keep.mk (HQ8.out.below Bz9.out)
  have HN9 := Keep.mk (HN8.out.below Bz9.out HN8.out.lt)
  have hcv : (convert 28 9 (.slice (some ⟨ga, 0, none⟩) 5 5)).run Try.prog w9 = .ok (.string { data := #[1, 1, 1, 0, 0] }) w9 := by
    have h := conv_row _ _ w9 (row_of HA9.out rfl)
    rw [nA_str] at h
    exact h
  have d0 := HN9.out.c 0 (nd_0 _ _ _ _)
  have d1 := HN9.out.c 1 (nd_1 _ _ _ _)
  have z0 : w9.cell? ⟨w8.heap.size, 0, none⟩ = some (.int .i64 50) := HZ9.out.c 0 rfl
  have z1 : w9.cell? ⟨w8.heap.size, 1, none⟩ = some (.int .i64 ((1 : Nat) : Int)) := HZ9.out.c 1 rfl
  simp only [Act.put]
  refine WL.val (by kernel_rfl) (.bool true) (by go_simp) ?_
  simp only [Act.put, List.setIfInBounds_toArray, List.set_cons_zero, List.set_cons_succ]
  refine WL.nil ?_
  refine hK5 _ _ ?_
  refine wp_seq_k fun K6 hK6 => ?_
  refine wp_region_list (WL.out ?_)
  refine WL.val (by kernel_rfl) (.int .i64 0) (by go_simp) ?_
  simp only [Act.put, List.setIfInBounds_toArray, List.set_cons_zero, List.set_cons_succ]
  refine WL.val (by kernel_rfl) (.bool true) (by go_simp) ?_
  simp only [Act.put, List.setIfInBounds_toArray, List.set_cons_zero, List.set_cons_succ]
  refine WL.val (by kernel_rfl) (.bool true) (by go_simp) ?_
  simp only [Act.put, List.setIfInBounds_toArray, List.set_cons_zero, List.set_cons_succ]
  refine WL.val (by kernel_rfl) (.slice (some ⟨ga, 0, none⟩) 5 5) (by go_simp) ?_
  simp only [Act.put, List.setIfInBounds_toArray, List.set_cons_zero, List.set_cons_succ]
  refine WL.val (by kernel_rfl) (.string { data := #[1, 1, 1, 0, 0] }) (by go_simp) ?_
  simp only [Act.put, List.setIfInBounds_toArray, List.set_cons_zero, List.set_cons_succ]
  refine WL.val (by kernel_rfl) (.bool true) (by go_simp) ?_
  simp only [Act.put, List.setIfInBounds_toArray, List.set_cons_zero, List.set_cons_succ]
  refine WL.val (by kernel_rfl) (.bool true) (by go_simp) ?_
  simp only [Act.put, List.setIfInBounds_toArray, List.set_cons_zero, List.set_cons_succ]
  refine WL.val (by kernel_rfl) (.bool true) (by go_simp) ?_
  simp only [Act.put, List.setIfInBounds_toArray, List.set_cons_zero, List.set_cons_succ]
  refine WL.val (by kernel_rfl) (.nilIface) (by go_simp) ?_
  simp only [Act.put, List.setIfInBounds_toArray, List.set_cons_zero, List.set_cons_succ]
  refine WL.val (by kernel_rfl) (.bool true) (by go_simp) ?_
  simp only [Act.put, List.setIfInBounds_toArray, List.set_cons_zero, List.set_cons_succ]
  refine WL.val (by kernel_rfl) (.bool true) (by go_simp) ?_
  simp only [Act.put, List.setIfInBounds_toArray, List.set_cons_zero, List.set_cons_succ]
  refine WL.val (by kernel_rfl) (.bool true) (by go_simp) ?_
  simp only [Act.put, List.setIfInBounds_toArray, List.set_cons_zero, List.set_cons_succ]
  refine WL.val (by kernel_rfl) (.pointer (some ⟨w3.heap.size, 0, none⟩)) (by go_simp) ?_
  simp only [Act.put, List.setIfInBounds_toArray, List.set_cons_zero, List.set_cons_succ]
  refine WL.val (by kernel_rfl) (.int .i64 2) (by go_simp) ?_
  simp only [Act.put, List.setIfInBounds_toArray, List.set_cons_zero, List.set_cons_succ]
  refine WL.val (by kernel_rfl) (.bool true) (by go_simp) ?_
  simp only [Act.put, List.setIfInBounds_toArray, List.set_cons_zero, List.set_cons_succ]
  refine WL.val (by kernel_rfl) (.bool true) (by go_simp) ?_
  simp only [Act.put, List.setIfInBounds_toArray, List.set_cons_zero, List.set_cons_succ]
  refine WL.val (by kernel_rfl) (.bool true) (by go_simp) ?_
  simp only [Act.put, List.setIfInBounds_toArray, List.set_cons_zero, List.set_cons_succ]
  refine WL.val (by kernel_rfl) (.pointer (some ⟨w3.heap.size, 1, none⟩)) (by go_simp) ?_
  simp only [Act.put, List.setIfInBounds_toArray, List.set_cons_zero, List.set_cons_succ]
  refine WL.val (by kernel_rfl) (.int .i64 1) (by go_simp) ?_
  simp only [Act.put, List.setIfInBounds_toArray, List.set_cons_zero, List.set_cons_succ]
  refine WL.val (by kernel_rfl) (.bool true) (by go_simp) ?_
  simp only [Act.put, List.setIfInBounds_toArray, List.set_cons_zero, List.set_cons_succ]
  refine WL.val (by kernel_rfl) (.bool true) (by go_simp) ?_
  simp only [Act.put, List.setIfInBounds_toArray, List.set_cons_zero, List.set_cons_succ]
  refine WL.val (by kernel_rfl) (.bool true) (by go_simp) ?_
  simp only [Act.put, List.setIfInBounds_toArray, List.set_cons_zero, List.set_cons_succ]
  refine WL.val (by kernel_rfl) (.bool true) (by go_simp) ?_
  simp only [Act.put, List.setIfInBounds_toArray, List.set_cons_zero, List.set_cons_succ]
  refine WL.val (by kernel_rfl) (.bool true) (by go_simp) ?_
  simp only [Act.put, List.setIfInBounds_toArray, List.set_cons_zero, List.set_cons_succ]
  refine WL.val (by kernel_rfl) (.bool true) (by go_simp) ?_
  simp only [Act.put, List.setIfInBounds_toArray, List.set_cons_zero, List.set_cons_succ]
  refine WL.val (by kernel_rfl) (.pointer (some ⟨w8.heap.size, 0, none⟩)) (by go_simp) ?_
  simp only [Act.put, List.setIfInBounds_toArray, List.set_cons_zero, List.set_cons_succ]
  refine WL.val (by kernel_rfl) (.int .i64 50) (by go_simp) ?_
  simp only [Act.put, List.setIfInBounds_toArray, List.set_cons_zero, List.set_cons_succ]
  refine WL.val (by kernel_rfl) (.bool true) (by go_simp) ?_
  simp only [Act.put, List.setIfInBounds_toArray, List.set_cons_zero, List.set_cons_succ]
  refine WL.val (by kernel_rfl) (.bool true) (by go_simp) ?_
  simp only [Act.put, List.setIfInBounds_toArray, List.set_cons_zero, List.set_cons_succ]
  refine WL.val (by kernel_rfl) (.bool true) (by go_simp) ?_
  simp only [Act.put, List.setIfInBounds_toArray, List.set_cons_zero, List.set_cons_succ]
  refine WL.val (by kernel_rfl) (.pointer (some ⟨w8.heap.size, 1, none⟩)) (by go_simp) ?_
  simp only [Act.put, List.setIfInBounds_toArray, List.set_cons_zero, List.set_cons_succ]
  refine WL.val (by kernel_rfl) (.int .i64 ((1 : Nat) : Int)) (by go_simp) ?_
  simp only [Act.put, List.setIfInBounds_toArray, List.set_cons_zero, List.set_cons_succ]
  refine WL.val (by kernel_rfl) (.bool true) (by go_simp) ?_
  simp only [Act.put, List.setIfInBounds_toArray, List.set_cons_zero, List.set_cons_succ]
  refine WL.val (by kernel_rfl) (.bool true) (by go_simp) ?_
  simp only [Act.put, List.setIfInBounds_toArray, List.set_cons_zero, List.set_cons_succ]
  refine WL.val (by kernel_rfl) (.bool true) (by go_simp) ?_
  simp only [Act.put, List.setIfInBounds_toArray, List.set_cons_zero, List.set_cons_succ]
  refine WL.row (by kernel_rfl) 27 (.tmp 3) rfl w3.heap.size rfl 27 (ndA 2 1 (.slice pa ([] : List Hs).length pc) (.slice qa ([] : List OpV).length qc)) _ HN9.out Try.underlying27 rfl (Try.size27B _ _ _ _) ?_
  simp only [Act.put, List.setIfInBounds_toArray, List.set_cons_zero, List.set_cons_succ]
  refine WL.callF (by kernel_rfl) 12 _ _ rfl Try.in12 #[.agg (ndA 2 1 (.slice pa ([] : List Hs).length pc) (.slice qa ([] : List OpV).length qc))] (by simp [Act.eval]) ?_
  refine (check_node nB _ _ w9 (ndAt_own (N := nB) HP9.out HQ9.out (by simp [nB]) (by decide) (by decide) (by decide) (by decide))).mono ?_
  rintro e w10 ⟨rfl, hb10⟩
  refine ⟨_, rfl, ?_⟩
  rw [nB_chk]
  have B10 : Keep (Below w.heap.size w w10) := ⟨B9.out.trans (hb10.mono B9.out.size)⟩
  clear hb10
  simp only [Act.put, List.setIfInBounds_toArray, List.set_cons_zero, List.set_cons_succ]
  refine WL.val (by kernel_rfl) (.bool true) (by go_simp) ?_
  simp only [Act.put, List.setIfInBounds_toArray, List.set_cons_zero, List.set_cons_succ]
  refine WL.val (by kernel_rfl) (.bool true) (by go_simp) ?_
  simp only [Act.put, List.setIfInBounds_toArray, List.set_cons_zero, List.set_cons_succ]
  refine WL.val (by kernel_rfl) (.bool true) (by go_simp) ?_
  simp only [Act.put, List.setIfInBounds_toArray, List.set_cons_zero, List.set_cons_succ]
  refine WL.nil ?_
  refine hK6 _ _ ?_
  refine wp_ret ?_
  go_ret
  exact ⟨rfl, B10.out⟩
theorem names_any (w : World) : Calls Try.prog 3 #[] w fun e w' => e = .returned (.bool true) ∧ Below w.heap.size w w' := by
  go_enter Try.func3, Try.ntmps3
  refine wp_seq_k fun K1 hK1 => ?_
  refine wp_region_list (WL.out ?_)
  refine WL.val (by kernel_rfl) (.bool false) (by go_simp) ?_
  simp only [Act.put, List.setIfInBounds_toArray, List.set_cons_zero, List.set_cons_succ]
  refine WL.nil ?_
  refine hK1 _ _ ?_
  refine wp_seq_k fun K2 hK2 => ?_
  refine wp_region_list (WL.out ?_)
  refine WL.val (by kernel_rfl) (.bool true) (by go_simp) ?_
  simp only [Act.put, List.setIfInBounds_toArray, List.set_cons_zero, List.set_cons_succ]
  refine WL.nil ?_
  refine hK2 _ _ ?_
  refine wp_seq_k fun K3 hK3 => ?_
  refine wp_region_list (WL.out ?_)
  refine WL.val (by kernel_rfl) (.bool true) (by go_simp) ?_
  simp only [Act.put, List.setIfInBounds_toArray, List.set_cons_zero, List.set_cons_succ]
  refine WL.val (by kernel_rfl) (.bool true) (by go_simp) ?_
  simp only [Act.put, List.setIfInBounds_toArray, List.set_cons_zero, List.set_cons_succ]
  refine WL.val (by kernel_rfl) (.bool true) (by go_simp) ?_
  simp only [Act.put, List.setIfInBounds_toArray, List.set_cons_zero, List.set_cons_succ]
  refine WL.val (by kernel_rfl) (.bool true) (by go_simp) ?_
  simp only [Act.put, List.setIfInBounds_toArray, List.set_cons_zero, List.set_cons_succ]
  refine WL.val (by kernel_rfl) (.bool true) (by go_simp) ?_
  simp only [Act.put, List.setIfInBounds_toArray, List.set_cons_zero, List.set_cons_succ]
  refine WL.val (by kernel_rfl) (.bool true) (by go_simp) ?_
  simp only [Act.put, List.setIfInBounds_toArray, List.set_cons_zero, List.set_cons_succ]
  refine WL.val (by kernel_rfl) (.bool true) (by go_simp) ?_
  simp only [Act.put, List.setIfInBounds_toArray, List.set_cons_zero, List.set_cons_succ]
  refine WL.val (by kernel_rfl) (.bool true) (by go_simp) ?_
  simp only [Act.put, List.setIfInBounds_toArray, List.set_cons_zero, List.set_cons_succ]
  refine WL.val (by kernel_rfl) (.bool true) (by go_simp) ?_
  simp only [Act.put, List.setIfInBounds_toArray, List.set_cons_zero, List.set_cons_succ]
  refine WL.val (by kernel_rfl) (.bool true) (by go_simp) ?_
  simp only [Act.put, List.setIfInBounds_toArray, List.set_cons_zero, List.set_cons_succ]
  refine WL.val (by kernel_rfl) (.bool true) (by go_simp) ?_
  simp only [Act.put, List.setIfInBounds_toArray, List.set_cons_zero, List.set_cons_succ]
  refine WL.val (by kernel_rfl) (.bool true) (by go_simp) ?_
  simp only [Act.put, List.setIfInBounds_toArray, List.set_cons_zero, List.set_cons_succ]
  refine WL.callF (by kernel_rfl) 9 _ _ rfl Try.in9 #[] (by simp) ?_
  refine (awake_any w).mono ?_
  rintro e w1 ⟨rfl, hb1⟩
  refine ⟨_, rfl, ?_⟩
  simp only [Act.put, List.setIfInBounds_toArray, List.set_cons_zero, List.set_cons_succ]
  refine WL.val (by kernel_rfl) (.bool true) (by go_simp) ?_
  simp only [Act.put, List.setIfInBounds_toArray, List.set_cons_zero, List.set_cons_succ]
  refine WL.val (by kernel_rfl) (.bool true) (by go_simp) ?_
  simp only [Act.put, List.setIfInBounds_toArray, List.set_cons_zero, List.set_cons_succ]
  refine WL.nil ?_
  refine hK3 _ _ ?_
  refine wp_ret ?_
  go_ret
  exact ⟨rfl, hb1⟩
end Go.Proofs.Ytgpgnldcdimmbaa
