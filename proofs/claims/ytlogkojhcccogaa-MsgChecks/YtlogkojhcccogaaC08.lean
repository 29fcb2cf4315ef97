import Derived.Test.YtlogkojhcccogaaC07
import Derived.Test.YtlogkojhcccogaaC04
import Derived.Test.YtlogkojhcccogaaC06
namespace Go.Proofs.Ytlogkojhcccogaa
open Go.RowKit
set_option linter.unusedSimpArgs false
set_option linter.unusedVariables false

theorem has_of {k : Int} (h : ¬ k < 1 ∧ ¬ 3 < k) : ¬ hasI k = [] := by
  have : k = 1 ∨ k = 2 ∨ k = 3 := by omega
  rcases this with rfl | rfl | rfl <;> decide
theorem has_no {k : Int} (h : k < 1 ∨ 3 < k) : hasI k = [] := hasI_none k (by simp; omega)
theorem bk_nil {M : MsgV} (h : ¬ hasI M.k = []) (hB : moreB M = false) (h3 : ¬ M.k = 3) : M.bk = [] := by
  rcases hasI_cases h with e | e | e
  · simp [moreB, e] at hB; exact hB
  · simp [moreB, e, leftB] at hB; exact hB.2
  · exact absurd e h3
set_option maxRecDepth 8000 in
set_option maxHeartbeats 4000000 in
theorem rcheck_any (M : MsgV) (c : MC) (w : World) (hA : MsAt w M c) (hok : MsOk M) : Calls Try.prog 29 #[.agg (msA c)] w fun e w' => e = .returned (.int .i64 (chkM M)) ∧ Below w.heap.size w w' := by
  obtain ⟨ha, hk, e1⟩ := hA.hd.form
  obtain ⟨ba, bk, e2⟩ := row_form hA.bl
  obtain ⟨wa, wk, e3⟩ := hA.wt.form
  obtain ⟨xa, xk, e4⟩ := hA.bk.form
  have E1 := Keep.mk e1
  have E3 := Keep.mk e2
  have E4 := Keep.mk e3
  have E5 := Keep.mk e4
  have Ek := Keep.mk hA.k
  have HA := Keep.mk hA
  have HOk := Keep.mk hok
  obtain ⟨R, hR⟩ : ∃ R, R = chkM M := ⟨_, rfl⟩
  rw [← hR]
  unfold chkM at hR
  have HR := Keep.mk hR
  have n1 : (M.hd.length : Int) ≤ 140737488355328 := by have := hok.hd; omega
  have n3 : (M.wt.length : Int) ≤ 140737488355328 := by have := hok.wt; omega
  have n4 : (M.bk.length : Int) ≤ 140737488355328 := by have := hok.bk; omega
  have n5 : (M.bl.length : Int) ≤ 140737488355328 := by have := hok.bl; omega
  clear hA hok hR e1 e2 e3 e4
  go_enter Try.func29, Try.ntmps29
  refine wp_seq_k fun K1 hK1 => ?_
  refine wp_region_list (WL.out ?_)
  refine WL.box (by kernel_rfl) 28 (.tmp 0) rfl _ rfl ?_
  have HM1 := Keep.mk (Blk.new w 28 (msA c))
  have B1 := Keep.mk (below_new w (.cells (msA c) 28))
  have HA1 := Keep.mk (HA.out.below (below_new w (.cells (msA c) 28)))
  generalize w.alloc (.cells (msA c) 28) = w1 at *
  generalize w.heap.size = g at HM1 ⊢
  have d0 := HM1.out.c 0 (ms_0 c)
  have d1 := HM1.out.c 1 (ms_1 c)
  have d3 := HM1.out.c 3 (ms_3 c)
  have d4 := HM1.out.c 4 (ms_4 c)
  have d5 := HM1.out.c 5 (ms_5 c)
  rw [Ek.out] at d0
  rw [E1.out] at d1
  rw [E3.out] at d3
  rw [E4.out] at d4
  rw [E5.out] at d5
  simp only [Act.put, List.setIfInBounds_toArray, List.set_cons_zero, List.set_cons_succ]
  refine WL.val (by kernel_rfl) (.int .i64 0) (by go_simp) ?_
  simp only [Act.put, List.setIfInBounds_toArray, List.set_cons_zero, List.set_cons_succ]
  refine WL.nil ?_
  refine hK1 _ _ ?_
  refine wp_seq_k fun K2 hK2 => ?_
  refine wp_seq_k fun K3 hK3 => ?_
  refine wp_region_list (WL.out ?_)
  refine WL.val (by kernel_rfl) (.pointer (some ⟨g, 0, none⟩)) (by go_simp) ?_
  simp only [Act.put, List.setIfInBounds_toArray, List.set_cons_zero, List.set_cons_succ]
  refine WL.val (by kernel_rfl) (.int .i64 M.k) (by go_simp) ?_
  simp only [Act.put, List.setIfInBounds_toArray, List.set_cons_zero, List.set_cons_succ]
  by_cases h1_2 : M.k < 1
  · skip
    refine WL.val (by kernel_rfl) (.bool true) (by go_simp) ?_
    simp only [Act.put, List.setIfInBounds_toArray, List.set_cons_zero, List.set_cons_succ]
    refine WL.val (by kernel_rfl) (.bool true) (by go_simp) ?_
    simp only [Act.put, List.setIfInBounds_toArray, List.set_cons_zero, List.set_cons_succ]
    refine WL.skip (by kernel_rfl) ?_
    simp only [Act.put, List.setIfInBounds_toArray, List.set_cons_zero, List.set_cons_succ]
    refine WL.skip (by kernel_rfl) ?_
    simp only [Act.put, List.setIfInBounds_toArray, List.set_cons_zero, List.set_cons_succ]
    refine WL.skip (by kernel_rfl) ?_
    simp only [Act.put, List.setIfInBounds_toArray, List.set_cons_zero, List.set_cons_succ]
    refine WL.val (by kernel_rfl) (.bool true) (by go_simp) ?_
    simp only [Act.put, List.setIfInBounds_toArray, List.set_cons_zero, List.set_cons_succ]
    refine WL.nil ?_
    refine hK3 _ _ ?_
    refine wp_cond_true rfl ?_
    refine wp_seq_k fun K4 hK4 => ?_
    refine wp_region_list (WL.out ?_)
    refine WL.val (by kernel_rfl) (.int .i64 40) (by go_simp) ?_
    simp only [Act.put, List.setIfInBounds_toArray, List.set_cons_zero, List.set_cons_succ]
    refine WL.nil ?_
    refine hK4 _ _ ?_
    refine wp_ret ?_
    go_ret
    have hkn : hasI M.k = [] := has_no (by omega)
    exact ⟨by rw [HR.out, if_pos hkn]; rfl, B1.out⟩
  · skip
    refine WL.val (by kernel_rfl) (.bool false) (by go_simp) ?_
    simp only [Act.put, List.setIfInBounds_toArray, List.set_cons_zero, List.set_cons_succ]
    refine WL.val (by kernel_rfl) (.bool false) (by go_simp) ?_
    simp only [Act.put, List.setIfInBounds_toArray, List.set_cons_zero, List.set_cons_succ]
    refine WL.val (by kernel_rfl) (.pointer (some ⟨g, 0, none⟩)) (by go_simp) ?_
    simp only [Act.put, List.setIfInBounds_toArray, List.set_cons_zero, List.set_cons_succ]
    refine WL.val (by kernel_rfl) (.int .i64 M.k) (by go_simp) ?_
    simp only [Act.put, List.setIfInBounds_toArray, List.set_cons_zero, List.set_cons_succ]
    by_cases h1_6 : 3 < M.k
    · skip
      refine WL.val (by kernel_rfl) (.bool true) (by go_simp) ?_
      simp only [Act.put, List.setIfInBounds_toArray, List.set_cons_zero, List.set_cons_succ]
      refine WL.val (by kernel_rfl) (.bool true) (by go_simp) ?_
      simp only [Act.put, List.setIfInBounds_toArray, List.set_cons_zero, List.set_cons_succ]
      refine WL.nil ?_
      refine hK3 _ _ ?_
      refine wp_cond_true rfl ?_
      refine wp_seq_k fun K5 hK5 => ?_
      refine wp_region_list (WL.out ?_)
      refine WL.val (by kernel_rfl) (.int .i64 40) (by go_simp) ?_
      simp only [Act.put, List.setIfInBounds_toArray, List.set_cons_zero, List.set_cons_succ]
      refine WL.nil ?_
      refine hK5 _ _ ?_
      refine wp_ret ?_
      go_ret
      have hkn : hasI M.k = [] := has_no (by omega)
      exact ⟨by rw [HR.out, if_pos hkn]; rfl, B1.out⟩
    · skip
      refine WL.val (by kernel_rfl) (.bool false) (by go_simp) ?_
      simp only [Act.put, List.setIfInBounds_toArray, List.set_cons_zero, List.set_cons_succ]
      refine WL.val (by kernel_rfl) (.bool false) (by go_simp) ?_
      simp only [Act.put, List.setIfInBounds_toArray, List.set_cons_zero, List.set_cons_succ]
      refine WL.nil ?_
      refine hK3 _ _ ?_
      refine wp_cond_false rfl ?_
      refine wp_skip ?_
      refine hK2 _ _ ?_
      refine wp_seq_k fun K6 hK6 => ?_
      have hkne : ¬ hasI M.k = [] := has_of (by omega)
      rcases Bool.eq_false_or_eq_true (moreB M) with hB | hB
      · have HC2 := Keep.mk (fields_any M c w1 HA1.out HOk.out)
        rw [hB] at HC2
        refine wp_region_list (WL.out ?_)
        refine WL.row (by kernel_rfl) 28 (.tmp 1) rfl g rfl 28 (msA c) _ HM1.out Try.underlying28 rfl (Try.size28B _) ?_
        simp only [Act.put, List.setIfInBounds_toArray, List.set_cons_zero, List.set_cons_succ]
        refine WL.callF (by kernel_rfl) 59 _ _ rfl Try.in59 #[.agg (msA c)] (by simp [Act.eval]) ?_
        refine (HC2.out).mono ?_
        rintro e w2 ⟨rfl, hb2⟩
        refine ⟨_, rfl, ?_⟩
        clear HC2
        have HM2 := Keep.mk (HM1.out.below hb2 HM1.out.lt)
        have HA2 := Keep.mk (HA1.out.below hb2)
        have B2 : Keep (Below w.heap.size w w2) := ⟨B1.out.trans (hb2.mono B1.out.size)⟩
        clear d0 d1 d3 d4 d5 hb2
        have d0 := HM2.out.c 0 (ms_0 c)
        have d1 := HM2.out.c 1 (ms_1 c)
        have d3 := HM2.out.c 3 (ms_3 c)
        have d4 := HM2.out.c 4 (ms_4 c)
        have d5 := HM2.out.c 5 (ms_5 c)
        rw [Ek.out] at d0
        rw [E1.out] at d1
        rw [E3.out] at d3
        rw [E4.out] at d4
        rw [E5.out] at d5
        simp only [Act.put, List.setIfInBounds_toArray, List.set_cons_zero, List.set_cons_succ]
        refine WL.val (by kernel_rfl) (.bool (!true)) (by go_simp) ?_
        simp only [Act.put, List.setIfInBounds_toArray, List.set_cons_zero, List.set_cons_succ]
        refine WL.nil ?_
        refine hK6 _ _ ?_
        refine wp_seq_k fun K7 hK7 => ?_
        refine wp_seq_k fun K8 hK8 => ?_
        simp only [Bool.not_true, Bool.not_false]
        refine wp_region_list (WL.out ?_)
        refine WL.val (by kernel_rfl) (.bool false) (by go_simp) ?_
        simp only [Act.put, List.setIfInBounds_toArray, List.set_cons_zero, List.set_cons_succ]
        refine WL.val (by kernel_rfl) (.bool true) (by go_simp) ?_
        simp only [Act.put, List.setIfInBounds_toArray, List.set_cons_zero, List.set_cons_succ]
        refine WL.nil ?_
        refine hK8 _ _ ?_
        refine wp_cond_true rfl ?_
        refine wp_seq_k fun K9 hK9 => ?_
        refine wp_region_list (WL.out ?_)
        refine WL.val (by kernel_rfl) (.int .i64 41) (by go_simp) ?_
        simp only [Act.put, List.setIfInBounds_toArray, List.set_cons_zero, List.set_cons_succ]
        refine WL.nil ?_
        refine hK9 _ _ ?_
        refine wp_ret ?_
        go_ret
        first | exact ⟨by rw [HR.out]; (simp [*] <;> simp [hasI]), B2.out⟩ | exact ⟨by rw [HR.out]; (simp [*] <;> simp [hasI]), B3.out⟩ | exact ⟨by rw [HR.out]; (simp [*] <;> simp [hasI]), B4.out⟩
      · have HC2 := Keep.mk (fields_any M c w1 HA1.out HOk.out)
        rw [hB] at HC2
        refine wp_region_list (WL.out ?_)
        refine WL.row (by kernel_rfl) 28 (.tmp 1) rfl g rfl 28 (msA c) _ HM1.out Try.underlying28 rfl (Try.size28B _) ?_
        simp only [Act.put, List.setIfInBounds_toArray, List.set_cons_zero, List.set_cons_succ]
        refine WL.callF (by kernel_rfl) 59 _ _ rfl Try.in59 #[.agg (msA c)] (by simp [Act.eval]) ?_
        refine (HC2.out).mono ?_
        rintro e w2 ⟨rfl, hb2⟩
        refine ⟨_, rfl, ?_⟩
        clear HC2
        have HM2 := Keep.mk (HM1.out.below hb2 HM1.out.lt)
        have HA2 := Keep.mk (HA1.out.below hb2)
        have B2 : Keep (Below w.heap.size w w2) := ⟨B1.out.trans (hb2.mono B1.out.size)⟩
        clear d0 d1 d3 d4 d5 hb2
        have d0 := HM2.out.c 0 (ms_0 c)
        have d1 := HM2.out.c 1 (ms_1 c)
        have d3 := HM2.out.c 3 (ms_3 c)
        have d4 := HM2.out.c 4 (ms_4 c)
        have d5 := HM2.out.c 5 (ms_5 c)
        rw [Ek.out] at d0
        rw [E1.out] at d1
        rw [E3.out] at d3
        rw [E4.out] at d4
        rw [E5.out] at d5
        simp only [Act.put, List.setIfInBounds_toArray, List.set_cons_zero, List.set_cons_succ]
        refine WL.val (by kernel_rfl) (.bool (!false)) (by go_simp) ?_
        simp only [Act.put, List.setIfInBounds_toArray, List.set_cons_zero, List.set_cons_succ]
        refine WL.nil ?_
        refine hK6 _ _ ?_
        refine wp_seq_k fun K10 hK10 => ?_
        refine wp_seq_k fun K11 hK11 => ?_
        simp only [Bool.not_true, Bool.not_false]
        refine wp_region_list (WL.out ?_)
        refine WL.val (by kernel_rfl) (.bool true) (by go_simp) ?_
        simp only [Act.put, List.setIfInBounds_toArray, List.set_cons_zero, List.set_cons_succ]
        refine WL.val (by kernel_rfl) (.bool false) (by go_simp) ?_
        simp only [Act.put, List.setIfInBounds_toArray, List.set_cons_zero, List.set_cons_succ]
        refine WL.nil ?_
        refine hK11 _ _ ?_
        refine wp_cond_false rfl ?_
        refine wp_skip ?_
        refine hK10 _ _ ?_
        refine wp_seq_k fun K12 hK12 => ?_
        refine wp_seq_k fun K13 hK13 => ?_
        refine wp_region_list (WL.out ?_)
        refine WL.val (by kernel_rfl) (.pointer (some ⟨g, 1, none⟩)) (by go_simp) ?_
        simp only [Act.put, List.setIfInBounds_toArray, List.set_cons_zero, List.set_cons_succ]
        refine WL.val (by kernel_rfl) (.slice ha M.hd.length hk) (by go_simp) ?_
        simp only [Act.put, List.setIfInBounds_toArray, List.set_cons_zero, List.set_cons_succ]
        refine WL.val (by kernel_rfl) (.int .i64 (M.hd.length : Int)) (by go_simp) ?_
        simp only [Act.put, List.setIfInBounds_toArray, List.set_cons_zero, List.set_cons_succ]
        by_cases h6_3 : 4096 < M.hd.length
        · have h6_3i : (4096 : Int) < (M.hd.length : Int) := by omega
          refine WL.val (by kernel_rfl) (.bool true) (by go_simp) ?_
          simp only [Act.put, List.setIfInBounds_toArray, List.set_cons_zero, List.set_cons_succ]
          refine WL.val (by kernel_rfl) (.bool true) (by go_simp) ?_
          simp only [Act.put, List.setIfInBounds_toArray, List.set_cons_zero, List.set_cons_succ]
          refine WL.skip (by kernel_rfl) ?_
          simp only [Act.put, List.setIfInBounds_toArray, List.set_cons_zero, List.set_cons_succ]
          refine WL.skip (by kernel_rfl) ?_
          simp only [Act.put, List.setIfInBounds_toArray, List.set_cons_zero, List.set_cons_succ]
          refine WL.skip (by kernel_rfl) ?_
          simp only [Act.put, List.setIfInBounds_toArray, List.set_cons_zero, List.set_cons_succ]
          refine WL.skip (by kernel_rfl) ?_
          simp only [Act.put, List.setIfInBounds_toArray, List.set_cons_zero, List.set_cons_succ]
          refine WL.val (by kernel_rfl) (.bool true) (by go_simp) ?_
          simp only [Act.put, List.setIfInBounds_toArray, List.set_cons_zero, List.set_cons_succ]
          refine WL.val (by kernel_rfl) (.bool true) (by go_simp) ?_
          simp only [Act.put, List.setIfInBounds_toArray, List.set_cons_zero, List.set_cons_succ]
          refine WL.skip (by kernel_rfl) ?_
          simp only [Act.put, List.setIfInBounds_toArray, List.set_cons_zero, List.set_cons_succ]
          refine WL.skip (by kernel_rfl) ?_
          simp only [Act.put, List.setIfInBounds_toArray, List.set_cons_zero, List.set_cons_succ]
          refine WL.skip (by kernel_rfl) ?_
          simp only [Act.put, List.setIfInBounds_toArray, List.set_cons_zero, List.set_cons_succ]
          refine WL.skip (by kernel_rfl) ?_
          simp only [Act.put, List.setIfInBounds_toArray, List.set_cons_zero, List.set_cons_succ]
          refine WL.val (by kernel_rfl) (.bool true) (by go_simp) ?_
          simp only [Act.put, List.setIfInBounds_toArray, List.set_cons_zero, List.set_cons_succ]
          refine WL.nil ?_
          refine hK13 _ _ ?_
          refine wp_cond_true rfl ?_
          refine wp_seq_k fun K14 hK14 => ?_
          refine wp_region_list (WL.out ?_)
          refine WL.val (by kernel_rfl) (.int .i64 3) (by go_simp) ?_
          simp only [Act.put, List.setIfInBounds_toArray, List.set_cons_zero, List.set_cons_succ]
          refine WL.nil ?_
          refine hK14 _ _ ?_
          refine wp_ret ?_
          go_ret
          first | exact ⟨by rw [HR.out]; (simp [*] <;> simp [hasI]), B2.out⟩ | exact ⟨by rw [HR.out]; (simp [*] <;> simp [hasI]), B3.out⟩ | exact ⟨by rw [HR.out]; (simp [*] <;> simp [hasI]), B4.out⟩
        · have h6_3i : ¬ (4096 : Int) < (M.hd.length : Int) := by omega
          refine WL.val (by kernel_rfl) (.bool false) (by go_simp) ?_
          simp only [Act.put, List.setIfInBounds_toArray, List.set_cons_zero, List.set_cons_succ]
          refine WL.val (by kernel_rfl) (.bool false) (by go_simp) ?_
          simp only [Act.put, List.setIfInBounds_toArray, List.set_cons_zero, List.set_cons_succ]
          refine WL.val (by kernel_rfl) (.pointer (some ⟨g, 4, none⟩)) (by go_simp) ?_
          simp only [Act.put, List.setIfInBounds_toArray, List.set_cons_zero, List.set_cons_succ]
          refine WL.val (by kernel_rfl) (.slice wa M.wt.length wk) (by go_simp) ?_
          simp only [Act.put, List.setIfInBounds_toArray, List.set_cons_zero, List.set_cons_succ]
          refine WL.val (by kernel_rfl) (.int .i64 (M.wt.length : Int)) (by go_simp) ?_
          simp only [Act.put, List.setIfInBounds_toArray, List.set_cons_zero, List.set_cons_succ]
          by_cases h6_8 : 4096 < M.wt.length
          · have h6_8i : (4096 : Int) < (M.wt.length : Int) := by omega
            refine WL.val (by kernel_rfl) (.bool true) (by go_simp) ?_
            simp only [Act.put, List.setIfInBounds_toArray, List.set_cons_zero, List.set_cons_succ]
            refine WL.val (by kernel_rfl) (.bool true) (by go_simp) ?_
            simp only [Act.put, List.setIfInBounds_toArray, List.set_cons_zero, List.set_cons_succ]
            refine WL.val (by kernel_rfl) (.bool true) (by go_simp) ?_
            simp only [Act.put, List.setIfInBounds_toArray, List.set_cons_zero, List.set_cons_succ]
            refine WL.skip (by kernel_rfl) ?_
            simp only [Act.put, List.setIfInBounds_toArray, List.set_cons_zero, List.set_cons_succ]
            refine WL.skip (by kernel_rfl) ?_
            simp only [Act.put, List.setIfInBounds_toArray, List.set_cons_zero, List.set_cons_succ]
            refine WL.skip (by kernel_rfl) ?_
            simp only [Act.put, List.setIfInBounds_toArray, List.set_cons_zero, List.set_cons_succ]
            refine WL.skip (by kernel_rfl) ?_
            simp only [Act.put, List.setIfInBounds_toArray, List.set_cons_zero, List.set_cons_succ]
            refine WL.val (by kernel_rfl) (.bool true) (by go_simp) ?_
            simp only [Act.put, List.setIfInBounds_toArray, List.set_cons_zero, List.set_cons_succ]
            refine WL.nil ?_
            refine hK13 _ _ ?_
            refine wp_cond_true rfl ?_
            refine wp_seq_k fun K15 hK15 => ?_
            refine wp_region_list (WL.out ?_)
            refine WL.val (by kernel_rfl) (.int .i64 3) (by go_simp) ?_
            simp only [Act.put, List.setIfInBounds_toArray, List.set_cons_zero, List.set_cons_succ]
            refine WL.nil ?_
            refine hK15 _ _ ?_
            refine wp_ret ?_
            go_ret
            first | exact ⟨by rw [HR.out]; (simp [*] <;> simp [hasI]), B2.out⟩ | exact ⟨by rw [HR.out]; (simp [*] <;> simp [hasI]), B3.out⟩ | exact ⟨by rw [HR.out]; (simp [*] <;> simp [hasI]), B4.out⟩
          · have h6_8i : ¬ (4096 : Int) < (M.wt.length : Int) := by omega
            refine WL.val (by kernel_rfl) (.bool false) (by go_simp) ?_
            simp only [Act.put, List.setIfInBounds_toArray, List.set_cons_zero, List.set_cons_succ]
            refine WL.val (by kernel_rfl) (.bool false) (by go_simp) ?_
            simp only [Act.put, List.setIfInBounds_toArray, List.set_cons_zero, List.set_cons_succ]
            refine WL.val (by kernel_rfl) (.bool false) (by go_simp) ?_
            simp only [Act.put, List.setIfInBounds_toArray, List.set_cons_zero, List.set_cons_succ]
            refine WL.val (by kernel_rfl) (.pointer (some ⟨g, 5, none⟩)) (by go_simp) ?_
            simp only [Act.put, List.setIfInBounds_toArray, List.set_cons_zero, List.set_cons_succ]
            refine WL.val (by kernel_rfl) (.slice xa M.bk.length xk) (by go_simp) ?_
            simp only [Act.put, List.setIfInBounds_toArray, List.set_cons_zero, List.set_cons_succ]
            refine WL.val (by kernel_rfl) (.int .i64 (M.bk.length : Int)) (by go_simp) ?_
            simp only [Act.put, List.setIfInBounds_toArray, List.set_cons_zero, List.set_cons_succ]
            by_cases h6_14 : 256 < M.bk.length
            · have h6_14i : (256 : Int) < (M.bk.length : Int) := by omega
              refine WL.val (by kernel_rfl) (.bool true) (by go_simp) ?_
              simp only [Act.put, List.setIfInBounds_toArray, List.set_cons_zero, List.set_cons_succ]
              refine WL.val (by kernel_rfl) (.bool true) (by go_simp) ?_
              simp only [Act.put, List.setIfInBounds_toArray, List.set_cons_zero, List.set_cons_succ]
              refine WL.nil ?_
              refine hK13 _ _ ?_
              refine wp_cond_true rfl ?_
              refine wp_seq_k fun K16 hK16 => ?_
              refine wp_region_list (WL.out ?_)
              refine WL.val (by kernel_rfl) (.int .i64 3) (by go_simp) ?_
              simp only [Act.put, List.setIfInBounds_toArray, List.set_cons_zero, List.set_cons_succ]
              refine WL.nil ?_
              refine hK16 _ _ ?_
              refine wp_ret ?_
              go_ret
              first | exact ⟨by rw [HR.out]; (simp [*] <;> simp [hasI]), B2.out⟩ | exact ⟨by rw [HR.out]; (simp [*] <;> simp [hasI]), B3.out⟩ | exact ⟨by rw [HR.out]; (simp [*] <;> simp [hasI]), B4.out⟩
            · have h6_14i : ¬ (256 : Int) < (M.bk.length : Int) := by omega
              refine WL.val (by kernel_rfl) (.bool false) (by go_simp) ?_
              simp only [Act.put, List.setIfInBounds_toArray, List.set_cons_zero, List.set_cons_succ]
              refine WL.val (by kernel_rfl) (.bool false) (by go_simp) ?_
              simp only [Act.put, List.setIfInBounds_toArray, List.set_cons_zero, List.set_cons_succ]
              refine WL.nil ?_
              refine hK13 _ _ ?_
              refine wp_cond_false rfl ?_
              refine wp_skip ?_
              refine hK12 _ _ ?_
              refine wp_seq_k fun K17 hK17 => ?_
              refine wp_seq_k fun K18 hK18 => ?_
              refine wp_region_list (WL.out ?_)
              refine WL.val (by kernel_rfl) (.pointer (some ⟨g, 0, none⟩)) (by go_simp) ?_
              simp only [Act.put, List.setIfInBounds_toArray, List.set_cons_zero, List.set_cons_succ]
              refine WL.val (by kernel_rfl) (.int .i64 M.k) (by go_simp) ?_
              simp only [Act.put, List.setIfInBounds_toArray, List.set_cons_zero, List.set_cons_succ]
              by_cases h8_2 : M.k = 3
              · skip
                refine WL.val (by kernel_rfl) (.bool true) (by go_simp) ?_
                simp only [Act.put, List.setIfInBounds_toArray, List.set_cons_zero, List.set_cons_succ]
                refine WL.val (by kernel_rfl) (.bool true) (by go_simp) ?_
                simp only [Act.put, List.setIfInBounds_toArray, List.set_cons_zero, List.set_cons_succ]
                refine WL.val (by kernel_rfl) (.pointer (some ⟨g, 5, none⟩)) (by go_simp) ?_
                simp only [Act.put, List.setIfInBounds_toArray, List.set_cons_zero, List.set_cons_succ]
                refine WL.val (by kernel_rfl) (.slice xa M.bk.length xk) (by go_simp) ?_
                simp only [Act.put, List.setIfInBounds_toArray, List.set_cons_zero, List.set_cons_succ]
                refine WL.val (by kernel_rfl) (.int .i64 (M.bk.length : Int)) (by go_simp) ?_
                simp only [Act.put, List.setIfInBounds_toArray, List.set_cons_zero, List.set_cons_succ]
                by_cases h8_7 : M.bk.length = 0
                · have h8_7i : (M.bk.length : Int) = 0 := by omega
                  refine WL.val (by kernel_rfl) (.bool true) (by go_simp) ?_
                  simp only [Act.put, List.setIfInBounds_toArray, List.set_cons_zero, List.set_cons_succ]
                  refine WL.val (by kernel_rfl) (.bool true) (by go_simp) ?_
                  simp only [Act.put, List.setIfInBounds_toArray, List.set_cons_zero, List.set_cons_succ]
                  refine WL.nil ?_
                  refine hK18 _ _ ?_
                  refine wp_cond_true rfl ?_
                  refine wp_seq_k fun K19 hK19 => ?_
                  refine wp_region_list (WL.out ?_)
                  refine WL.val (by kernel_rfl) (.int .i64 1) (by go_simp) ?_
                  simp only [Act.put, List.setIfInBounds_toArray, List.set_cons_zero, List.set_cons_succ]
                  refine WL.nil ?_
                  refine hK19 _ _ ?_
                  refine wp_ret ?_
                  go_ret
                  first | exact ⟨by rw [HR.out]; (simp [*] <;> simp [hasI]), B2.out⟩ | exact ⟨by rw [HR.out]; (simp [*] <;> simp [hasI]), B3.out⟩ | exact ⟨by rw [HR.out]; (simp [*] <;> simp [hasI]), B4.out⟩
                · have h8_7i : ¬ (M.bk.length : Int) = 0 := by omega
                  refine WL.val (by kernel_rfl) (.bool false) (by go_simp) ?_
                  simp only [Act.put, List.setIfInBounds_toArray, List.set_cons_zero, List.set_cons_succ]
                  refine WL.val (by kernel_rfl) (.bool false) (by go_simp) ?_
                  simp only [Act.put, List.setIfInBounds_toArray, List.set_cons_zero, List.set_cons_succ]
                  refine WL.nil ?_
                  refine hK18 _ _ ?_
                  refine wp_cond_false rfl ?_
                  refine wp_skip ?_
                  refine hK17 _ _ ?_
                  refine wp_seq_k fun K20 hK20 => ?_
                  rcases Bool.eq_false_or_eq_true (Sh.risesB M.hd) with hC | hC
                  · have HC3 := Keep.mk (Sh.refRising_any (.slice ha M.hd.length hk) M.hd w2 (by have h := HA2.out.hd; rw [E1.out] at h; exact h) (by omega))
                    rw [hC] at HC3
                    refine wp_region_list (WL.out ?_)
                    refine WL.val (by kernel_rfl) (.pointer (some ⟨g, 1, none⟩)) (by go_simp) ?_
                    simp only [Act.put, List.setIfInBounds_toArray, List.set_cons_zero, List.set_cons_succ]
                    refine WL.val (by kernel_rfl) (.slice ha M.hd.length hk) (by go_simp) ?_
                    simp only [Act.put, List.setIfInBounds_toArray, List.set_cons_zero, List.set_cons_succ]
                    refine WL.callF (by kernel_rfl) 60 _ _ rfl Try.in60 #[.slice ha M.hd.length hk] (by simp [Act.eval]) ?_
                    refine (HC3.out).mono ?_
                    rintro e w3 ⟨rfl, hb3⟩
                    refine ⟨_, rfl, ?_⟩
                    clear HC3
                    have HM3 := Keep.mk (HM2.out.below hb3 HM2.out.lt)
                    have HA3 := Keep.mk (HA2.out.below hb3)
                    have B3 : Keep (Below w.heap.size w w3) := ⟨B2.out.trans (hb3.mono B2.out.size)⟩
                    clear d0 d1 d3 d4 d5 hb3
                    have d0 := HM3.out.c 0 (ms_0 c)
                    have d1 := HM3.out.c 1 (ms_1 c)
                    have d3 := HM3.out.c 3 (ms_3 c)
                    have d4 := HM3.out.c 4 (ms_4 c)
                    have d5 := HM3.out.c 5 (ms_5 c)
                    rw [Ek.out] at d0
                    rw [E1.out] at d1
                    rw [E3.out] at d3
                    rw [E4.out] at d4
                    rw [E5.out] at d5
                    simp only [Act.put, List.setIfInBounds_toArray, List.set_cons_zero, List.set_cons_succ]
                    refine WL.val (by kernel_rfl) (.bool true) (by go_simp) ?_
                    simp only [Act.put, List.setIfInBounds_toArray, List.set_cons_zero, List.set_cons_succ]
                    refine WL.nil ?_
                    refine hK20 _ _ ?_
                    refine wp_seq_k fun K21 hK21 => ?_
                    rcases Bool.eq_false_or_eq_true (Sh.risesB M.wt) with hD | hD
                    · have HC4 := Keep.mk (Sh.refRising_any (.slice wa M.wt.length wk) M.wt w3 (by have h := HA3.out.wt; rw [E4.out] at h; exact h) (by omega))
                      rw [hD] at HC4
                      refine wp_region_list (WL.out ?_)
                      refine WL.val (by kernel_rfl) (.pointer (some ⟨g, 4, none⟩)) (by go_simp) ?_
                      simp only [Act.put, List.setIfInBounds_toArray, List.set_cons_zero, List.set_cons_succ]
                      refine WL.val (by kernel_rfl) (.slice wa M.wt.length wk) (by go_simp) ?_
                      simp only [Act.put, List.setIfInBounds_toArray, List.set_cons_zero, List.set_cons_succ]
                      refine WL.callF (by kernel_rfl) 60 _ _ rfl Try.in60 #[.slice wa M.wt.length wk] (by simp [Act.eval]) ?_
                      refine (HC4.out).mono ?_
                      rintro e w4 ⟨rfl, hb4⟩
                      refine ⟨_, rfl, ?_⟩
                      clear HC4
                      have HM4 := Keep.mk (HM3.out.below hb4 HM3.out.lt)
                      have HA4 := Keep.mk (HA3.out.below hb4)
                      have B4 : Keep (Below w.heap.size w w4) := ⟨B3.out.trans (hb4.mono B3.out.size)⟩
                      clear d0 d1 d3 d4 d5 hb4
                      have d0 := HM4.out.c 0 (ms_0 c)
                      have d1 := HM4.out.c 1 (ms_1 c)
                      have d3 := HM4.out.c 3 (ms_3 c)
                      have d4 := HM4.out.c 4 (ms_4 c)
                      have d5 := HM4.out.c 5 (ms_5 c)
                      rw [Ek.out] at d0
                      rw [E1.out] at d1
                      rw [E3.out] at d3
                      rw [E4.out] at d4
                      rw [E5.out] at d5
                      simp only [Act.put, List.setIfInBounds_toArray, List.set_cons_zero, List.set_cons_succ]
                      refine WL.val (by kernel_rfl) (.bool true) (by go_simp) ?_
                      simp only [Act.put, List.setIfInBounds_toArray, List.set_cons_zero, List.set_cons_succ]
                      refine WL.nil ?_
                      refine hK21 _ _ ?_
                      refine wp_seq_k fun K22 hK22 => ?_
                      refine wp_seq_k fun K23 hK23 => ?_
                      refine wp_region_list (WL.out ?_)
                      refine WL.val (by kernel_rfl) (.bool true) (by go_simp) ?_
                      simp only [Act.put, List.setIfInBounds_toArray, List.set_cons_zero, List.set_cons_succ]
                      refine WL.val (by kernel_rfl) (.bool false) (by go_simp) ?_
                      simp only [Act.put, List.setIfInBounds_toArray, List.set_cons_zero, List.set_cons_succ]
                      refine WL.val (by kernel_rfl) (.bool false) (by go_simp) ?_
                      simp only [Act.put, List.setIfInBounds_toArray, List.set_cons_zero, List.set_cons_succ]
                      refine WL.val (by kernel_rfl) (.bool true) (by go_simp) ?_
                      simp only [Act.put, List.setIfInBounds_toArray, List.set_cons_zero, List.set_cons_succ]
                      refine WL.val (by kernel_rfl) (.bool false) (by go_simp) ?_
                      simp only [Act.put, List.setIfInBounds_toArray, List.set_cons_zero, List.set_cons_succ]
                      refine WL.val (by kernel_rfl) (.bool false) (by go_simp) ?_
                      simp only [Act.put, List.setIfInBounds_toArray, List.set_cons_zero, List.set_cons_succ]
                      refine WL.nil ?_
                      refine hK23 _ _ ?_
                      refine wp_cond_false rfl ?_
                      refine wp_skip ?_
                      refine hK22 _ _ ?_
                      refine wp_seq_k fun K24 hK24 => ?_
                      rcases Bool.eq_false_or_eq_true (isP (M.bl.length : Int)) with hP | hP
                      · have HC5 := Keep.mk (digest_any (.slice ba M.bl.length bk) M.bl w4 (by have h := HA4.out.bl; rw [E3.out] at h; exact h) (by have := HOk.out.bl; omega))
                        rw [hP] at HC5
                        refine wp_region_list (WL.out ?_)
                        refine WL.val (by kernel_rfl) (.pointer (some ⟨g, 3, none⟩)) (by go_simp) ?_
                        simp only [Act.put, List.setIfInBounds_toArray, List.set_cons_zero, List.set_cons_succ]
                        refine WL.val (by kernel_rfl) (.slice ba M.bl.length bk) (by go_simp) ?_
                        simp only [Act.put, List.setIfInBounds_toArray, List.set_cons_zero, List.set_cons_succ]
                        refine WL.callF (by kernel_rfl) 42 _ _ rfl Try.in42 #[.slice ba M.bl.length bk] (by simp [Act.eval]) ?_
                        refine (HC5.out).mono ?_
                        rintro e w0 ⟨rfl, hw0⟩
                        rw [hw0]
                        clear hw0 w0
                        refine ⟨_, rfl, ?_⟩
                        simp only [Act.put, List.setIfInBounds_toArray, List.set_cons_zero, List.set_cons_succ]
                        refine WL.val (by kernel_rfl) (.bool true) (by go_simp) ?_
                        simp only [Act.put, List.setIfInBounds_toArray, List.set_cons_zero, List.set_cons_succ]
                        refine WL.nil ?_
                        refine hK24 _ _ ?_
                        refine wp_seq_k fun K25 hK25 => ?_
                        refine wp_seq_k fun K26 hK26 => ?_
                        have hk1 : ¬ M.k = 1 := by omega
                        refine wp_region_list (WL.out ?_)
                        refine WL.val (by kernel_rfl) (.pointer (some ⟨g, 0, none⟩)) (by go_simp) ?_
                        simp only [Act.put, List.setIfInBounds_toArray, List.set_cons_zero, List.set_cons_succ]
                        refine WL.val (by kernel_rfl) (.int .i64 M.k) (by go_simp) ?_
                        simp only [Act.put, List.setIfInBounds_toArray, List.set_cons_zero, List.set_cons_succ]
                        refine WL.val (by kernel_rfl) (.bool false) (by go_simp) ?_
                        simp only [Act.put, List.setIfInBounds_toArray, List.set_cons_zero, List.set_cons_succ]
                        refine WL.val (by kernel_rfl) (.bool false) (by go_simp) ?_
                        simp only [Act.put, List.setIfInBounds_toArray, List.set_cons_zero, List.set_cons_succ]
                        refine WL.skip (by kernel_rfl) ?_
                        simp only [Act.put, List.setIfInBounds_toArray, List.set_cons_zero, List.set_cons_succ]
                        refine WL.skip (by kernel_rfl) ?_
                        simp only [Act.put, List.setIfInBounds_toArray, List.set_cons_zero, List.set_cons_succ]
                        refine WL.val (by kernel_rfl) (.bool false) (by go_simp) ?_
                        simp only [Act.put, List.setIfInBounds_toArray, List.set_cons_zero, List.set_cons_succ]
                        refine WL.nil ?_
                        refine hK26 _ _ ?_
                        refine wp_cond_false rfl ?_
                        refine wp_skip ?_
                        refine hK25 _ _ ?_
                        refine wp_seq_k fun K27 hK27 => ?_
                        refine wp_seq_k fun K28 hK28 => ?_
                        refine wp_region_list (WL.out ?_)
                        refine WL.val (by kernel_rfl) (.int .i64 0) (by go_simp) ?_
                        simp only [Act.put, List.setIfInBounds_toArray, List.set_cons_zero, List.set_cons_succ]
                        refine WL.nil ?_
                        refine hK28 _ _ ?_
                        refine wp_block ?_
                        refine wp_loop (fun ac wr => ∃ (t : Nat) (u2 u8 u69 u70 u71 u72 u73 u74 u75 u76 u77 u78 u79 u80 u81 u82 u83 : Value), ac = { tmps := #[.agg (msA c), .pointer (some ⟨g, 0, none⟩), u2, .bool true, .bool true, .bool true, .bool true, .int .i64 (t : Int), u8, undef, .pointer (some ⟨g, 0, none⟩), .int .i64 M.k, .bool false, .bool false, .pointer (some ⟨g, 0, none⟩), .int .i64 M.k, .bool false, .bool false, .agg (msA c), .bool true, .bool true, .bool false, .pointer (some ⟨g, 1, none⟩), .slice ha M.hd.length hk, .int .i64 (M.hd.length : Int), .bool false, .bool false, .pointer (some ⟨g, 4, none⟩), .slice wa M.wt.length wk, .int .i64 (M.wt.length : Int), .bool false, .bool false, .bool false, .pointer (some ⟨g, 5, none⟩), .slice xa M.bk.length xk, .int .i64 (M.bk.length : Int), .bool false, .bool false, .pointer (some ⟨g, 0, none⟩), .int .i64 M.k, .bool true, .bool true, .pointer (some ⟨g, 5, none⟩), .slice xa M.bk.length xk, .int .i64 (M.bk.length : Int), .bool false, .bool false, .pointer (some ⟨g, 1, none⟩), .slice ha M.hd.length hk, .bool true, .pointer (some ⟨g, 4, none⟩), .slice wa M.wt.length wk, .bool true, .bool true, .bool false, .bool false, .bool true, .bool false, .bool false, .pointer (some ⟨g, 3, none⟩), .slice ba M.bl.length bk, .bool true, .pointer (some ⟨g, 0, none⟩), .int .i64 M.k, .bool false, .bool false, undef, undef, .bool false, u69, u70, u71, u72, u73, u74, u75, u76, u77, u78, u79, u80, u81, u82, u83, undef, undef, undef, undef], defers := [] } ∧ t ≤ M.bk.length ∧ wr = w4 ∧ Keep (∀ j, j < t → 0 < (M.bk.getD j []).length ∧ (M.bk.getD j []).length ≤ 1048576)) (fun a _ => M.bk.length - (intOf (a.tmps.getD 7 undef)).toNat) ⟨0, .int .i64 0, undef, undef, undef, undef, undef, undef, undef, undef, undef, undef, undef, undef, undef, undef, undef, undef, rfl, by omega, rfl, ⟨fun j hj => by omega⟩⟩ ?_
                        rintro ac wr ⟨t, u2, u8, u69, u70, u71, u72, u73, u74, u75, u76, u77, u78, u79, u80, u81, u82, u83, rfl, ht, hwr, HK⟩
                        subst wr
                        by_cases hlt : t < M.bk.length
                        · have hlt' : (t : Int) < (M.bk.length : Int) := by omega
                          have hwt1 : IntKind.i64.wrap ((t : Int) + 1) = (t : Int) + 1 := by rw [IntKind.wrap_i64]; omega
                          obtain ⟨qb, ob, ya, yc, hxa, _, hcl, hrow⟩ := RwsAt.at (by have h := HA4.out.bk; rw [E5.out] at h; exact h) t hlt
                          subst hxa
                          have Hrow := Keep.mk hrow
                          clear hrow
                          by_cases hrk : 0 < (M.bk.getD t []).length ∧ (M.bk.getD t []).length ≤ 1048576
                          · have HC7 := Keep.mk (row_any _ _ w4 Hrow.out (HOk.out.rows t hlt))
                            rw [decide_eq_true hrk] at HC7
                            have HRx := Keep.mk hrk
                            clear hrk
                            obtain ⟨nr, hnr⟩ : ∃ nr, nr = (M.bk.getD t []).length := ⟨_, rfl⟩
                            rw [← hnr] at hcl HC7
                            clear hnr
                            refine wp_seq_k fun K29 hK29 => ?_
                            refine wp_seq_k fun K30 hK30 => ?_
                            refine wp_region_list (WL.out ?_)
                            refine WL.val (by kernel_rfl) (.int .i64 (t : Int)) (by go_simp) ?_
                            simp only [Act.put, List.setIfInBounds_toArray, List.set_cons_zero, List.set_cons_succ]
                            refine WL.val (by kernel_rfl) (.pointer (some ⟨g, 5, none⟩)) (by go_simp) ?_
                            simp only [Act.put, List.setIfInBounds_toArray, List.set_cons_zero, List.set_cons_succ]
                            refine WL.val (by kernel_rfl) (.slice (some ⟨qb, ob, none⟩) M.bk.length xk) (by go_simp) ?_
                            simp only [Act.put, List.setIfInBounds_toArray, List.set_cons_zero, List.set_cons_succ]
                            refine WL.val (by kernel_rfl) (.int .i64 (M.bk.length : Int)) (by go_simp) ?_
                            simp only [Act.put, List.setIfInBounds_toArray, List.set_cons_zero, List.set_cons_succ]
                            refine WL.val (by kernel_rfl) (.bool true) (by go_simp) ?_
                            simp only [Act.put, List.setIfInBounds_toArray, List.set_cons_zero, List.set_cons_succ]
                            refine WL.nil ?_
                            refine hK30 _ _ ?_
                            refine wp_cond_true rfl ?_
                            refine wp_skip ?_
                            refine hK29 _ _ ?_
                            refine wp_seq_k fun K31 hK31 => ?_
                            refine wp_block ?_
                            refine wp_seq_k fun K32 hK32 => ?_
                            refine wp_region_list (WL.out ?_)
                            refine WL.val (by kernel_rfl) (.pointer (some ⟨g, 5, none⟩)) (by go_simp) ?_
                            simp only [Act.put, List.setIfInBounds_toArray, List.set_cons_zero, List.set_cons_succ]
                            refine WL.val (by kernel_rfl) (.slice (some ⟨qb, ob, none⟩) M.bk.length xk) (by go_simp) ?_
                            simp only [Act.put, List.setIfInBounds_toArray, List.set_cons_zero, List.set_cons_succ]
                            refine WL.val (by kernel_rfl) (.int .i64 (t : Int)) (by go_simp) ?_
                            simp only [Act.put, List.setIfInBounds_toArray, List.set_cons_zero, List.set_cons_succ]
                            refine WL.val (by kernel_rfl) (.pointer (some ⟨qb, ob + t, none⟩)) (by go_simp) ?_
                            simp only [Act.put, List.setIfInBounds_toArray, List.set_cons_zero, List.set_cons_succ]
                            refine WL.val (by kernel_rfl) (.slice ya nr yc) (by go_simp) ?_
                            simp only [Act.put, List.setIfInBounds_toArray, List.set_cons_zero, List.set_cons_succ]
                            refine WL.callF (by kernel_rfl) 49 _ _ rfl Try.in49 #[.slice ya nr yc] (by simp [Act.eval]) ?_
                            refine (HC7.out).mono ?_
                            rintro e w0 ⟨rfl, hw0⟩
                            rw [hw0]
                            clear hw0 w0
                            refine ⟨_, rfl, ?_⟩
                            simp only [Act.put, List.setIfInBounds_toArray, List.set_cons_zero, List.set_cons_succ]
                            refine WL.val (by kernel_rfl) (.bool true) (by go_simp) ?_
                            simp only [Act.put, List.setIfInBounds_toArray, List.set_cons_zero, List.set_cons_succ]
                            refine WL.nil ?_
                            refine hK32 _ _ ?_
                            refine wp_seq_k fun K33 hK33 => ?_
                            refine wp_region_list (WL.out ?_)
                            refine WL.val (by kernel_rfl) (.bool true) (by go_simp) ?_
                            simp only [Act.put, List.setIfInBounds_toArray, List.set_cons_zero, List.set_cons_succ]
                            refine WL.val (by kernel_rfl) (.bool false) (by go_simp) ?_
                            simp only [Act.put, List.setIfInBounds_toArray, List.set_cons_zero, List.set_cons_succ]
                            refine WL.nil ?_
                            refine hK33 _ _ ?_
                            refine wp_cond_false rfl ?_
                            refine wp_skip ?_
                            refine hK31 _ _ ?_
                            refine wp_region_list (WL.out ?_)
                            refine WL.val (by kernel_rfl) (.int .i64 (t : Int)) (by go_simp) ?_
                            simp only [Act.put, List.setIfInBounds_toArray, List.set_cons_zero, List.set_cons_succ]
                            refine WL.val (by kernel_rfl) (.int .i64 ((t : Int) + 1)) (by go_simp) ?_
                            simp only [Act.put, List.setIfInBounds_toArray, List.set_cons_zero, List.set_cons_succ]
                            refine WL.val (by kernel_rfl) (.int .i64 ((t : Int) + 1)) (by go_simp) ?_
                            simp only [Act.put, List.setIfInBounds_toArray, List.set_cons_zero, List.set_cons_succ]
                            refine WL.nil ?_
                            refine ⟨⟨t + 1, u2, .bool true, .int .i64 (t : Int), .pointer (some ⟨g, 5, none⟩), .slice (some ⟨qb, ob, none⟩) M.bk.length xk, .int .i64 (M.bk.length : Int), .bool true, .int .i64 (t : Int), .int .i64 ((t : Int) + 1), .pointer (some ⟨g, 5, none⟩), .slice (some ⟨qb, ob, none⟩) M.bk.length xk, .int .i64 (t : Int), .pointer (some ⟨qb, ob + t, none⟩), .slice ya nr yc, .bool true, .bool true, .bool false, rfl, by omega, rfl, ⟨fun j hj => by rcases Nat.lt_or_eq_of_le (Nat.le_of_lt_succ hj) with h2 | h2; exact HK.out j h2; rw [h2]; exact HRx.out⟩⟩, by simp [intOf]; omega⟩
                          · have HC7 := Keep.mk (row_any _ _ w4 Hrow.out (HOk.out.rows t hlt))
                            rw [decide_eq_false hrk] at HC7
                            have HRx := Keep.mk hrk
                            clear hrk
                            obtain ⟨nr, hnr⟩ : ∃ nr, nr = (M.bk.getD t []).length := ⟨_, rfl⟩
                            rw [← hnr] at hcl HC7
                            clear hnr
                            have hO : okR M.bk = false := by rw [Bool.eq_false_iff]; intro h2; exact HRx.out ((okR_iff _).1 h2 t hlt)
                            refine wp_seq_k fun K34 hK34 => ?_
                            refine wp_seq_k fun K35 hK35 => ?_
                            refine wp_region_list (WL.out ?_)
                            refine WL.val (by kernel_rfl) (.int .i64 (t : Int)) (by go_simp) ?_
                            simp only [Act.put, List.setIfInBounds_toArray, List.set_cons_zero, List.set_cons_succ]
                            refine WL.val (by kernel_rfl) (.pointer (some ⟨g, 5, none⟩)) (by go_simp) ?_
                            simp only [Act.put, List.setIfInBounds_toArray, List.set_cons_zero, List.set_cons_succ]
                            refine WL.val (by kernel_rfl) (.slice (some ⟨qb, ob, none⟩) M.bk.length xk) (by go_simp) ?_
                            simp only [Act.put, List.setIfInBounds_toArray, List.set_cons_zero, List.set_cons_succ]
                            refine WL.val (by kernel_rfl) (.int .i64 (M.bk.length : Int)) (by go_simp) ?_
                            simp only [Act.put, List.setIfInBounds_toArray, List.set_cons_zero, List.set_cons_succ]
                            refine WL.val (by kernel_rfl) (.bool true) (by go_simp) ?_
                            simp only [Act.put, List.setIfInBounds_toArray, List.set_cons_zero, List.set_cons_succ]
                            refine WL.nil ?_
                            refine hK35 _ _ ?_
                            refine wp_cond_true rfl ?_
                            refine wp_skip ?_
                            refine hK34 _ _ ?_
                            refine wp_seq_k fun K36 hK36 => ?_
                            refine wp_block ?_
                            refine wp_seq_k fun K37 hK37 => ?_
                            refine wp_region_list (WL.out ?_)
                            refine WL.val (by kernel_rfl) (.pointer (some ⟨g, 5, none⟩)) (by go_simp) ?_
                            simp only [Act.put, List.setIfInBounds_toArray, List.set_cons_zero, List.set_cons_succ]
                            refine WL.val (by kernel_rfl) (.slice (some ⟨qb, ob, none⟩) M.bk.length xk) (by go_simp) ?_
                            simp only [Act.put, List.setIfInBounds_toArray, List.set_cons_zero, List.set_cons_succ]
                            refine WL.val (by kernel_rfl) (.int .i64 (t : Int)) (by go_simp) ?_
                            simp only [Act.put, List.setIfInBounds_toArray, List.set_cons_zero, List.set_cons_succ]
                            refine WL.val (by kernel_rfl) (.pointer (some ⟨qb, ob + t, none⟩)) (by go_simp) ?_
                            simp only [Act.put, List.setIfInBounds_toArray, List.set_cons_zero, List.set_cons_succ]
                            refine WL.val (by kernel_rfl) (.slice ya nr yc) (by go_simp) ?_
                            simp only [Act.put, List.setIfInBounds_toArray, List.set_cons_zero, List.set_cons_succ]
                            refine WL.callF (by kernel_rfl) 49 _ _ rfl Try.in49 #[.slice ya nr yc] (by simp [Act.eval]) ?_
                            refine (HC7.out).mono ?_
                            rintro e w0 ⟨rfl, hw0⟩
                            rw [hw0]
                            clear hw0 w0
                            refine ⟨_, rfl, ?_⟩
                            simp only [Act.put, List.setIfInBounds_toArray, List.set_cons_zero, List.set_cons_succ]
                            refine WL.val (by kernel_rfl) (.bool false) (by go_simp) ?_
                            simp only [Act.put, List.setIfInBounds_toArray, List.set_cons_zero, List.set_cons_succ]
                            refine WL.nil ?_
                            refine hK37 _ _ ?_
                            refine wp_seq_k fun K38 hK38 => ?_
                            refine wp_region_list (WL.out ?_)
                            refine WL.val (by kernel_rfl) (.bool false) (by go_simp) ?_
                            simp only [Act.put, List.setIfInBounds_toArray, List.set_cons_zero, List.set_cons_succ]
                            refine WL.val (by kernel_rfl) (.bool true) (by go_simp) ?_
                            simp only [Act.put, List.setIfInBounds_toArray, List.set_cons_zero, List.set_cons_succ]
                            refine WL.nil ?_
                            refine hK38 _ _ ?_
                            refine wp_cond_true rfl ?_
                            refine wp_seq_k fun K39 hK39 => ?_
                            refine wp_region_list (WL.out ?_)
                            refine WL.val (by kernel_rfl) (.int .i64 4) (by go_simp) ?_
                            simp only [Act.put, List.setIfInBounds_toArray, List.set_cons_zero, List.set_cons_succ]
                            refine WL.nil ?_
                            refine hK39 _ _ ?_
                            refine wp_ret ?_
                            go_ret
                            first | exact ⟨by rw [HR.out]; (simp [*] <;> simp [hasI]), B2.out⟩ | exact ⟨by rw [HR.out]; (simp [*] <;> simp [hasI]), B3.out⟩ | exact ⟨by rw [HR.out]; (simp [*] <;> simp [hasI]), B4.out⟩
                        · have htl' : ¬ (t : Int) < (M.bk.length : Int) := by omega
                          have hO : okR M.bk = true := (okR_iff _).2 fun i hi => HK.out i (by omega)
                          refine wp_seq_k fun K40 hK40 => ?_
                          refine wp_seq_k fun K41 hK41 => ?_
                          refine wp_region_list (WL.out ?_)
                          refine WL.val (by kernel_rfl) (.int .i64 (t : Int)) (by go_simp) ?_
                          simp only [Act.put, List.setIfInBounds_toArray, List.set_cons_zero, List.set_cons_succ]
                          refine WL.val (by kernel_rfl) (.pointer (some ⟨g, 5, none⟩)) (by go_simp) ?_
                          simp only [Act.put, List.setIfInBounds_toArray, List.set_cons_zero, List.set_cons_succ]
                          refine WL.val (by kernel_rfl) (.slice xa M.bk.length xk) (by go_simp) ?_
                          simp only [Act.put, List.setIfInBounds_toArray, List.set_cons_zero, List.set_cons_succ]
                          refine WL.val (by kernel_rfl) (.int .i64 (M.bk.length : Int)) (by go_simp) ?_
                          simp only [Act.put, List.setIfInBounds_toArray, List.set_cons_zero, List.set_cons_succ]
                          refine WL.val (by kernel_rfl) (.bool false) (by go_simp) ?_
                          simp only [Act.put, List.setIfInBounds_toArray, List.set_cons_zero, List.set_cons_succ]
                          refine WL.nil ?_
                          refine hK41 _ _ ?_
                          refine wp_cond_false rfl ?_
                          refine wp_exit ?_
                          refine hK27 _ _ ?_
                          refine wp_seq_k fun K42 hK42 => ?_
                          have hPk : M.k = 1 → isP (M.bl.length : Int) = true := fun h => absurd h (by assumption)
                          have HSz := Keep.mk (size_msg M c w4 HA4.out (by omega) (by omega) (by omega) (fun h => by have := isP_rng (hPk h); omega) hO HOk.out.bl)
                          refine wp_region_list (WL.out ?_)
                          refine WL.row (by kernel_rfl) 28 (.tmp 1) rfl g rfl 28 (msA c) _ HM4.out Try.underlying28 rfl (Try.size28B _) ?_
                          simp only [Act.put, List.setIfInBounds_toArray, List.set_cons_zero, List.set_cons_succ]
                          refine WL.callF (by kernel_rfl) 61 _ _ rfl Try.in61 #[.agg (msA c)] (by simp [Act.eval]) ?_
                          refine (HSz.out).mono ?_
                          rintro e w5 ⟨sz, rfl, hy3, hy1, hb5⟩
                          refine ⟨_, rfl, ?_⟩
                          have hz3 := Keep.mk hy3
                          have hz1 := Keep.mk hy1
                          clear hy3 hy1
                          have B5 : Keep (Below w.heap.size w w5) := ⟨B4.out.trans (hb5.mono B4.out.size)⟩
                          clear hb5 HSz
                          simp only [Act.put, List.setIfInBounds_toArray, List.set_cons_zero, List.set_cons_succ]
                          refine WL.val (by kernel_rfl) (.int .i64 (sz : Int)) (by go_simp) ?_
                          simp only [Act.put, List.setIfInBounds_toArray, List.set_cons_zero, List.set_cons_succ]
                          refine WL.nil ?_
                          refine hK42 _ _ ?_
                          refine wp_seq_k fun K43 hK43 => ?_
                          refine wp_seq_k fun K44 hK44 => ?_
                          refine wp_region_list (WL.out ?_)
                          refine WL.val (by kernel_rfl) (.int .i64 (sz : Int)) (by go_simp) ?_
                          simp only [Act.put, List.setIfInBounds_toArray, List.set_cons_zero, List.set_cons_succ]
                          by_cases h24_1 : 2097152 < sz
                          · have h24_1i : (2097152 : Int) < (sz : Int) := by omega
                            refine WL.val (by kernel_rfl) (.bool true) (by go_simp) ?_
                            simp only [Act.put, List.setIfInBounds_toArray, List.set_cons_zero, List.set_cons_succ]
                            refine WL.nil ?_
                            refine hK44 _ _ ?_
                            refine wp_cond_true rfl ?_
                            refine wp_seq_k fun K45 hK45 => ?_
                            refine wp_region_list (WL.out ?_)
                            refine WL.val (by kernel_rfl) (.int .i64 4) (by go_simp) ?_
                            simp only [Act.put, List.setIfInBounds_toArray, List.set_cons_zero, List.set_cons_succ]
                            refine WL.nil ?_
                            refine hK45 _ _ ?_
                            refine wp_ret ?_
                            go_ret
                            have hF : fit M.bk < M.bk.length := by
                              have h := sz_fit M.bk (fun h => by have h' := congrArg List.length h; simp only [List.length_nil] at h'; omega) (by omega)
                              rw [← hz3.out (by assumption)] at h
                              exact h.1 (by assumption)
                            exact ⟨by rw [HR.out]; (simp [*] <;> simp [hasI]), B5.out⟩
                          · have h24_1i : ¬ (2097152 : Int) < (sz : Int) := by omega
                            refine WL.val (by kernel_rfl) (.bool false) (by go_simp) ?_
                            simp only [Act.put, List.setIfInBounds_toArray, List.set_cons_zero, List.set_cons_succ]
                            refine WL.nil ?_
                            refine hK44 _ _ ?_
                            refine wp_cond_false rfl ?_
                            refine wp_skip ?_
                            refine hK43 _ _ ?_
                            refine wp_seq_k fun K46 hK46 => ?_
                            refine wp_region_list (WL.out ?_)
                            refine WL.val (by kernel_rfl) (.int .i64 0) (by go_simp) ?_
                            simp only [Act.put, List.setIfInBounds_toArray, List.set_cons_zero, List.set_cons_succ]
                            refine WL.nil ?_
                            refine hK46 _ _ ?_
                            refine wp_ret ?_
                            go_ret
                            have hF : ¬ fit M.bk < M.bk.length := by
                              have h := sz_fit M.bk (fun h => by have h' := congrArg List.length h; simp only [List.length_nil] at h'; omega) (by omega)
                              rw [← hz3.out (by assumption)] at h
                              exact fun h2 => absurd (h.2 h2) (by assumption)
                            exact ⟨by rw [HR.out]; (simp [*] <;> simp [hasI]), B5.out⟩
                      · have HC5 := Keep.mk (digest_any (.slice ba M.bl.length bk) M.bl w4 (by have h := HA4.out.bl; rw [E3.out] at h; exact h) (by have := HOk.out.bl; omega))
                        rw [hP] at HC5
                        refine wp_region_list (WL.out ?_)
                        refine WL.val (by kernel_rfl) (.pointer (some ⟨g, 3, none⟩)) (by go_simp) ?_
                        simp only [Act.put, List.setIfInBounds_toArray, List.set_cons_zero, List.set_cons_succ]
                        refine WL.val (by kernel_rfl) (.slice ba M.bl.length bk) (by go_simp) ?_
                        simp only [Act.put, List.setIfInBounds_toArray, List.set_cons_zero, List.set_cons_succ]
                        refine WL.callF (by kernel_rfl) 42 _ _ rfl Try.in42 #[.slice ba M.bl.length bk] (by simp [Act.eval]) ?_
                        refine (HC5.out).mono ?_
                        rintro e w0 ⟨rfl, hw0⟩
                        rw [hw0]
                        clear hw0 w0
                        refine ⟨_, rfl, ?_⟩
                        simp only [Act.put, List.setIfInBounds_toArray, List.set_cons_zero, List.set_cons_succ]
                        refine WL.val (by kernel_rfl) (.bool false) (by go_simp) ?_
                        simp only [Act.put, List.setIfInBounds_toArray, List.set_cons_zero, List.set_cons_succ]
                        refine WL.nil ?_
                        refine hK24 _ _ ?_
                        refine wp_seq_k fun K47 hK47 => ?_
                        refine wp_seq_k fun K48 hK48 => ?_
                        have hk1 : ¬ M.k = 1 := by omega
                        refine wp_region_list (WL.out ?_)
                        refine WL.val (by kernel_rfl) (.pointer (some ⟨g, 0, none⟩)) (by go_simp) ?_
                        simp only [Act.put, List.setIfInBounds_toArray, List.set_cons_zero, List.set_cons_succ]
                        refine WL.val (by kernel_rfl) (.int .i64 M.k) (by go_simp) ?_
                        simp only [Act.put, List.setIfInBounds_toArray, List.set_cons_zero, List.set_cons_succ]
                        refine WL.val (by kernel_rfl) (.bool false) (by go_simp) ?_
                        simp only [Act.put, List.setIfInBounds_toArray, List.set_cons_zero, List.set_cons_succ]
                        refine WL.val (by kernel_rfl) (.bool false) (by go_simp) ?_
                        simp only [Act.put, List.setIfInBounds_toArray, List.set_cons_zero, List.set_cons_succ]
                        refine WL.skip (by kernel_rfl) ?_
                        simp only [Act.put, List.setIfInBounds_toArray, List.set_cons_zero, List.set_cons_succ]
                        refine WL.skip (by kernel_rfl) ?_
                        simp only [Act.put, List.setIfInBounds_toArray, List.set_cons_zero, List.set_cons_succ]
                        refine WL.val (by kernel_rfl) (.bool false) (by go_simp) ?_
                        simp only [Act.put, List.setIfInBounds_toArray, List.set_cons_zero, List.set_cons_succ]
                        refine WL.nil ?_
                        refine hK48 _ _ ?_
                        refine wp_cond_false rfl ?_
                        refine wp_skip ?_
                        refine hK47 _ _ ?_
                        refine wp_seq_k fun K49 hK49 => ?_
                        refine wp_seq_k fun K50 hK50 => ?_
                        refine wp_region_list (WL.out ?_)
                        refine WL.val (by kernel_rfl) (.int .i64 0) (by go_simp) ?_
                        simp only [Act.put, List.setIfInBounds_toArray, List.set_cons_zero, List.set_cons_succ]
                        refine WL.nil ?_
                        refine hK50 _ _ ?_
                        refine wp_block ?_
                        refine wp_loop (fun ac wr => ∃ (t : Nat) (u2 u8 u69 u70 u71 u72 u73 u74 u75 u76 u77 u78 u79 u80 u81 u82 u83 : Value), ac = { tmps := #[.agg (msA c), .pointer (some ⟨g, 0, none⟩), u2, .bool true, .bool true, .bool true, .bool false, .int .i64 (t : Int), u8, undef, .pointer (some ⟨g, 0, none⟩), .int .i64 M.k, .bool false, .bool false, .pointer (some ⟨g, 0, none⟩), .int .i64 M.k, .bool false, .bool false, .agg (msA c), .bool true, .bool true, .bool false, .pointer (some ⟨g, 1, none⟩), .slice ha M.hd.length hk, .int .i64 (M.hd.length : Int), .bool false, .bool false, .pointer (some ⟨g, 4, none⟩), .slice wa M.wt.length wk, .int .i64 (M.wt.length : Int), .bool false, .bool false, .bool false, .pointer (some ⟨g, 5, none⟩), .slice xa M.bk.length xk, .int .i64 (M.bk.length : Int), .bool false, .bool false, .pointer (some ⟨g, 0, none⟩), .int .i64 M.k, .bool true, .bool true, .pointer (some ⟨g, 5, none⟩), .slice xa M.bk.length xk, .int .i64 (M.bk.length : Int), .bool false, .bool false, .pointer (some ⟨g, 1, none⟩), .slice ha M.hd.length hk, .bool true, .pointer (some ⟨g, 4, none⟩), .slice wa M.wt.length wk, .bool true, .bool true, .bool false, .bool false, .bool true, .bool false, .bool false, .pointer (some ⟨g, 3, none⟩), .slice ba M.bl.length bk, .bool false, .pointer (some ⟨g, 0, none⟩), .int .i64 M.k, .bool false, .bool false, undef, undef, .bool false, u69, u70, u71, u72, u73, u74, u75, u76, u77, u78, u79, u80, u81, u82, u83, undef, undef, undef, undef], defers := [] } ∧ t ≤ M.bk.length ∧ wr = w4 ∧ Keep (∀ j, j < t → 0 < (M.bk.getD j []).length ∧ (M.bk.getD j []).length ≤ 1048576)) (fun a _ => M.bk.length - (intOf (a.tmps.getD 7 undef)).toNat) ⟨0, .int .i64 0, undef, undef, undef, undef, undef, undef, undef, undef, undef, undef, undef, undef, undef, undef, undef, undef, rfl, by omega, rfl, ⟨fun j hj => by omega⟩⟩ ?_
                        rintro ac wr ⟨t, u2, u8, u69, u70, u71, u72, u73, u74, u75, u76, u77, u78, u79, u80, u81, u82, u83, rfl, ht, hwr, HK⟩
                        subst wr
                        by_cases hlt : t < M.bk.length
                        · have hlt' : (t : Int) < (M.bk.length : Int) := by omega
                          have hwt1 : IntKind.i64.wrap ((t : Int) + 1) = (t : Int) + 1 := by rw [IntKind.wrap_i64]; omega
                          obtain ⟨qb, ob, ya, yc, hxa, _, hcl, hrow⟩ := RwsAt.at (by have h := HA4.out.bk; rw [E5.out] at h; exact h) t hlt
                          subst hxa
                          have Hrow := Keep.mk hrow
                          clear hrow
                          by_cases hrk : 0 < (M.bk.getD t []).length ∧ (M.bk.getD t []).length ≤ 1048576
                          · have HC7 := Keep.mk (row_any _ _ w4 Hrow.out (HOk.out.rows t hlt))
                            rw [decide_eq_true hrk] at HC7
                            have HRx := Keep.mk hrk
                            clear hrk
                            obtain ⟨nr, hnr⟩ : ∃ nr, nr = (M.bk.getD t []).length := ⟨_, rfl⟩
                            rw [← hnr] at hcl HC7
                            clear hnr
                            refine wp_seq_k fun K51 hK51 => ?_
                            refine wp_seq_k fun K52 hK52 => ?_
                            refine wp_region_list (WL.out ?_)
                            refine WL.val (by kernel_rfl) (.int .i64 (t : Int)) (by go_simp) ?_
                            simp only [Act.put, List.setIfInBounds_toArray, List.set_cons_zero, List.set_cons_succ]
                            refine WL.val (by kernel_rfl) (.pointer (some ⟨g, 5, none⟩)) (by go_simp) ?_
                            simp only [Act.put, List.setIfInBounds_toArray, List.set_cons_zero, List.set_cons_succ]
                            refine WL.val (by kernel_rfl) (.slice (some ⟨qb, ob, none⟩) M.bk.length xk) (by go_simp) ?_
                            simp only [Act.put, List.setIfInBounds_toArray, List.set_cons_zero, List.set_cons_succ]
                            refine WL.val (by kernel_rfl) (.int .i64 (M.bk.length : Int)) (by go_simp) ?_
                            simp only [Act.put, List.setIfInBounds_toArray, List.set_cons_zero, List.set_cons_succ]
                            refine WL.val (by kernel_rfl) (.bool true) (by go_simp) ?_
                            simp only [Act.put, List.setIfInBounds_toArray, List.set_cons_zero, List.set_cons_succ]
                            refine WL.nil ?_
                            refine hK52 _ _ ?_
                            refine wp_cond_true rfl ?_
                            refine wp_skip ?_
                            refine hK51 _ _ ?_
                            refine wp_seq_k fun K53 hK53 => ?_
                            refine wp_block ?_
                            refine wp_seq_k fun K54 hK54 => ?_
                            refine wp_region_list (WL.out ?_)
                            refine WL.val (by kernel_rfl) (.pointer (some ⟨g, 5, none⟩)) (by go_simp) ?_
                            simp only [Act.put, List.setIfInBounds_toArray, List.set_cons_zero, List.set_cons_succ]
                            refine WL.val (by kernel_rfl) (.slice (some ⟨qb, ob, none⟩) M.bk.length xk) (by go_simp) ?_
                            simp only [Act.put, List.setIfInBounds_toArray, List.set_cons_zero, List.set_cons_succ]
                            refine WL.val (by kernel_rfl) (.int .i64 (t : Int)) (by go_simp) ?_
                            simp only [Act.put, List.setIfInBounds_toArray, List.set_cons_zero, List.set_cons_succ]
                            refine WL.val (by kernel_rfl) (.pointer (some ⟨qb, ob + t, none⟩)) (by go_simp) ?_
                            simp only [Act.put, List.setIfInBounds_toArray, List.set_cons_zero, List.set_cons_succ]
                            refine WL.val (by kernel_rfl) (.slice ya nr yc) (by go_simp) ?_
                            simp only [Act.put, List.setIfInBounds_toArray, List.set_cons_zero, List.set_cons_succ]
                            refine WL.callF (by kernel_rfl) 49 _ _ rfl Try.in49 #[.slice ya nr yc] (by simp [Act.eval]) ?_
                            refine (HC7.out).mono ?_
                            rintro e w0 ⟨rfl, hw0⟩
                            rw [hw0]
                            clear hw0 w0
                            refine ⟨_, rfl, ?_⟩
                            simp only [Act.put, List.setIfInBounds_toArray, List.set_cons_zero, List.set_cons_succ]
                            refine WL.val (by kernel_rfl) (.bool true) (by go_simp) ?_
                            simp only [Act.put, List.setIfInBounds_toArray, List.set_cons_zero, List.set_cons_succ]
                            refine WL.nil ?_
                            refine hK54 _ _ ?_
                            refine wp_seq_k fun K55 hK55 => ?_
                            refine wp_region_list (WL.out ?_)
                            refine WL.val (by kernel_rfl) (.bool true) (by go_simp) ?_
                            simp only [Act.put, List.setIfInBounds_toArray, List.set_cons_zero, List.set_cons_succ]
                            refine WL.val (by kernel_rfl) (.bool false) (by go_simp) ?_
                            simp only [Act.put, List.setIfInBounds_toArray, List.set_cons_zero, List.set_cons_succ]
                            refine WL.nil ?_
                            refine hK55 _ _ ?_
                            refine wp_cond_false rfl ?_
                            refine wp_skip ?_
                            refine hK53 _ _ ?_
                            refine wp_region_list (WL.out ?_)
                            refine WL.val (by kernel_rfl) (.int .i64 (t : Int)) (by go_simp) ?_
                            simp only [Act.put, List.setIfInBounds_toArray, List.set_cons_zero, List.set_cons_succ]
                            refine WL.val (by kernel_rfl) (.int .i64 ((t : Int) + 1)) (by go_simp) ?_
                            simp only [Act.put, List.setIfInBounds_toArray, List.set_cons_zero, List.set_cons_succ]
                            refine WL.val (by kernel_rfl) (.int .i64 ((t : Int) + 1)) (by go_simp) ?_
                            simp only [Act.put, List.setIfInBounds_toArray, List.set_cons_zero, List.set_cons_succ]
                            refine WL.nil ?_
                            refine ⟨⟨t + 1, u2, .bool true, .int .i64 (t : Int), .pointer (some ⟨g, 5, none⟩), .slice (some ⟨qb, ob, none⟩) M.bk.length xk, .int .i64 (M.bk.length : Int), .bool true, .int .i64 (t : Int), .int .i64 ((t : Int) + 1), .pointer (some ⟨g, 5, none⟩), .slice (some ⟨qb, ob, none⟩) M.bk.length xk, .int .i64 (t : Int), .pointer (some ⟨qb, ob + t, none⟩), .slice ya nr yc, .bool true, .bool true, .bool false, rfl, by omega, rfl, ⟨fun j hj => by rcases Nat.lt_or_eq_of_le (Nat.le_of_lt_succ hj) with h2 | h2; exact HK.out j h2; rw [h2]; exact HRx.out⟩⟩, by simp [intOf]; omega⟩
                          · have HC7 := Keep.mk (row_any _ _ w4 Hrow.out (HOk.out.rows t hlt))
                            rw [decide_eq_false hrk] at HC7
                            have HRx := Keep.mk hrk
                            clear hrk
                            obtain ⟨nr, hnr⟩ : ∃ nr, nr = (M.bk.getD t []).length := ⟨_, rfl⟩
                            rw [← hnr] at hcl HC7
                            clear hnr
                            have hO : okR M.bk = false := by rw [Bool.eq_false_iff]; intro h2; exact HRx.out ((okR_iff _).1 h2 t hlt)
                            refine wp_seq_k fun K56 hK56 => ?_
                            refine wp_seq_k fun K57 hK57 => ?_
                            refine wp_region_list (WL.out ?_)
                            refine WL.val (by kernel_rfl) (.int .i64 (t : Int)) (by go_simp) ?_
                            simp only [Act.put, List.setIfInBounds_toArray, List.set_cons_zero, List.set_cons_succ]
                            refine WL.val (by kernel_rfl) (.pointer (some ⟨g, 5, none⟩)) (by go_simp) ?_
                            simp only [Act.put, List.setIfInBounds_toArray, List.set_cons_zero, List.set_cons_succ]
                            refine WL.val (by kernel_rfl) (.slice (some ⟨qb, ob, none⟩) M.bk.length xk) (by go_simp) ?_
                            simp only [Act.put, List.setIfInBounds_toArray, List.set_cons_zero, List.set_cons_succ]
                            refine WL.val (by kernel_rfl) (.int .i64 (M.bk.length : Int)) (by go_simp) ?_
                            simp only [Act.put, List.setIfInBounds_toArray, List.set_cons_zero, List.set_cons_succ]
                            refine WL.val (by kernel_rfl) (.bool true) (by go_simp) ?_
                            simp only [Act.put, List.setIfInBounds_toArray, List.set_cons_zero, List.set_cons_succ]
                            refine WL.nil ?_
                            refine hK57 _ _ ?_
                            refine wp_cond_true rfl ?_
                            refine wp_skip ?_
                            refine hK56 _ _ ?_
                            refine wp_seq_k fun K58 hK58 => ?_
                            refine wp_block ?_
                            refine wp_seq_k fun K59 hK59 => ?_
                            refine wp_region_list (WL.out ?_)
                            refine WL.val (by kernel_rfl) (.pointer (some ⟨g, 5, none⟩)) (by go_simp) ?_
                            simp only [Act.put, List.setIfInBounds_toArray, List.set_cons_zero, List.set_cons_succ]
                            refine WL.val (by kernel_rfl) (.slice (some ⟨qb, ob, none⟩) M.bk.length xk) (by go_simp) ?_
                            simp only [Act.put, List.setIfInBounds_toArray, List.set_cons_zero, List.set_cons_succ]
                            refine WL.val (by kernel_rfl) (.int .i64 (t : Int)) (by go_simp) ?_
                            simp only [Act.put, List.setIfInBounds_toArray, List.set_cons_zero, List.set_cons_succ]
                            refine WL.val (by kernel_rfl) (.pointer (some ⟨qb, ob + t, none⟩)) (by go_simp) ?_
                            simp only [Act.put, List.setIfInBounds_toArray, List.set_cons_zero, List.set_cons_succ]
                            refine WL.val (by kernel_rfl) (.slice ya nr yc) (by go_simp) ?_
                            simp only [Act.put, List.setIfInBounds_toArray, List.set_cons_zero, List.set_cons_succ]
                            refine WL.callF (by kernel_rfl) 49 _ _ rfl Try.in49 #[.slice ya nr yc] (by simp [Act.eval]) ?_
                            refine (HC7.out).mono ?_
                            rintro e w0 ⟨rfl, hw0⟩
                            rw [hw0]
                            clear hw0 w0
                            refine ⟨_, rfl, ?_⟩
                            simp only [Act.put, List.setIfInBounds_toArray, List.set_cons_zero, List.set_cons_succ]
                            refine WL.val (by kernel_rfl) (.bool false) (by go_simp) ?_
                            simp only [Act.put, List.setIfInBounds_toArray, List.set_cons_zero, List.set_cons_succ]
                            refine WL.nil ?_
                            refine hK59 _ _ ?_
                            refine wp_seq_k fun K60 hK60 => ?_
                            refine wp_region_list (WL.out ?_)
                            refine WL.val (by kernel_rfl) (.bool false) (by go_simp) ?_
                            simp only [Act.put, List.setIfInBounds_toArray, List.set_cons_zero, List.set_cons_succ]
                            refine WL.val (by kernel_rfl) (.bool true) (by go_simp) ?_
                            simp only [Act.put, List.setIfInBounds_toArray, List.set_cons_zero, List.set_cons_succ]
                            refine WL.nil ?_
                            refine hK60 _ _ ?_
                            refine wp_cond_true rfl ?_
                            refine wp_seq_k fun K61 hK61 => ?_
                            refine wp_region_list (WL.out ?_)
                            refine WL.val (by kernel_rfl) (.int .i64 4) (by go_simp) ?_
                            simp only [Act.put, List.setIfInBounds_toArray, List.set_cons_zero, List.set_cons_succ]
                            refine WL.nil ?_
                            refine hK61 _ _ ?_
                            refine wp_ret ?_
                            go_ret
                            first | exact ⟨by rw [HR.out]; (simp [*] <;> simp [hasI]), B2.out⟩ | exact ⟨by rw [HR.out]; (simp [*] <;> simp [hasI]), B3.out⟩ | exact ⟨by rw [HR.out]; (simp [*] <;> simp [hasI]), B4.out⟩
                        · have htl' : ¬ (t : Int) < (M.bk.length : Int) := by omega
                          have hO : okR M.bk = true := (okR_iff _).2 fun i hi => HK.out i (by omega)
                          refine wp_seq_k fun K62 hK62 => ?_
                          refine wp_seq_k fun K63 hK63 => ?_
                          refine wp_region_list (WL.out ?_)
                          refine WL.val (by kernel_rfl) (.int .i64 (t : Int)) (by go_simp) ?_
                          simp only [Act.put, List.setIfInBounds_toArray, List.set_cons_zero, List.set_cons_succ]
                          refine WL.val (by kernel_rfl) (.pointer (some ⟨g, 5, none⟩)) (by go_simp) ?_
                          simp only [Act.put, List.setIfInBounds_toArray, List.set_cons_zero, List.set_cons_succ]
                          refine WL.val (by kernel_rfl) (.slice xa M.bk.length xk) (by go_simp) ?_
                          simp only [Act.put, List.setIfInBounds_toArray, List.set_cons_zero, List.set_cons_succ]
                          refine WL.val (by kernel_rfl) (.int .i64 (M.bk.length : Int)) (by go_simp) ?_
                          simp only [Act.put, List.setIfInBounds_toArray, List.set_cons_zero, List.set_cons_succ]
                          refine WL.val (by kernel_rfl) (.bool false) (by go_simp) ?_
                          simp only [Act.put, List.setIfInBounds_toArray, List.set_cons_zero, List.set_cons_succ]
                          refine WL.nil ?_
                          refine hK63 _ _ ?_
                          refine wp_cond_false rfl ?_
                          refine wp_exit ?_
                          refine hK49 _ _ ?_
                          refine wp_seq_k fun K64 hK64 => ?_
                          have hPk : M.k = 1 → isP (M.bl.length : Int) = true := fun h => absurd h (by assumption)
                          have HSz := Keep.mk (size_msg M c w4 HA4.out (by omega) (by omega) (by omega) (fun h => by have := isP_rng (hPk h); omega) hO HOk.out.bl)
                          refine wp_region_list (WL.out ?_)
                          refine WL.row (by kernel_rfl) 28 (.tmp 1) rfl g rfl 28 (msA c) _ HM4.out Try.underlying28 rfl (Try.size28B _) ?_
                          simp only [Act.put, List.setIfInBounds_toArray, List.set_cons_zero, List.set_cons_succ]
                          refine WL.callF (by kernel_rfl) 61 _ _ rfl Try.in61 #[.agg (msA c)] (by simp [Act.eval]) ?_
                          refine (HSz.out).mono ?_
                          rintro e w5 ⟨sz, rfl, hy3, hy1, hb5⟩
                          refine ⟨_, rfl, ?_⟩
                          have hz3 := Keep.mk hy3
                          have hz1 := Keep.mk hy1
                          clear hy3 hy1
                          have B5 : Keep (Below w.heap.size w w5) := ⟨B4.out.trans (hb5.mono B4.out.size)⟩
                          clear hb5 HSz
                          simp only [Act.put, List.setIfInBounds_toArray, List.set_cons_zero, List.set_cons_succ]
                          refine WL.val (by kernel_rfl) (.int .i64 (sz : Int)) (by go_simp) ?_
                          simp only [Act.put, List.setIfInBounds_toArray, List.set_cons_zero, List.set_cons_succ]
                          refine WL.nil ?_
                          refine hK64 _ _ ?_
                          refine wp_seq_k fun K65 hK65 => ?_
                          refine wp_seq_k fun K66 hK66 => ?_
                          refine wp_region_list (WL.out ?_)
                          refine WL.val (by kernel_rfl) (.int .i64 (sz : Int)) (by go_simp) ?_
                          simp only [Act.put, List.setIfInBounds_toArray, List.set_cons_zero, List.set_cons_succ]
                          by_cases h24_1 : 2097152 < sz
                          · have h24_1i : (2097152 : Int) < (sz : Int) := by omega
                            refine WL.val (by kernel_rfl) (.bool true) (by go_simp) ?_
                            simp only [Act.put, List.setIfInBounds_toArray, List.set_cons_zero, List.set_cons_succ]
                            refine WL.nil ?_
                            refine hK66 _ _ ?_
                            refine wp_cond_true rfl ?_
                            refine wp_seq_k fun K67 hK67 => ?_
                            refine wp_region_list (WL.out ?_)
                            refine WL.val (by kernel_rfl) (.int .i64 4) (by go_simp) ?_
                            simp only [Act.put, List.setIfInBounds_toArray, List.set_cons_zero, List.set_cons_succ]
                            refine WL.nil ?_
                            refine hK67 _ _ ?_
                            refine wp_ret ?_
                            go_ret
                            have hF : fit M.bk < M.bk.length := by
                              have h := sz_fit M.bk (fun h => by have h' := congrArg List.length h; simp only [List.length_nil] at h'; omega) (by omega)
                              rw [← hz3.out (by assumption)] at h
                              exact h.1 (by assumption)
                            exact ⟨by rw [HR.out]; (simp [*] <;> simp [hasI]), B5.out⟩
                          · have h24_1i : ¬ (2097152 : Int) < (sz : Int) := by omega
                            refine WL.val (by kernel_rfl) (.bool false) (by go_simp) ?_
                            simp only [Act.put, List.setIfInBounds_toArray, List.set_cons_zero, List.set_cons_succ]
                            refine WL.nil ?_
                            refine hK66 _ _ ?_
                            refine wp_cond_false rfl ?_
                            refine wp_skip ?_
                            refine hK65 _ _ ?_
                            refine wp_seq_k fun K68 hK68 => ?_
                            refine wp_region_list (WL.out ?_)
                            refine WL.val (by kernel_rfl) (.int .i64 0) (by go_simp) ?_
                            simp only [Act.put, List.setIfInBounds_toArray, List.set_cons_zero, List.set_cons_succ]
                            refine WL.nil ?_
                            refine hK68 _ _ ?_
                            refine wp_ret ?_
                            go_ret
                            have hF : ¬ fit M.bk < M.bk.length := by
                              have h := sz_fit M.bk (fun h => by have h' := congrArg List.length h; simp only [List.length_nil] at h'; omega) (by omega)
                              rw [← hz3.out (by assumption)] at h
                              exact fun h2 => absurd (h.2 h2) (by assumption)
                            exact ⟨by rw [HR.out]; (simp [*] <;> simp [hasI]), B5.out⟩
                    · have HC4 := Keep.mk (Sh.refRising_any (.slice wa M.wt.length wk) M.wt w3 (by have h := HA3.out.wt; rw [E4.out] at h; exact h) (by omega))
                      rw [hD] at HC4
                      refine wp_region_list (WL.out ?_)
                      refine WL.val (by kernel_rfl) (.pointer (some ⟨g, 4, none⟩)) (by go_simp) ?_
                      simp only [Act.put, List.setIfInBounds_toArray, List.set_cons_zero, List.set_cons_succ]
                      refine WL.val (by kernel_rfl) (.slice wa M.wt.length wk) (by go_simp) ?_
                      simp only [Act.put, List.setIfInBounds_toArray, List.set_cons_zero, List.set_cons_succ]
                      refine WL.callF (by kernel_rfl) 60 _ _ rfl Try.in60 #[.slice wa M.wt.length wk] (by simp [Act.eval]) ?_
                      refine (HC4.out).mono ?_
                      rintro e w4 ⟨rfl, hb4⟩
                      refine ⟨_, rfl, ?_⟩
                      clear HC4
                      have HM4 := Keep.mk (HM3.out.below hb4 HM3.out.lt)
                      have HA4 := Keep.mk (HA3.out.below hb4)
                      have B4 : Keep (Below w.heap.size w w4) := ⟨B3.out.trans (hb4.mono B3.out.size)⟩
                      clear d0 d1 d3 d4 d5 hb4
                      have d0 := HM4.out.c 0 (ms_0 c)
                      have d1 := HM4.out.c 1 (ms_1 c)
                      have d3 := HM4.out.c 3 (ms_3 c)
                      have d4 := HM4.out.c 4 (ms_4 c)
                      have d5 := HM4.out.c 5 (ms_5 c)
                      rw [Ek.out] at d0
                      rw [E1.out] at d1
                      rw [E3.out] at d3
                      rw [E4.out] at d4
                      rw [E5.out] at d5
                      simp only [Act.put, List.setIfInBounds_toArray, List.set_cons_zero, List.set_cons_succ]
                      refine WL.val (by kernel_rfl) (.bool false) (by go_simp) ?_
                      simp only [Act.put, List.setIfInBounds_toArray, List.set_cons_zero, List.set_cons_succ]
                      refine WL.nil ?_
                      refine hK21 _ _ ?_
                      refine wp_seq_k fun K69 hK69 => ?_
                      refine wp_seq_k fun K70 hK70 => ?_
                      refine wp_region_list (WL.out ?_)
                      refine WL.val (by kernel_rfl) (.bool true) (by go_simp) ?_
                      simp only [Act.put, List.setIfInBounds_toArray, List.set_cons_zero, List.set_cons_succ]
                      refine WL.val (by kernel_rfl) (.bool false) (by go_simp) ?_
                      simp only [Act.put, List.setIfInBounds_toArray, List.set_cons_zero, List.set_cons_succ]
                      refine WL.val (by kernel_rfl) (.bool false) (by go_simp) ?_
                      simp only [Act.put, List.setIfInBounds_toArray, List.set_cons_zero, List.set_cons_succ]
                      refine WL.val (by kernel_rfl) (.bool false) (by go_simp) ?_
                      simp only [Act.put, List.setIfInBounds_toArray, List.set_cons_zero, List.set_cons_succ]
                      refine WL.val (by kernel_rfl) (.bool true) (by go_simp) ?_
                      simp only [Act.put, List.setIfInBounds_toArray, List.set_cons_zero, List.set_cons_succ]
                      refine WL.val (by kernel_rfl) (.bool true) (by go_simp) ?_
                      simp only [Act.put, List.setIfInBounds_toArray, List.set_cons_zero, List.set_cons_succ]
                      refine WL.nil ?_
                      refine hK70 _ _ ?_
                      refine wp_cond_true rfl ?_
                      refine wp_seq_k fun K71 hK71 => ?_
                      refine wp_region_list (WL.out ?_)
                      refine WL.val (by kernel_rfl) (.int .i64 130) (by go_simp) ?_
                      simp only [Act.put, List.setIfInBounds_toArray, List.set_cons_zero, List.set_cons_succ]
                      refine WL.nil ?_
                      refine hK71 _ _ ?_
                      refine wp_ret ?_
                      go_ret
                      first | exact ⟨by rw [HR.out]; (simp [*] <;> simp [hasI]), B2.out⟩ | exact ⟨by rw [HR.out]; (simp [*] <;> simp [hasI]), B3.out⟩ | exact ⟨by rw [HR.out]; (simp [*] <;> simp [hasI]), B4.out⟩
                  · have HC3 := Keep.mk (Sh.refRising_any (.slice ha M.hd.length hk) M.hd w2 (by have h := HA2.out.hd; rw [E1.out] at h; exact h) (by omega))
                    rw [hC] at HC3
                    refine wp_region_list (WL.out ?_)
                    refine WL.val (by kernel_rfl) (.pointer (some ⟨g, 1, none⟩)) (by go_simp) ?_
                    simp only [Act.put, List.setIfInBounds_toArray, List.set_cons_zero, List.set_cons_succ]
                    refine WL.val (by kernel_rfl) (.slice ha M.hd.length hk) (by go_simp) ?_
                    simp only [Act.put, List.setIfInBounds_toArray, List.set_cons_zero, List.set_cons_succ]
                    refine WL.callF (by kernel_rfl) 60 _ _ rfl Try.in60 #[.slice ha M.hd.length hk] (by simp [Act.eval]) ?_
                    refine (HC3.out).mono ?_
                    rintro e w3 ⟨rfl, hb3⟩
                    refine ⟨_, rfl, ?_⟩
                    clear HC3
                    have HM3 := Keep.mk (HM2.out.below hb3 HM2.out.lt)
                    have HA3 := Keep.mk (HA2.out.below hb3)
                    have B3 : Keep (Below w.heap.size w w3) := ⟨B2.out.trans (hb3.mono B2.out.size)⟩
                    clear d0 d1 d3 d4 d5 hb3
                    have d0 := HM3.out.c 0 (ms_0 c)
                    have d1 := HM3.out.c 1 (ms_1 c)
                    have d3 := HM3.out.c 3 (ms_3 c)
                    have d4 := HM3.out.c 4 (ms_4 c)
                    have d5 := HM3.out.c 5 (ms_5 c)
                    rw [Ek.out] at d0
                    rw [E1.out] at d1
                    rw [E3.out] at d3
                    rw [E4.out] at d4
                    rw [E5.out] at d5
                    simp only [Act.put, List.setIfInBounds_toArray, List.set_cons_zero, List.set_cons_succ]
                    refine WL.val (by kernel_rfl) (.bool false) (by go_simp) ?_
                    simp only [Act.put, List.setIfInBounds_toArray, List.set_cons_zero, List.set_cons_succ]
                    refine WL.nil ?_
                    refine hK20 _ _ ?_
                    refine wp_seq_k fun K72 hK72 => ?_
                    rcases Bool.eq_false_or_eq_true (Sh.risesB M.wt) with hD | hD
                    · have HC4 := Keep.mk (Sh.refRising_any (.slice wa M.wt.length wk) M.wt w3 (by have h := HA3.out.wt; rw [E4.out] at h; exact h) (by omega))
                      rw [hD] at HC4
                      refine wp_region_list (WL.out ?_)
                      refine WL.val (by kernel_rfl) (.pointer (some ⟨g, 4, none⟩)) (by go_simp) ?_
                      simp only [Act.put, List.setIfInBounds_toArray, List.set_cons_zero, List.set_cons_succ]
                      refine WL.val (by kernel_rfl) (.slice wa M.wt.length wk) (by go_simp) ?_
                      simp only [Act.put, List.setIfInBounds_toArray, List.set_cons_zero, List.set_cons_succ]
                      refine WL.callF (by kernel_rfl) 60 _ _ rfl Try.in60 #[.slice wa M.wt.length wk] (by simp [Act.eval]) ?_
                      refine (HC4.out).mono ?_
                      rintro e w4 ⟨rfl, hb4⟩
                      refine ⟨_, rfl, ?_⟩
                      clear HC4
                      have HM4 := Keep.mk (HM3.out.below hb4 HM3.out.lt)
                      have HA4 := Keep.mk (HA3.out.below hb4)
                      have B4 : Keep (Below w.heap.size w w4) := ⟨B3.out.trans (hb4.mono B3.out.size)⟩
                      clear d0 d1 d3 d4 d5 hb4
                      have d0 := HM4.out.c 0 (ms_0 c)
                      have d1 := HM4.out.c 1 (ms_1 c)
                      have d3 := HM4.out.c 3 (ms_3 c)
                      have d4 := HM4.out.c 4 (ms_4 c)
                      have d5 := HM4.out.c 5 (ms_5 c)
                      rw [Ek.out] at d0
                      rw [E1.out] at d1
                      rw [E3.out] at d3
                      rw [E4.out] at d4
                      rw [E5.out] at d5
                      simp only [Act.put, List.setIfInBounds_toArray, List.set_cons_zero, List.set_cons_succ]
                      refine WL.val (by kernel_rfl) (.bool true) (by go_simp) ?_
                      simp only [Act.put, List.setIfInBounds_toArray, List.set_cons_zero, List.set_cons_succ]
                      refine WL.nil ?_
                      refine hK72 _ _ ?_
                      refine wp_seq_k fun K73 hK73 => ?_
                      refine wp_seq_k fun K74 hK74 => ?_
                      refine wp_region_list (WL.out ?_)
                      refine WL.val (by kernel_rfl) (.bool false) (by go_simp) ?_
                      simp only [Act.put, List.setIfInBounds_toArray, List.set_cons_zero, List.set_cons_succ]
                      refine WL.val (by kernel_rfl) (.bool true) (by go_simp) ?_
                      simp only [Act.put, List.setIfInBounds_toArray, List.set_cons_zero, List.set_cons_succ]
                      refine WL.val (by kernel_rfl) (.bool true) (by go_simp) ?_
                      simp only [Act.put, List.setIfInBounds_toArray, List.set_cons_zero, List.set_cons_succ]
                      refine WL.skip (by kernel_rfl) ?_
                      simp only [Act.put, List.setIfInBounds_toArray, List.set_cons_zero, List.set_cons_succ]
                      refine WL.skip (by kernel_rfl) ?_
                      simp only [Act.put, List.setIfInBounds_toArray, List.set_cons_zero, List.set_cons_succ]
                      refine WL.val (by kernel_rfl) (.bool true) (by go_simp) ?_
                      simp only [Act.put, List.setIfInBounds_toArray, List.set_cons_zero, List.set_cons_succ]
                      refine WL.nil ?_
                      refine hK74 _ _ ?_
                      refine wp_cond_true rfl ?_
                      refine wp_seq_k fun K75 hK75 => ?_
                      refine wp_region_list (WL.out ?_)
                      refine WL.val (by kernel_rfl) (.int .i64 130) (by go_simp) ?_
                      simp only [Act.put, List.setIfInBounds_toArray, List.set_cons_zero, List.set_cons_succ]
                      refine WL.nil ?_
                      refine hK75 _ _ ?_
                      refine wp_ret ?_
                      go_ret
                      first | exact ⟨by rw [HR.out]; (simp [*] <;> simp [hasI]), B2.out⟩ | exact ⟨by rw [HR.out]; (simp [*] <;> simp [hasI]), B3.out⟩ | exact ⟨by rw [HR.out]; (simp [*] <;> simp [hasI]), B4.out⟩
                    · have HC4 := Keep.mk (Sh.refRising_any (.slice wa M.wt.length wk) M.wt w3 (by have h := HA3.out.wt; rw [E4.out] at h; exact h) (by omega))
                      rw [hD] at HC4
                      refine wp_region_list (WL.out ?_)
                      refine WL.val (by kernel_rfl) (.pointer (some ⟨g, 4, none⟩)) (by go_simp) ?_
                      simp only [Act.put, List.setIfInBounds_toArray, List.set_cons_zero, List.set_cons_succ]
                      refine WL.val (by kernel_rfl) (.slice wa M.wt.length wk) (by go_simp) ?_
                      simp only [Act.put, List.setIfInBounds_toArray, List.set_cons_zero, List.set_cons_succ]
                      refine WL.callF (by kernel_rfl) 60 _ _ rfl Try.in60 #[.slice wa M.wt.length wk] (by simp [Act.eval]) ?_
                      refine (HC4.out).mono ?_
                      rintro e w4 ⟨rfl, hb4⟩
                      refine ⟨_, rfl, ?_⟩
                      clear HC4
                      have HM4 := Keep.mk (HM3.out.below hb4 HM3.out.lt)
                      have HA4 := Keep.mk (HA3.out.below hb4)
                      have B4 : Keep (Below w.heap.size w w4) := ⟨B3.out.trans (hb4.mono B3.out.size)⟩
                      clear d0 d1 d3 d4 d5 hb4
                      have d0 := HM4.out.c 0 (ms_0 c)
                      have d1 := HM4.out.c 1 (ms_1 c)
                      have d3 := HM4.out.c 3 (ms_3 c)
                      have d4 := HM4.out.c 4 (ms_4 c)
                      have d5 := HM4.out.c 5 (ms_5 c)
                      rw [Ek.out] at d0
                      rw [E1.out] at d1
                      rw [E3.out] at d3
                      rw [E4.out] at d4
                      rw [E5.out] at d5
                      simp only [Act.put, List.setIfInBounds_toArray, List.set_cons_zero, List.set_cons_succ]
                      refine WL.val (by kernel_rfl) (.bool false) (by go_simp) ?_
                      simp only [Act.put, List.setIfInBounds_toArray, List.set_cons_zero, List.set_cons_succ]
                      refine WL.nil ?_
                      refine hK72 _ _ ?_
                      refine wp_seq_k fun K76 hK76 => ?_
                      refine wp_seq_k fun K77 hK77 => ?_
                      refine wp_region_list (WL.out ?_)
                      refine WL.val (by kernel_rfl) (.bool false) (by go_simp) ?_
                      simp only [Act.put, List.setIfInBounds_toArray, List.set_cons_zero, List.set_cons_succ]
                      refine WL.val (by kernel_rfl) (.bool true) (by go_simp) ?_
                      simp only [Act.put, List.setIfInBounds_toArray, List.set_cons_zero, List.set_cons_succ]
                      refine WL.val (by kernel_rfl) (.bool true) (by go_simp) ?_
                      simp only [Act.put, List.setIfInBounds_toArray, List.set_cons_zero, List.set_cons_succ]
                      refine WL.skip (by kernel_rfl) ?_
                      simp only [Act.put, List.setIfInBounds_toArray, List.set_cons_zero, List.set_cons_succ]
                      refine WL.skip (by kernel_rfl) ?_
                      simp only [Act.put, List.setIfInBounds_toArray, List.set_cons_zero, List.set_cons_succ]
                      refine WL.val (by kernel_rfl) (.bool true) (by go_simp) ?_
                      simp only [Act.put, List.setIfInBounds_toArray, List.set_cons_zero, List.set_cons_succ]
                      refine WL.nil ?_
                      refine hK77 _ _ ?_
                      refine wp_cond_true rfl ?_
                      refine wp_seq_k fun K78 hK78 => ?_
                      refine wp_region_list (WL.out ?_)
                      refine WL.val (by kernel_rfl) (.int .i64 130) (by go_simp) ?_
                      simp only [Act.put, List.setIfInBounds_toArray, List.set_cons_zero, List.set_cons_succ]
                      refine WL.nil ?_
                      refine hK78 _ _ ?_
                      refine wp_ret ?_
                      go_ret
                      first | exact ⟨by rw [HR.out]; (simp [*] <;> simp [hasI]), B2.out⟩ | exact ⟨by rw [HR.out]; (simp [*] <;> simp [hasI]), B3.out⟩ | exact ⟨by rw [HR.out]; (simp [*] <;> simp [hasI]), B4.out⟩
              · skip
                refine WL.val (by kernel_rfl) (.bool false) (by go_simp) ?_
                simp only [Act.put, List.setIfInBounds_toArray, List.set_cons_zero, List.set_cons_succ]
                refine WL.val (by kernel_rfl) (.bool false) (by go_simp) ?_
                simp only [Act.put, List.setIfInBounds_toArray, List.set_cons_zero, List.set_cons_succ]
                refine WL.skip (by kernel_rfl) ?_
                simp only [Act.put, List.setIfInBounds_toArray, List.set_cons_zero, List.set_cons_succ]
                refine WL.skip (by kernel_rfl) ?_
                simp only [Act.put, List.setIfInBounds_toArray, List.set_cons_zero, List.set_cons_succ]
                refine WL.skip (by kernel_rfl) ?_
                simp only [Act.put, List.setIfInBounds_toArray, List.set_cons_zero, List.set_cons_succ]
                refine WL.skip (by kernel_rfl) ?_
                simp only [Act.put, List.setIfInBounds_toArray, List.set_cons_zero, List.set_cons_succ]
                refine WL.val (by kernel_rfl) (.bool false) (by go_simp) ?_
                simp only [Act.put, List.setIfInBounds_toArray, List.set_cons_zero, List.set_cons_succ]
                refine WL.nil ?_
                refine hK18 _ _ ?_
                refine wp_cond_false rfl ?_
                refine wp_skip ?_
                refine hK17 _ _ ?_
                refine wp_seq_k fun K79 hK79 => ?_
                rcases Bool.eq_false_or_eq_true (Sh.risesB M.hd) with hC | hC
                · have HC3 := Keep.mk (Sh.refRising_any (.slice ha M.hd.length hk) M.hd w2 (by have h := HA2.out.hd; rw [E1.out] at h; exact h) (by omega))
                  rw [hC] at HC3
                  refine wp_region_list (WL.out ?_)
                  refine WL.val (by kernel_rfl) (.pointer (some ⟨g, 1, none⟩)) (by go_simp) ?_
                  simp only [Act.put, List.setIfInBounds_toArray, List.set_cons_zero, List.set_cons_succ]
                  refine WL.val (by kernel_rfl) (.slice ha M.hd.length hk) (by go_simp) ?_
                  simp only [Act.put, List.setIfInBounds_toArray, List.set_cons_zero, List.set_cons_succ]
                  refine WL.callF (by kernel_rfl) 60 _ _ rfl Try.in60 #[.slice ha M.hd.length hk] (by simp [Act.eval]) ?_
                  refine (HC3.out).mono ?_
                  rintro e w3 ⟨rfl, hb3⟩
                  refine ⟨_, rfl, ?_⟩
                  clear HC3
                  have HM3 := Keep.mk (HM2.out.below hb3 HM2.out.lt)
                  have HA3 := Keep.mk (HA2.out.below hb3)
                  have B3 : Keep (Below w.heap.size w w3) := ⟨B2.out.trans (hb3.mono B2.out.size)⟩
                  clear d0 d1 d3 d4 d5 hb3
                  have d0 := HM3.out.c 0 (ms_0 c)
                  have d1 := HM3.out.c 1 (ms_1 c)
                  have d3 := HM3.out.c 3 (ms_3 c)
                  have d4 := HM3.out.c 4 (ms_4 c)
                  have d5 := HM3.out.c 5 (ms_5 c)
                  rw [Ek.out] at d0
                  rw [E1.out] at d1
                  rw [E3.out] at d3
                  rw [E4.out] at d4
                  rw [E5.out] at d5
                  simp only [Act.put, List.setIfInBounds_toArray, List.set_cons_zero, List.set_cons_succ]
                  refine WL.val (by kernel_rfl) (.bool true) (by go_simp) ?_
                  simp only [Act.put, List.setIfInBounds_toArray, List.set_cons_zero, List.set_cons_succ]
                  refine WL.nil ?_
                  refine hK79 _ _ ?_
                  refine wp_seq_k fun K80 hK80 => ?_
                  rcases Bool.eq_false_or_eq_true (Sh.risesB M.wt) with hD | hD
                  · have HC4 := Keep.mk (Sh.refRising_any (.slice wa M.wt.length wk) M.wt w3 (by have h := HA3.out.wt; rw [E4.out] at h; exact h) (by omega))
                    rw [hD] at HC4
                    refine wp_region_list (WL.out ?_)
                    refine WL.val (by kernel_rfl) (.pointer (some ⟨g, 4, none⟩)) (by go_simp) ?_
                    simp only [Act.put, List.setIfInBounds_toArray, List.set_cons_zero, List.set_cons_succ]
                    refine WL.val (by kernel_rfl) (.slice wa M.wt.length wk) (by go_simp) ?_
                    simp only [Act.put, List.setIfInBounds_toArray, List.set_cons_zero, List.set_cons_succ]
                    refine WL.callF (by kernel_rfl) 60 _ _ rfl Try.in60 #[.slice wa M.wt.length wk] (by simp [Act.eval]) ?_
                    refine (HC4.out).mono ?_
                    rintro e w4 ⟨rfl, hb4⟩
                    refine ⟨_, rfl, ?_⟩
                    clear HC4
                    have HM4 := Keep.mk (HM3.out.below hb4 HM3.out.lt)
                    have HA4 := Keep.mk (HA3.out.below hb4)
                    have B4 : Keep (Below w.heap.size w w4) := ⟨B3.out.trans (hb4.mono B3.out.size)⟩
                    clear d0 d1 d3 d4 d5 hb4
                    have d0 := HM4.out.c 0 (ms_0 c)
                    have d1 := HM4.out.c 1 (ms_1 c)
                    have d3 := HM4.out.c 3 (ms_3 c)
                    have d4 := HM4.out.c 4 (ms_4 c)
                    have d5 := HM4.out.c 5 (ms_5 c)
                    rw [Ek.out] at d0
                    rw [E1.out] at d1
                    rw [E3.out] at d3
                    rw [E4.out] at d4
                    rw [E5.out] at d5
                    simp only [Act.put, List.setIfInBounds_toArray, List.set_cons_zero, List.set_cons_succ]
                    refine WL.val (by kernel_rfl) (.bool true) (by go_simp) ?_
                    simp only [Act.put, List.setIfInBounds_toArray, List.set_cons_zero, List.set_cons_succ]
                    refine WL.nil ?_
                    refine hK80 _ _ ?_
                    refine wp_seq_k fun K81 hK81 => ?_
                    refine wp_seq_k fun K82 hK82 => ?_
                    refine wp_region_list (WL.out ?_)
                    refine WL.val (by kernel_rfl) (.bool true) (by go_simp) ?_
                    simp only [Act.put, List.setIfInBounds_toArray, List.set_cons_zero, List.set_cons_succ]
                    refine WL.val (by kernel_rfl) (.bool false) (by go_simp) ?_
                    simp only [Act.put, List.setIfInBounds_toArray, List.set_cons_zero, List.set_cons_succ]
                    refine WL.val (by kernel_rfl) (.bool false) (by go_simp) ?_
                    simp only [Act.put, List.setIfInBounds_toArray, List.set_cons_zero, List.set_cons_succ]
                    refine WL.val (by kernel_rfl) (.bool true) (by go_simp) ?_
                    simp only [Act.put, List.setIfInBounds_toArray, List.set_cons_zero, List.set_cons_succ]
                    refine WL.val (by kernel_rfl) (.bool false) (by go_simp) ?_
                    simp only [Act.put, List.setIfInBounds_toArray, List.set_cons_zero, List.set_cons_succ]
                    refine WL.val (by kernel_rfl) (.bool false) (by go_simp) ?_
                    simp only [Act.put, List.setIfInBounds_toArray, List.set_cons_zero, List.set_cons_succ]
                    refine WL.nil ?_
                    refine hK82 _ _ ?_
                    refine wp_cond_false rfl ?_
                    refine wp_skip ?_
                    refine hK81 _ _ ?_
                    refine wp_seq_k fun K83 hK83 => ?_
                    rcases Bool.eq_false_or_eq_true (isP (M.bl.length : Int)) with hP | hP
                    · have HC5 := Keep.mk (digest_any (.slice ba M.bl.length bk) M.bl w4 (by have h := HA4.out.bl; rw [E3.out] at h; exact h) (by have := HOk.out.bl; omega))
                      rw [hP] at HC5
                      refine wp_region_list (WL.out ?_)
                      refine WL.val (by kernel_rfl) (.pointer (some ⟨g, 3, none⟩)) (by go_simp) ?_
                      simp only [Act.put, List.setIfInBounds_toArray, List.set_cons_zero, List.set_cons_succ]
                      refine WL.val (by kernel_rfl) (.slice ba M.bl.length bk) (by go_simp) ?_
                      simp only [Act.put, List.setIfInBounds_toArray, List.set_cons_zero, List.set_cons_succ]
                      refine WL.callF (by kernel_rfl) 42 _ _ rfl Try.in42 #[.slice ba M.bl.length bk] (by simp [Act.eval]) ?_
                      refine (HC5.out).mono ?_
                      rintro e w0 ⟨rfl, hw0⟩
                      rw [hw0]
                      clear hw0 w0
                      refine ⟨_, rfl, ?_⟩
                      simp only [Act.put, List.setIfInBounds_toArray, List.set_cons_zero, List.set_cons_succ]
                      refine WL.val (by kernel_rfl) (.bool true) (by go_simp) ?_
                      simp only [Act.put, List.setIfInBounds_toArray, List.set_cons_zero, List.set_cons_succ]
                      refine WL.nil ?_
                      refine hK83 _ _ ?_
                      refine wp_seq_k fun K84 hK84 => ?_
                      refine wp_seq_k fun K85 hK85 => ?_
                      refine wp_region_list (WL.out ?_)
                      refine WL.val (by kernel_rfl) (.pointer (some ⟨g, 0, none⟩)) (by go_simp) ?_
                      simp only [Act.put, List.setIfInBounds_toArray, List.set_cons_zero, List.set_cons_succ]
                      refine WL.val (by kernel_rfl) (.int .i64 M.k) (by go_simp) ?_
                      simp only [Act.put, List.setIfInBounds_toArray, List.set_cons_zero, List.set_cons_succ]
                      by_cases h15_2 : M.k = 1
                      · skip
                        refine WL.val (by kernel_rfl) (.bool true) (by go_simp) ?_
                        simp only [Act.put, List.setIfInBounds_toArray, List.set_cons_zero, List.set_cons_succ]
                        refine WL.val (by kernel_rfl) (.bool true) (by go_simp) ?_
                        simp only [Act.put, List.setIfInBounds_toArray, List.set_cons_zero, List.set_cons_succ]
                        refine WL.val (by kernel_rfl) (.bool true) (by go_simp) ?_
                        simp only [Act.put, List.setIfInBounds_toArray, List.set_cons_zero, List.set_cons_succ]
                        refine WL.val (by kernel_rfl) (.bool false) (by go_simp) ?_
                        simp only [Act.put, List.setIfInBounds_toArray, List.set_cons_zero, List.set_cons_succ]
                        refine WL.val (by kernel_rfl) (.bool false) (by go_simp) ?_
                        simp only [Act.put, List.setIfInBounds_toArray, List.set_cons_zero, List.set_cons_succ]
                        refine WL.nil ?_
                        refine hK85 _ _ ?_
                        refine wp_cond_false rfl ?_
                        refine wp_skip ?_
                        refine hK84 _ _ ?_
                        refine wp_seq_k fun K86 hK86 => ?_
                        refine wp_seq_k fun K87 hK87 => ?_
                        refine wp_region_list (WL.out ?_)
                        refine WL.val (by kernel_rfl) (.int .i64 0) (by go_simp) ?_
                        simp only [Act.put, List.setIfInBounds_toArray, List.set_cons_zero, List.set_cons_succ]
                        refine WL.nil ?_
                        refine hK87 _ _ ?_
                        refine wp_block ?_
                        refine wp_loop (fun ac wr => ∃ (t : Nat) (u2 u8 u69 u70 u71 u72 u73 u74 u75 u76 u77 u78 u79 u80 u81 u82 u83 : Value), ac = { tmps := #[.agg (msA c), .pointer (some ⟨g, 0, none⟩), u2, .bool true, .bool true, .bool true, .bool true, .int .i64 (t : Int), u8, undef, .pointer (some ⟨g, 0, none⟩), .int .i64 M.k, .bool false, .bool false, .pointer (some ⟨g, 0, none⟩), .int .i64 M.k, .bool false, .bool false, .agg (msA c), .bool true, .bool true, .bool false, .pointer (some ⟨g, 1, none⟩), .slice ha M.hd.length hk, .int .i64 (M.hd.length : Int), .bool false, .bool false, .pointer (some ⟨g, 4, none⟩), .slice wa M.wt.length wk, .int .i64 (M.wt.length : Int), .bool false, .bool false, .bool false, .pointer (some ⟨g, 5, none⟩), .slice xa M.bk.length xk, .int .i64 (M.bk.length : Int), .bool false, .bool false, .pointer (some ⟨g, 0, none⟩), .int .i64 M.k, .bool false, .bool false, undef, undef, undef, undef, .bool false, .pointer (some ⟨g, 1, none⟩), .slice ha M.hd.length hk, .bool true, .pointer (some ⟨g, 4, none⟩), .slice wa M.wt.length wk, .bool true, .bool true, .bool false, .bool false, .bool true, .bool false, .bool false, .pointer (some ⟨g, 3, none⟩), .slice ba M.bl.length bk, .bool true, .pointer (some ⟨g, 0, none⟩), .int .i64 M.k, .bool true, .bool true, .bool true, .bool false, .bool false, u69, u70, u71, u72, u73, u74, u75, u76, u77, u78, u79, u80, u81, u82, u83, undef, undef, undef, undef], defers := [] } ∧ t ≤ M.bk.length ∧ wr = w4 ∧ Keep (∀ j, j < t → 0 < (M.bk.getD j []).length ∧ (M.bk.getD j []).length ≤ 1048576)) (fun a _ => M.bk.length - (intOf (a.tmps.getD 7 undef)).toNat) ⟨0, .int .i64 0, undef, undef, undef, undef, undef, undef, undef, undef, undef, undef, undef, undef, undef, undef, undef, undef, rfl, by omega, rfl, ⟨fun j hj => by omega⟩⟩ ?_
                        rintro ac wr ⟨t, u2, u8, u69, u70, u71, u72, u73, u74, u75, u76, u77, u78, u79, u80, u81, u82, u83, rfl, ht, hwr, HK⟩
                        subst wr
                        by_cases hlt : t < M.bk.length
                        · have hlt' : (t : Int) < (M.bk.length : Int) := by omega
                          have hwt1 : IntKind.i64.wrap ((t : Int) + 1) = (t : Int) + 1 := by rw [IntKind.wrap_i64]; omega
                          obtain ⟨qb, ob, ya, yc, hxa, _, hcl, hrow⟩ := RwsAt.at (by have h := HA4.out.bk; rw [E5.out] at h; exact h) t hlt
                          subst hxa
                          have Hrow := Keep.mk hrow
                          clear hrow
                          by_cases hrk : 0 < (M.bk.getD t []).length ∧ (M.bk.getD t []).length ≤ 1048576
                          · have HC7 := Keep.mk (row_any _ _ w4 Hrow.out (HOk.out.rows t hlt))
                            rw [decide_eq_true hrk] at HC7
                            have HRx := Keep.mk hrk
                            clear hrk
                            obtain ⟨nr, hnr⟩ : ∃ nr, nr = (M.bk.getD t []).length := ⟨_, rfl⟩
                            rw [← hnr] at hcl HC7
                            clear hnr
                            refine wp_seq_k fun K88 hK88 => ?_
                            refine wp_seq_k fun K89 hK89 => ?_
                            refine wp_region_list (WL.out ?_)
                            refine WL.val (by kernel_rfl) (.int .i64 (t : Int)) (by go_simp) ?_
                            simp only [Act.put, List.setIfInBounds_toArray, List.set_cons_zero, List.set_cons_succ]
                            refine WL.val (by kernel_rfl) (.pointer (some ⟨g, 5, none⟩)) (by go_simp) ?_
                            simp only [Act.put, List.setIfInBounds_toArray, List.set_cons_zero, List.set_cons_succ]
                            refine WL.val (by kernel_rfl) (.slice (some ⟨qb, ob, none⟩) M.bk.length xk) (by go_simp) ?_
                            simp only [Act.put, List.setIfInBounds_toArray, List.set_cons_zero, List.set_cons_succ]
                            refine WL.val (by kernel_rfl) (.int .i64 (M.bk.length : Int)) (by go_simp) ?_
                            simp only [Act.put, List.setIfInBounds_toArray, List.set_cons_zero, List.set_cons_succ]
                            refine WL.val (by kernel_rfl) (.bool true) (by go_simp) ?_
                            simp only [Act.put, List.setIfInBounds_toArray, List.set_cons_zero, List.set_cons_succ]
                            refine WL.nil ?_
                            refine hK89 _ _ ?_
                            refine wp_cond_true rfl ?_
                            refine wp_skip ?_
                            refine hK88 _ _ ?_
                            refine wp_seq_k fun K90 hK90 => ?_
                            refine wp_block ?_
                            refine wp_seq_k fun K91 hK91 => ?_
                            refine wp_region_list (WL.out ?_)
                            refine WL.val (by kernel_rfl) (.pointer (some ⟨g, 5, none⟩)) (by go_simp) ?_
                            simp only [Act.put, List.setIfInBounds_toArray, List.set_cons_zero, List.set_cons_succ]
                            refine WL.val (by kernel_rfl) (.slice (some ⟨qb, ob, none⟩) M.bk.length xk) (by go_simp) ?_
                            simp only [Act.put, List.setIfInBounds_toArray, List.set_cons_zero, List.set_cons_succ]
                            refine WL.val (by kernel_rfl) (.int .i64 (t : Int)) (by go_simp) ?_
                            simp only [Act.put, List.setIfInBounds_toArray, List.set_cons_zero, List.set_cons_succ]
                            refine WL.val (by kernel_rfl) (.pointer (some ⟨qb, ob + t, none⟩)) (by go_simp) ?_
                            simp only [Act.put, List.setIfInBounds_toArray, List.set_cons_zero, List.set_cons_succ]
                            refine WL.val (by kernel_rfl) (.slice ya nr yc) (by go_simp) ?_
                            simp only [Act.put, List.setIfInBounds_toArray, List.set_cons_zero, List.set_cons_succ]
                            refine WL.callF (by kernel_rfl) 49 _ _ rfl Try.in49 #[.slice ya nr yc] (by simp [Act.eval]) ?_
                            refine (HC7.out).mono ?_
                            rintro e w0 ⟨rfl, hw0⟩
                            rw [hw0]
                            clear hw0 w0
                            refine ⟨_, rfl, ?_⟩
                            simp only [Act.put, List.setIfInBounds_toArray, List.set_cons_zero, List.set_cons_succ]
                            refine WL.val (by kernel_rfl) (.bool true) (by go_simp) ?_
                            simp only [Act.put, List.setIfInBounds_toArray, List.set_cons_zero, List.set_cons_succ]
                            refine WL.nil ?_
                            refine hK91 _ _ ?_
                            refine wp_seq_k fun K92 hK92 => ?_
                            refine wp_region_list (WL.out ?_)
                            refine WL.val (by kernel_rfl) (.bool true) (by go_simp) ?_
                            simp only [Act.put, List.setIfInBounds_toArray, List.set_cons_zero, List.set_cons_succ]
                            refine WL.val (by kernel_rfl) (.bool false) (by go_simp) ?_
                            simp only [Act.put, List.setIfInBounds_toArray, List.set_cons_zero, List.set_cons_succ]
                            refine WL.nil ?_
                            refine hK92 _ _ ?_
                            refine wp_cond_false rfl ?_
                            refine wp_skip ?_
                            refine hK90 _ _ ?_
                            refine wp_region_list (WL.out ?_)
                            refine WL.val (by kernel_rfl) (.int .i64 (t : Int)) (by go_simp) ?_
                            simp only [Act.put, List.setIfInBounds_toArray, List.set_cons_zero, List.set_cons_succ]
                            refine WL.val (by kernel_rfl) (.int .i64 ((t : Int) + 1)) (by go_simp) ?_
                            simp only [Act.put, List.setIfInBounds_toArray, List.set_cons_zero, List.set_cons_succ]
                            refine WL.val (by kernel_rfl) (.int .i64 ((t : Int) + 1)) (by go_simp) ?_
                            simp only [Act.put, List.setIfInBounds_toArray, List.set_cons_zero, List.set_cons_succ]
                            refine WL.nil ?_
                            refine ⟨⟨t + 1, u2, .bool true, .int .i64 (t : Int), .pointer (some ⟨g, 5, none⟩), .slice (some ⟨qb, ob, none⟩) M.bk.length xk, .int .i64 (M.bk.length : Int), .bool true, .int .i64 (t : Int), .int .i64 ((t : Int) + 1), .pointer (some ⟨g, 5, none⟩), .slice (some ⟨qb, ob, none⟩) M.bk.length xk, .int .i64 (t : Int), .pointer (some ⟨qb, ob + t, none⟩), .slice ya nr yc, .bool true, .bool true, .bool false, rfl, by omega, rfl, ⟨fun j hj => by rcases Nat.lt_or_eq_of_le (Nat.le_of_lt_succ hj) with h2 | h2; exact HK.out j h2; rw [h2]; exact HRx.out⟩⟩, by simp [intOf]; omega⟩
                          · have HC7 := Keep.mk (row_any _ _ w4 Hrow.out (HOk.out.rows t hlt))
                            rw [decide_eq_false hrk] at HC7
                            have HRx := Keep.mk hrk
                            clear hrk
                            obtain ⟨nr, hnr⟩ : ∃ nr, nr = (M.bk.getD t []).length := ⟨_, rfl⟩
                            rw [← hnr] at hcl HC7
                            clear hnr
                            have hO : okR M.bk = false := by rw [Bool.eq_false_iff]; intro h2; exact HRx.out ((okR_iff _).1 h2 t hlt)
                            refine wp_seq_k fun K93 hK93 => ?_
                            refine wp_seq_k fun K94 hK94 => ?_
                            refine wp_region_list (WL.out ?_)
                            refine WL.val (by kernel_rfl) (.int .i64 (t : Int)) (by go_simp) ?_
                            simp only [Act.put, List.setIfInBounds_toArray, List.set_cons_zero, List.set_cons_succ]
                            refine WL.val (by kernel_rfl) (.pointer (some ⟨g, 5, none⟩)) (by go_simp) ?_
                            simp only [Act.put, List.setIfInBounds_toArray, List.set_cons_zero, List.set_cons_succ]
                            refine WL.val (by kernel_rfl) (.slice (some ⟨qb, ob, none⟩) M.bk.length xk) (by go_simp) ?_
                            simp only [Act.put, List.setIfInBounds_toArray, List.set_cons_zero, List.set_cons_succ]
                            refine WL.val (by kernel_rfl) (.int .i64 (M.bk.length : Int)) (by go_simp) ?_
                            simp only [Act.put, List.setIfInBounds_toArray, List.set_cons_zero, List.set_cons_succ]
                            refine WL.val (by kernel_rfl) (.bool true) (by go_simp) ?_
                            simp only [Act.put, List.setIfInBounds_toArray, List.set_cons_zero, List.set_cons_succ]
                            refine WL.nil ?_
                            refine hK94 _ _ ?_
                            refine wp_cond_true rfl ?_
                            refine wp_skip ?_
                            refine hK93 _ _ ?_
                            refine wp_seq_k fun K95 hK95 => ?_
                            refine wp_block ?_
                            refine wp_seq_k fun K96 hK96 => ?_
                            refine wp_region_list (WL.out ?_)
                            refine WL.val (by kernel_rfl) (.pointer (some ⟨g, 5, none⟩)) (by go_simp) ?_
                            simp only [Act.put, List.setIfInBounds_toArray, List.set_cons_zero, List.set_cons_succ]
                            refine WL.val (by kernel_rfl) (.slice (some ⟨qb, ob, none⟩) M.bk.length xk) (by go_simp) ?_
                            simp only [Act.put, List.setIfInBounds_toArray, List.set_cons_zero, List.set_cons_succ]
                            refine WL.val (by kernel_rfl) (.int .i64 (t : Int)) (by go_simp) ?_
                            simp only [Act.put, List.setIfInBounds_toArray, List.set_cons_zero, List.set_cons_succ]
                            refine WL.val (by kernel_rfl) (.pointer (some ⟨qb, ob + t, none⟩)) (by go_simp) ?_
                            simp only [Act.put, List.setIfInBounds_toArray, List.set_cons_zero, List.set_cons_succ]
                            refine WL.val (by kernel_rfl) (.slice ya nr yc) (by go_simp) ?_
                            simp only [Act.put, List.setIfInBounds_toArray, List.set_cons_zero, List.set_cons_succ]
                            refine WL.callF (by kernel_rfl) 49 _ _ rfl Try.in49 #[.slice ya nr yc] (by simp [Act.eval]) ?_
                            refine (HC7.out).mono ?_
                            rintro e w0 ⟨rfl, hw0⟩
                            rw [hw0]
                            clear hw0 w0
                            refine ⟨_, rfl, ?_⟩
                            simp only [Act.put, List.setIfInBounds_toArray, List.set_cons_zero, List.set_cons_succ]
                            refine WL.val (by kernel_rfl) (.bool false) (by go_simp) ?_
                            simp only [Act.put, List.setIfInBounds_toArray, List.set_cons_zero, List.set_cons_succ]
                            refine WL.nil ?_
                            refine hK96 _ _ ?_
                            refine wp_seq_k fun K97 hK97 => ?_
                            refine wp_region_list (WL.out ?_)
                            refine WL.val (by kernel_rfl) (.bool false) (by go_simp) ?_
                            simp only [Act.put, List.setIfInBounds_toArray, List.set_cons_zero, List.set_cons_succ]
                            refine WL.val (by kernel_rfl) (.bool true) (by go_simp) ?_
                            simp only [Act.put, List.setIfInBounds_toArray, List.set_cons_zero, List.set_cons_succ]
                            refine WL.nil ?_
                            refine hK97 _ _ ?_
                            refine wp_cond_true rfl ?_
                            refine wp_seq_k fun K98 hK98 => ?_
                            refine wp_region_list (WL.out ?_)
                            refine WL.val (by kernel_rfl) (.int .i64 4) (by go_simp) ?_
                            simp only [Act.put, List.setIfInBounds_toArray, List.set_cons_zero, List.set_cons_succ]
                            refine WL.nil ?_
                            refine hK98 _ _ ?_
                            refine wp_ret ?_
                            go_ret
                            first | exact ⟨by rw [HR.out]; (simp [*] <;> simp [hasI]), B2.out⟩ | exact ⟨by rw [HR.out]; (simp [*] <;> simp [hasI]), B3.out⟩ | exact ⟨by rw [HR.out]; (simp [*] <;> simp [hasI]), B4.out⟩
                        · have htl' : ¬ (t : Int) < (M.bk.length : Int) := by omega
                          have hO : okR M.bk = true := (okR_iff _).2 fun i hi => HK.out i (by omega)
                          refine wp_seq_k fun K99 hK99 => ?_
                          refine wp_seq_k fun K100 hK100 => ?_
                          refine wp_region_list (WL.out ?_)
                          refine WL.val (by kernel_rfl) (.int .i64 (t : Int)) (by go_simp) ?_
                          simp only [Act.put, List.setIfInBounds_toArray, List.set_cons_zero, List.set_cons_succ]
                          refine WL.val (by kernel_rfl) (.pointer (some ⟨g, 5, none⟩)) (by go_simp) ?_
                          simp only [Act.put, List.setIfInBounds_toArray, List.set_cons_zero, List.set_cons_succ]
                          refine WL.val (by kernel_rfl) (.slice xa M.bk.length xk) (by go_simp) ?_
                          simp only [Act.put, List.setIfInBounds_toArray, List.set_cons_zero, List.set_cons_succ]
                          refine WL.val (by kernel_rfl) (.int .i64 (M.bk.length : Int)) (by go_simp) ?_
                          simp only [Act.put, List.setIfInBounds_toArray, List.set_cons_zero, List.set_cons_succ]
                          refine WL.val (by kernel_rfl) (.bool false) (by go_simp) ?_
                          simp only [Act.put, List.setIfInBounds_toArray, List.set_cons_zero, List.set_cons_succ]
                          refine WL.nil ?_
                          refine hK100 _ _ ?_
                          refine wp_cond_false rfl ?_
                          refine wp_exit ?_
                          refine hK86 _ _ ?_
                          refine wp_seq_k fun K101 hK101 => ?_
                          have hPk : M.k = 1 → isP (M.bl.length : Int) = true := fun _ => hP
                          have HSz := Keep.mk (size_msg M c w4 HA4.out (by omega) (by omega) (by omega) (fun h => by have := isP_rng (hPk h); omega) hO HOk.out.bl)
                          refine wp_region_list (WL.out ?_)
                          refine WL.row (by kernel_rfl) 28 (.tmp 1) rfl g rfl 28 (msA c) _ HM4.out Try.underlying28 rfl (Try.size28B _) ?_
                          simp only [Act.put, List.setIfInBounds_toArray, List.set_cons_zero, List.set_cons_succ]
                          refine WL.callF (by kernel_rfl) 61 _ _ rfl Try.in61 #[.agg (msA c)] (by simp [Act.eval]) ?_
                          refine (HSz.out).mono ?_
                          rintro e w5 ⟨sz, rfl, hy3, hy1, hb5⟩
                          refine ⟨_, rfl, ?_⟩
                          have hz3 := Keep.mk hy3
                          have hz1 := Keep.mk hy1
                          clear hy3 hy1
                          have B5 : Keep (Below w.heap.size w w5) := ⟨B4.out.trans (hb5.mono B4.out.size)⟩
                          clear hb5 HSz
                          simp only [Act.put, List.setIfInBounds_toArray, List.set_cons_zero, List.set_cons_succ]
                          refine WL.val (by kernel_rfl) (.int .i64 (sz : Int)) (by go_simp) ?_
                          simp only [Act.put, List.setIfInBounds_toArray, List.set_cons_zero, List.set_cons_succ]
                          refine WL.nil ?_
                          refine hK101 _ _ ?_
                          refine wp_seq_k fun K102 hK102 => ?_
                          refine wp_seq_k fun K103 hK103 => ?_
                          refine wp_region_list (WL.out ?_)
                          refine WL.val (by kernel_rfl) (.int .i64 (sz : Int)) (by go_simp) ?_
                          simp only [Act.put, List.setIfInBounds_toArray, List.set_cons_zero, List.set_cons_succ]
                          by_cases h24_1 : 2097152 < sz
                          · have h24_1i : (2097152 : Int) < (sz : Int) := by omega
                            refine WL.val (by kernel_rfl) (.bool true) (by go_simp) ?_
                            simp only [Act.put, List.setIfInBounds_toArray, List.set_cons_zero, List.set_cons_succ]
                            refine WL.nil ?_
                            refine hK103 _ _ ?_
                            refine wp_cond_true rfl ?_
                            refine wp_seq_k fun K104 hK104 => ?_
                            refine wp_region_list (WL.out ?_)
                            refine WL.val (by kernel_rfl) (.int .i64 4) (by go_simp) ?_
                            simp only [Act.put, List.setIfInBounds_toArray, List.set_cons_zero, List.set_cons_succ]
                            refine WL.nil ?_
                            refine hK104 _ _ ?_
                            refine wp_ret ?_
                            go_ret
                            exact absurd (hz1.out (by assumption)) (by omega)
                          · have h24_1i : ¬ (2097152 : Int) < (sz : Int) := by omega
                            refine WL.val (by kernel_rfl) (.bool false) (by go_simp) ?_
                            simp only [Act.put, List.setIfInBounds_toArray, List.set_cons_zero, List.set_cons_succ]
                            refine WL.nil ?_
                            refine hK103 _ _ ?_
                            refine wp_cond_false rfl ?_
                            refine wp_skip ?_
                            refine hK102 _ _ ?_
                            refine wp_seq_k fun K105 hK105 => ?_
                            refine wp_region_list (WL.out ?_)
                            refine WL.val (by kernel_rfl) (.int .i64 0) (by go_simp) ?_
                            simp only [Act.put, List.setIfInBounds_toArray, List.set_cons_zero, List.set_cons_succ]
                            refine WL.nil ?_
                            refine hK105 _ _ ?_
                            refine wp_ret ?_
                            go_ret
                            have hF : ¬ fit M.bk < M.bk.length := by
                              have hbe : M.bk = [] := bk_nil hkne hB (by assumption)
                              rw [hbe]; simp
                            exact ⟨by rw [HR.out]; (simp [*] <;> simp [hasI]), B5.out⟩
                      · skip
                        refine WL.val (by kernel_rfl) (.bool false) (by go_simp) ?_
                        simp only [Act.put, List.setIfInBounds_toArray, List.set_cons_zero, List.set_cons_succ]
                        refine WL.val (by kernel_rfl) (.bool false) (by go_simp) ?_
                        simp only [Act.put, List.setIfInBounds_toArray, List.set_cons_zero, List.set_cons_succ]
                        refine WL.skip (by kernel_rfl) ?_
                        simp only [Act.put, List.setIfInBounds_toArray, List.set_cons_zero, List.set_cons_succ]
                        refine WL.skip (by kernel_rfl) ?_
                        simp only [Act.put, List.setIfInBounds_toArray, List.set_cons_zero, List.set_cons_succ]
                        refine WL.val (by kernel_rfl) (.bool false) (by go_simp) ?_
                        simp only [Act.put, List.setIfInBounds_toArray, List.set_cons_zero, List.set_cons_succ]
                        refine WL.nil ?_
                        refine hK85 _ _ ?_
                        refine wp_cond_false rfl ?_
                        refine wp_skip ?_
                        refine hK84 _ _ ?_
                        refine wp_seq_k fun K106 hK106 => ?_
                        refine wp_seq_k fun K107 hK107 => ?_
                        refine wp_region_list (WL.out ?_)
                        refine WL.val (by kernel_rfl) (.int .i64 0) (by go_simp) ?_
                        simp only [Act.put, List.setIfInBounds_toArray, List.set_cons_zero, List.set_cons_succ]
                        refine WL.nil ?_
                        refine hK107 _ _ ?_
                        refine wp_block ?_
                        refine wp_loop (fun ac wr => ∃ (t : Nat) (u2 u8 u69 u70 u71 u72 u73 u74 u75 u76 u77 u78 u79 u80 u81 u82 u83 : Value), ac = { tmps := #[.agg (msA c), .pointer (some ⟨g, 0, none⟩), u2, .bool true, .bool true, .bool true, .bool true, .int .i64 (t : Int), u8, undef, .pointer (some ⟨g, 0, none⟩), .int .i64 M.k, .bool false, .bool false, .pointer (some ⟨g, 0, none⟩), .int .i64 M.k, .bool false, .bool false, .agg (msA c), .bool true, .bool true, .bool false, .pointer (some ⟨g, 1, none⟩), .slice ha M.hd.length hk, .int .i64 (M.hd.length : Int), .bool false, .bool false, .pointer (some ⟨g, 4, none⟩), .slice wa M.wt.length wk, .int .i64 (M.wt.length : Int), .bool false, .bool false, .bool false, .pointer (some ⟨g, 5, none⟩), .slice xa M.bk.length xk, .int .i64 (M.bk.length : Int), .bool false, .bool false, .pointer (some ⟨g, 0, none⟩), .int .i64 M.k, .bool false, .bool false, undef, undef, undef, undef, .bool false, .pointer (some ⟨g, 1, none⟩), .slice ha M.hd.length hk, .bool true, .pointer (some ⟨g, 4, none⟩), .slice wa M.wt.length wk, .bool true, .bool true, .bool false, .bool false, .bool true, .bool false, .bool false, .pointer (some ⟨g, 3, none⟩), .slice ba M.bl.length bk, .bool true, .pointer (some ⟨g, 0, none⟩), .int .i64 M.k, .bool false, .bool false, undef, undef, .bool false, u69, u70, u71, u72, u73, u74, u75, u76, u77, u78, u79, u80, u81, u82, u83, undef, undef, undef, undef], defers := [] } ∧ t ≤ M.bk.length ∧ wr = w4 ∧ Keep (∀ j, j < t → 0 < (M.bk.getD j []).length ∧ (M.bk.getD j []).length ≤ 1048576)) (fun a _ => M.bk.length - (intOf (a.tmps.getD 7 undef)).toNat) ⟨0, .int .i64 0, undef, undef, undef, undef, undef, undef, undef, undef, undef, undef, undef, undef, undef, undef, undef, undef, rfl, by omega, rfl, ⟨fun j hj => by omega⟩⟩ ?_
                        rintro ac wr ⟨t, u2, u8, u69, u70, u71, u72, u73, u74, u75, u76, u77, u78, u79, u80, u81, u82, u83, rfl, ht, hwr, HK⟩
                        subst wr
                        by_cases hlt : t < M.bk.length
                        · have hlt' : (t : Int) < (M.bk.length : Int) := by omega
                          have hwt1 : IntKind.i64.wrap ((t : Int) + 1) = (t : Int) + 1 := by rw [IntKind.wrap_i64]; omega
                          obtain ⟨qb, ob, ya, yc, hxa, _, hcl, hrow⟩ := RwsAt.at (by have h := HA4.out.bk; rw [E5.out] at h; exact h) t hlt
                          subst hxa
                          have Hrow := Keep.mk hrow
                          clear hrow
                          by_cases hrk : 0 < (M.bk.getD t []).length ∧ (M.bk.getD t []).length ≤ 1048576
                          · have HC7 := Keep.mk (row_any _ _ w4 Hrow.out (HOk.out.rows t hlt))
                            rw [decide_eq_true hrk] at HC7
                            have HRx := Keep.mk hrk
                            clear hrk
                            obtain ⟨nr, hnr⟩ : ∃ nr, nr = (M.bk.getD t []).length := ⟨_, rfl⟩
                            rw [← hnr] at hcl HC7
                            clear hnr
                            refine wp_seq_k fun K108 hK108 => ?_
                            refine wp_seq_k fun K109 hK109 => ?_
                            refine wp_region_list (WL.out ?_)
                            refine WL.val (by kernel_rfl) (.int .i64 (t : Int)) (by go_simp) ?_
                            simp only [Act.put, List.setIfInBounds_toArray, List.set_cons_zero, List.set_cons_succ]
                            refine WL.val (by kernel_rfl) (.pointer (some ⟨g, 5, none⟩)) (by go_simp) ?_
                            simp only [Act.put, List.setIfInBounds_toArray, List.set_cons_zero, List.set_cons_succ]
                            refine WL.val (by kernel_rfl) (.slice (some ⟨qb, ob, none⟩) M.bk.length xk) (by go_simp) ?_
                            simp only [Act.put, List.setIfInBounds_toArray, List.set_cons_zero, List.set_cons_succ]
                            refine WL.val (by kernel_rfl) (.int .i64 (M.bk.length : Int)) (by go_simp) ?_
                            simp only [Act.put, List.setIfInBounds_toArray, List.set_cons_zero, List.set_cons_succ]
                            refine WL.val (by kernel_rfl) (.bool true) (by go_simp) ?_
                            simp only [Act.put, List.setIfInBounds_toArray, List.set_cons_zero, List.set_cons_succ]
                            refine WL.nil ?_
                            refine hK109 _ _ ?_
                            refine wp_cond_true rfl ?_
                            refine wp_skip ?_
                            refine hK108 _ _ ?_
                            refine wp_seq_k fun K110 hK110 => ?_
                            refine wp_block ?_
                            refine wp_seq_k fun K111 hK111 => ?_
                            refine wp_region_list (WL.out ?_)
                            refine WL.val (by kernel_rfl) (.pointer (some ⟨g, 5, none⟩)) (by go_simp) ?_
                            simp only [Act.put, List.setIfInBounds_toArray, List.set_cons_zero, List.set_cons_succ]
                            refine WL.val (by kernel_rfl) (.slice (some ⟨qb, ob, none⟩) M.bk.length xk) (by go_simp) ?_
                            simp only [Act.put, List.setIfInBounds_toArray, List.set_cons_zero, List.set_cons_succ]
                            refine WL.val (by kernel_rfl) (.int .i64 (t : Int)) (by go_simp) ?_
                            simp only [Act.put, List.setIfInBounds_toArray, List.set_cons_zero, List.set_cons_succ]
                            refine WL.val (by kernel_rfl) (.pointer (some ⟨qb, ob + t, none⟩)) (by go_simp) ?_
                            simp only [Act.put, List.setIfInBounds_toArray, List.set_cons_zero, List.set_cons_succ]
                            refine WL.val (by kernel_rfl) (.slice ya nr yc) (by go_simp) ?_
                            simp only [Act.put, List.setIfInBounds_toArray, List.set_cons_zero, List.set_cons_succ]
                            refine WL.callF (by kernel_rfl) 49 _ _ rfl Try.in49 #[.slice ya nr yc] (by simp [Act.eval]) ?_
                            refine (HC7.out).mono ?_
                            rintro e w0 ⟨rfl, hw0⟩
                            rw [hw0]
                            clear hw0 w0
                            refine ⟨_, rfl, ?_⟩
                            simp only [Act.put, List.setIfInBounds_toArray, List.set_cons_zero, List.set_cons_succ]
                            refine WL.val (by kernel_rfl) (.bool true) (by go_simp) ?_
                            simp only [Act.put, List.setIfInBounds_toArray, List.set_cons_zero, List.set_cons_succ]
                            refine WL.nil ?_
                            refine hK111 _ _ ?_
                            refine wp_seq_k fun K112 hK112 => ?_
                            refine wp_region_list (WL.out ?_)
                            refine WL.val (by kernel_rfl) (.bool true) (by go_simp) ?_
                            simp only [Act.put, List.setIfInBounds_toArray, List.set_cons_zero, List.set_cons_succ]
                            refine WL.val (by kernel_rfl) (.bool false) (by go_simp) ?_
                            simp only [Act.put, List.setIfInBounds_toArray, List.set_cons_zero, List.set_cons_succ]
                            refine WL.nil ?_
                            refine hK112 _ _ ?_
                            refine wp_cond_false rfl ?_
                            refine wp_skip ?_
                            refine hK110 _ _ ?_
                            refine wp_region_list (WL.out ?_)
                            refine WL.val (by kernel_rfl) (.int .i64 (t : Int)) (by go_simp) ?_
                            simp only [Act.put, List.setIfInBounds_toArray, List.set_cons_zero, List.set_cons_succ]
                            refine WL.val (by kernel_rfl) (.int .i64 ((t : Int) + 1)) (by go_simp) ?_
                            simp only [Act.put, List.setIfInBounds_toArray, List.set_cons_zero, List.set_cons_succ]
                            refine WL.val (by kernel_rfl) (.int .i64 ((t : Int) + 1)) (by go_simp) ?_
                            simp only [Act.put, List.setIfInBounds_toArray, List.set_cons_zero, List.set_cons_succ]
                            refine WL.nil ?_
                            refine ⟨⟨t + 1, u2, .bool true, .int .i64 (t : Int), .pointer (some ⟨g, 5, none⟩), .slice (some ⟨qb, ob, none⟩) M.bk.length xk, .int .i64 (M.bk.length : Int), .bool true, .int .i64 (t : Int), .int .i64 ((t : Int) + 1), .pointer (some ⟨g, 5, none⟩), .slice (some ⟨qb, ob, none⟩) M.bk.length xk, .int .i64 (t : Int), .pointer (some ⟨qb, ob + t, none⟩), .slice ya nr yc, .bool true, .bool true, .bool false, rfl, by omega, rfl, ⟨fun j hj => by rcases Nat.lt_or_eq_of_le (Nat.le_of_lt_succ hj) with h2 | h2; exact HK.out j h2; rw [h2]; exact HRx.out⟩⟩, by simp [intOf]; omega⟩
                          · have HC7 := Keep.mk (row_any _ _ w4 Hrow.out (HOk.out.rows t hlt))
                            rw [decide_eq_false hrk] at HC7
                            have HRx := Keep.mk hrk
                            clear hrk
                            obtain ⟨nr, hnr⟩ : ∃ nr, nr = (M.bk.getD t []).length := ⟨_, rfl⟩
                            rw [← hnr] at hcl HC7
                            clear hnr
                            have hO : okR M.bk = false := by rw [Bool.eq_false_iff]; intro h2; exact HRx.out ((okR_iff _).1 h2 t hlt)
                            refine wp_seq_k fun K113 hK113 => ?_
                            refine wp_seq_k fun K114 hK114 => ?_
                            refine wp_region_list (WL.out ?_)
                            refine WL.val (by kernel_rfl) (.int .i64 (t : Int)) (by go_simp) ?_
                            simp only [Act.put, List.setIfInBounds_toArray, List.set_cons_zero, List.set_cons_succ]
                            refine WL.val (by kernel_rfl) (.pointer (some ⟨g, 5, none⟩)) (by go_simp) ?_
                            simp only [Act.put, List.setIfInBounds_toArray, List.set_cons_zero, List.set_cons_succ]
                            refine WL.val (by kernel_rfl) (.slice (some ⟨qb, ob, none⟩) M.bk.length xk) (by go_simp) ?_
                            simp only [Act.put, List.setIfInBounds_toArray, List.set_cons_zero, List.set_cons_succ]
                            refine WL.val (by kernel_rfl) (.int .i64 (M.bk.length : Int)) (by go_simp) ?_
                            simp only [Act.put, List.setIfInBounds_toArray, List.set_cons_zero, List.set_cons_succ]
                            refine WL.val (by kernel_rfl) (.bool true) (by go_simp) ?_
                            simp only [Act.put, List.setIfInBounds_toArray, List.set_cons_zero, List.set_cons_succ]
                            refine WL.nil ?_
                            refine hK114 _ _ ?_
                            refine wp_cond_true rfl ?_
                            refine wp_skip ?_
                            refine hK113 _ _ ?_
                            refine wp_seq_k fun K115 hK115 => ?_
                            refine wp_block ?_
                            refine wp_seq_k fun K116 hK116 => ?_
                            refine wp_region_list (WL.out ?_)
                            refine WL.val (by kernel_rfl) (.pointer (some ⟨g, 5, none⟩)) (by go_simp) ?_
                            simp only [Act.put, List.setIfInBounds_toArray, List.set_cons_zero, List.set_cons_succ]
                            refine WL.val (by kernel_rfl) (.slice (some ⟨qb, ob, none⟩) M.bk.length xk) (by go_simp) ?_
                            simp only [Act.put, List.setIfInBounds_toArray, List.set_cons_zero, List.set_cons_succ]
                            refine WL.val (by kernel_rfl) (.int .i64 (t : Int)) (by go_simp) ?_
                            simp only [Act.put, List.setIfInBounds_toArray, List.set_cons_zero, List.set_cons_succ]
                            refine WL.val (by kernel_rfl) (.pointer (some ⟨qb, ob + t, none⟩)) (by go_simp) ?_
                            simp only [Act.put, List.setIfInBounds_toArray, List.set_cons_zero, List.set_cons_succ]
                            refine WL.val (by kernel_rfl) (.slice ya nr yc) (by go_simp) ?_
                            simp only [Act.put, List.setIfInBounds_toArray, List.set_cons_zero, List.set_cons_succ]
                            refine WL.callF (by kernel_rfl) 49 _ _ rfl Try.in49 #[.slice ya nr yc] (by simp [Act.eval]) ?_
                            refine (HC7.out).mono ?_
                            rintro e w0 ⟨rfl, hw0⟩
                            rw [hw0]
                            clear hw0 w0
                            refine ⟨_, rfl, ?_⟩
                            simp only [Act.put, List.setIfInBounds_toArray, List.set_cons_zero, List.set_cons_succ]
                            refine WL.val (by kernel_rfl) (.bool false) (by go_simp) ?_
                            simp only [Act.put, List.setIfInBounds_toArray, List.set_cons_zero, List.set_cons_succ]
                            refine WL.nil ?_
                            refine hK116 _ _ ?_
                            refine wp_seq_k fun K117 hK117 => ?_
                            refine wp_region_list (WL.out ?_)
                            refine WL.val (by kernel_rfl) (.bool false) (by go_simp) ?_
                            simp only [Act.put, List.setIfInBounds_toArray, List.set_cons_zero, List.set_cons_succ]
                            refine WL.val (by kernel_rfl) (.bool true) (by go_simp) ?_
                            simp only [Act.put, List.setIfInBounds_toArray, List.set_cons_zero, List.set_cons_succ]
                            refine WL.nil ?_
                            refine hK117 _ _ ?_
                            refine wp_cond_true rfl ?_
                            refine wp_seq_k fun K118 hK118 => ?_
                            refine wp_region_list (WL.out ?_)
                            refine WL.val (by kernel_rfl) (.int .i64 4) (by go_simp) ?_
                            simp only [Act.put, List.setIfInBounds_toArray, List.set_cons_zero, List.set_cons_succ]
                            refine WL.nil ?_
                            refine hK118 _ _ ?_
                            refine wp_ret ?_
                            go_ret
                            first | exact ⟨by rw [HR.out]; (simp [*] <;> simp [hasI]), B2.out⟩ | exact ⟨by rw [HR.out]; (simp [*] <;> simp [hasI]), B3.out⟩ | exact ⟨by rw [HR.out]; (simp [*] <;> simp [hasI]), B4.out⟩
                        · have htl' : ¬ (t : Int) < (M.bk.length : Int) := by omega
                          have hO : okR M.bk = true := (okR_iff _).2 fun i hi => HK.out i (by omega)
                          refine wp_seq_k fun K119 hK119 => ?_
                          refine wp_seq_k fun K120 hK120 => ?_
                          refine wp_region_list (WL.out ?_)
                          refine WL.val (by kernel_rfl) (.int .i64 (t : Int)) (by go_simp) ?_
                          simp only [Act.put, List.setIfInBounds_toArray, List.set_cons_zero, List.set_cons_succ]
                          refine WL.val (by kernel_rfl) (.pointer (some ⟨g, 5, none⟩)) (by go_simp) ?_
                          simp only [Act.put, List.setIfInBounds_toArray, List.set_cons_zero, List.set_cons_succ]
                          refine WL.val (by kernel_rfl) (.slice xa M.bk.length xk) (by go_simp) ?_
                          simp only [Act.put, List.setIfInBounds_toArray, List.set_cons_zero, List.set_cons_succ]
                          refine WL.val (by kernel_rfl) (.int .i64 (M.bk.length : Int)) (by go_simp) ?_
                          simp only [Act.put, List.setIfInBounds_toArray, List.set_cons_zero, List.set_cons_succ]
                          refine WL.val (by kernel_rfl) (.bool false) (by go_simp) ?_
                          simp only [Act.put, List.setIfInBounds_toArray, List.set_cons_zero, List.set_cons_succ]
                          refine WL.nil ?_
                          refine hK120 _ _ ?_
                          refine wp_cond_false rfl ?_
                          refine wp_exit ?_
                          refine hK106 _ _ ?_
                          refine wp_seq_k fun K121 hK121 => ?_
                          have hPk : M.k = 1 → isP (M.bl.length : Int) = true := fun h => absurd h (by assumption)
                          have HSz := Keep.mk (size_msg M c w4 HA4.out (by omega) (by omega) (by omega) (fun h => by have := isP_rng (hPk h); omega) hO HOk.out.bl)
                          refine wp_region_list (WL.out ?_)
                          refine WL.row (by kernel_rfl) 28 (.tmp 1) rfl g rfl 28 (msA c) _ HM4.out Try.underlying28 rfl (Try.size28B _) ?_
                          simp only [Act.put, List.setIfInBounds_toArray, List.set_cons_zero, List.set_cons_succ]
                          refine WL.callF (by kernel_rfl) 61 _ _ rfl Try.in61 #[.agg (msA c)] (by simp [Act.eval]) ?_
                          refine (HSz.out).mono ?_
                          rintro e w5 ⟨sz, rfl, hy3, hy1, hb5⟩
                          refine ⟨_, rfl, ?_⟩
                          have hz3 := Keep.mk hy3
                          have hz1 := Keep.mk hy1
                          clear hy3 hy1
                          have B5 : Keep (Below w.heap.size w w5) := ⟨B4.out.trans (hb5.mono B4.out.size)⟩
                          clear hb5 HSz
                          simp only [Act.put, List.setIfInBounds_toArray, List.set_cons_zero, List.set_cons_succ]
                          refine WL.val (by kernel_rfl) (.int .i64 (sz : Int)) (by go_simp) ?_
                          simp only [Act.put, List.setIfInBounds_toArray, List.set_cons_zero, List.set_cons_succ]
                          refine WL.nil ?_
                          refine hK121 _ _ ?_
                          refine wp_seq_k fun K122 hK122 => ?_
                          refine wp_seq_k fun K123 hK123 => ?_
                          refine wp_region_list (WL.out ?_)
                          refine WL.val (by kernel_rfl) (.int .i64 (sz : Int)) (by go_simp) ?_
                          simp only [Act.put, List.setIfInBounds_toArray, List.set_cons_zero, List.set_cons_succ]
                          by_cases h24_1 : 2097152 < sz
                          · have h24_1i : (2097152 : Int) < (sz : Int) := by omega
                            refine WL.val (by kernel_rfl) (.bool true) (by go_simp) ?_
                            simp only [Act.put, List.setIfInBounds_toArray, List.set_cons_zero, List.set_cons_succ]
                            refine WL.nil ?_
                            refine hK123 _ _ ?_
                            refine wp_cond_true rfl ?_
                            refine wp_seq_k fun K124 hK124 => ?_
                            refine wp_region_list (WL.out ?_)
                            refine WL.val (by kernel_rfl) (.int .i64 4) (by go_simp) ?_
                            simp only [Act.put, List.setIfInBounds_toArray, List.set_cons_zero, List.set_cons_succ]
                            refine WL.nil ?_
                            refine hK124 _ _ ?_
                            refine wp_ret ?_
                            go_ret
                            exact absurd (hz1.out (by assumption)) (by omega)
                          · have h24_1i : ¬ (2097152 : Int) < (sz : Int) := by omega
                            refine WL.val (by kernel_rfl) (.bool false) (by go_simp) ?_
                            simp only [Act.put, List.setIfInBounds_toArray, List.set_cons_zero, List.set_cons_succ]
                            refine WL.nil ?_
                            refine hK123 _ _ ?_
                            refine wp_cond_false rfl ?_
                            refine wp_skip ?_
                            refine hK122 _ _ ?_
                            refine wp_seq_k fun K125 hK125 => ?_
                            refine wp_region_list (WL.out ?_)
                            refine WL.val (by kernel_rfl) (.int .i64 0) (by go_simp) ?_
                            simp only [Act.put, List.setIfInBounds_toArray, List.set_cons_zero, List.set_cons_succ]
                            refine WL.nil ?_
                            refine hK125 _ _ ?_
                            refine wp_ret ?_
                            go_ret
                            have hF : ¬ fit M.bk < M.bk.length := by
                              have hbe : M.bk = [] := bk_nil hkne hB (by assumption)
                              rw [hbe]; simp
                            exact ⟨by rw [HR.out]; (simp [*] <;> simp [hasI]), B5.out⟩
                    · have HC5 := Keep.mk (digest_any (.slice ba M.bl.length bk) M.bl w4 (by have h := HA4.out.bl; rw [E3.out] at h; exact h) (by have := HOk.out.bl; omega))
                      rw [hP] at HC5
                      refine wp_region_list (WL.out ?_)
                      refine WL.val (by kernel_rfl) (.pointer (some ⟨g, 3, none⟩)) (by go_simp) ?_
                      simp only [Act.put, List.setIfInBounds_toArray, List.set_cons_zero, List.set_cons_succ]
                      refine WL.val (by kernel_rfl) (.slice ba M.bl.length bk) (by go_simp) ?_
                      simp only [Act.put, List.setIfInBounds_toArray, List.set_cons_zero, List.set_cons_succ]
                      refine WL.callF (by kernel_rfl) 42 _ _ rfl Try.in42 #[.slice ba M.bl.length bk] (by simp [Act.eval]) ?_
                      refine (HC5.out).mono ?_
                      rintro e w0 ⟨rfl, hw0⟩
                      rw [hw0]
                      clear hw0 w0
                      refine ⟨_, rfl, ?_⟩
                      simp only [Act.put, List.setIfInBounds_toArray, List.set_cons_zero, List.set_cons_succ]
                      refine WL.val (by kernel_rfl) (.bool false) (by go_simp) ?_
                      simp only [Act.put, List.setIfInBounds_toArray, List.set_cons_zero, List.set_cons_succ]
                      refine WL.nil ?_
                      refine hK83 _ _ ?_
                      refine wp_seq_k fun K126 hK126 => ?_
                      refine wp_seq_k fun K127 hK127 => ?_
                      refine wp_region_list (WL.out ?_)
                      refine WL.val (by kernel_rfl) (.pointer (some ⟨g, 0, none⟩)) (by go_simp) ?_
                      simp only [Act.put, List.setIfInBounds_toArray, List.set_cons_zero, List.set_cons_succ]
                      refine WL.val (by kernel_rfl) (.int .i64 M.k) (by go_simp) ?_
                      simp only [Act.put, List.setIfInBounds_toArray, List.set_cons_zero, List.set_cons_succ]
                      by_cases h15_2 : M.k = 1
                      · skip
                        refine WL.val (by kernel_rfl) (.bool true) (by go_simp) ?_
                        simp only [Act.put, List.setIfInBounds_toArray, List.set_cons_zero, List.set_cons_succ]
                        refine WL.val (by kernel_rfl) (.bool true) (by go_simp) ?_
                        simp only [Act.put, List.setIfInBounds_toArray, List.set_cons_zero, List.set_cons_succ]
                        refine WL.val (by kernel_rfl) (.bool false) (by go_simp) ?_
                        simp only [Act.put, List.setIfInBounds_toArray, List.set_cons_zero, List.set_cons_succ]
                        refine WL.val (by kernel_rfl) (.bool true) (by go_simp) ?_
                        simp only [Act.put, List.setIfInBounds_toArray, List.set_cons_zero, List.set_cons_succ]
                        refine WL.val (by kernel_rfl) (.bool true) (by go_simp) ?_
                        simp only [Act.put, List.setIfInBounds_toArray, List.set_cons_zero, List.set_cons_succ]
                        refine WL.nil ?_
                        refine hK127 _ _ ?_
                        refine wp_cond_true rfl ?_
                        refine wp_seq_k fun K128 hK128 => ?_
                        refine wp_region_list (WL.out ?_)
                        refine WL.val (by kernel_rfl) (.int .i64 60) (by go_simp) ?_
                        simp only [Act.put, List.setIfInBounds_toArray, List.set_cons_zero, List.set_cons_succ]
                        refine WL.nil ?_
                        refine hK128 _ _ ?_
                        refine wp_ret ?_
                        go_ret
                        first | exact ⟨by rw [HR.out]; (simp [*] <;> simp [hasI]), B2.out⟩ | exact ⟨by rw [HR.out]; (simp [*] <;> simp [hasI]), B3.out⟩ | exact ⟨by rw [HR.out]; (simp [*] <;> simp [hasI]), B4.out⟩
                      · skip
                        refine WL.val (by kernel_rfl) (.bool false) (by go_simp) ?_
                        simp only [Act.put, List.setIfInBounds_toArray, List.set_cons_zero, List.set_cons_succ]
                        refine WL.val (by kernel_rfl) (.bool false) (by go_simp) ?_
                        simp only [Act.put, List.setIfInBounds_toArray, List.set_cons_zero, List.set_cons_succ]
                        refine WL.skip (by kernel_rfl) ?_
                        simp only [Act.put, List.setIfInBounds_toArray, List.set_cons_zero, List.set_cons_succ]
                        refine WL.skip (by kernel_rfl) ?_
                        simp only [Act.put, List.setIfInBounds_toArray, List.set_cons_zero, List.set_cons_succ]
                        refine WL.val (by kernel_rfl) (.bool false) (by go_simp) ?_
                        simp only [Act.put, List.setIfInBounds_toArray, List.set_cons_zero, List.set_cons_succ]
                        refine WL.nil ?_
                        refine hK127 _ _ ?_
                        refine wp_cond_false rfl ?_
                        refine wp_skip ?_
                        refine hK126 _ _ ?_
                        refine wp_seq_k fun K129 hK129 => ?_
                        refine wp_seq_k fun K130 hK130 => ?_
                        refine wp_region_list (WL.out ?_)
                        refine WL.val (by kernel_rfl) (.int .i64 0) (by go_simp) ?_
                        simp only [Act.put, List.setIfInBounds_toArray, List.set_cons_zero, List.set_cons_succ]
                        refine WL.nil ?_
                        refine hK130 _ _ ?_
                        refine wp_block ?_
                        refine wp_loop (fun ac wr => ∃ (t : Nat) (u2 u8 u69 u70 u71 u72 u73 u74 u75 u76 u77 u78 u79 u80 u81 u82 u83 : Value), ac = { tmps := #[.agg (msA c), .pointer (some ⟨g, 0, none⟩), u2, .bool true, .bool true, .bool true, .bool false, .int .i64 (t : Int), u8, undef, .pointer (some ⟨g, 0, none⟩), .int .i64 M.k, .bool false, .bool false, .pointer (some ⟨g, 0, none⟩), .int .i64 M.k, .bool false, .bool false, .agg (msA c), .bool true, .bool true, .bool false, .pointer (some ⟨g, 1, none⟩), .slice ha M.hd.length hk, .int .i64 (M.hd.length : Int), .bool false, .bool false, .pointer (some ⟨g, 4, none⟩), .slice wa M.wt.length wk, .int .i64 (M.wt.length : Int), .bool false, .bool false, .bool false, .pointer (some ⟨g, 5, none⟩), .slice xa M.bk.length xk, .int .i64 (M.bk.length : Int), .bool false, .bool false, .pointer (some ⟨g, 0, none⟩), .int .i64 M.k, .bool false, .bool false, undef, undef, undef, undef, .bool false, .pointer (some ⟨g, 1, none⟩), .slice ha M.hd.length hk, .bool true, .pointer (some ⟨g, 4, none⟩), .slice wa M.wt.length wk, .bool true, .bool true, .bool false, .bool false, .bool true, .bool false, .bool false, .pointer (some ⟨g, 3, none⟩), .slice ba M.bl.length bk, .bool false, .pointer (some ⟨g, 0, none⟩), .int .i64 M.k, .bool false, .bool false, undef, undef, .bool false, u69, u70, u71, u72, u73, u74, u75, u76, u77, u78, u79, u80, u81, u82, u83, undef, undef, undef, undef], defers := [] } ∧ t ≤ M.bk.length ∧ wr = w4 ∧ Keep (∀ j, j < t → 0 < (M.bk.getD j []).length ∧ (M.bk.getD j []).length ≤ 1048576)) (fun a _ => M.bk.length - (intOf (a.tmps.getD 7 undef)).toNat) ⟨0, .int .i64 0, undef, undef, undef, undef, undef, undef, undef, undef, undef, undef, undef, undef, undef, undef, undef, undef, rfl, by omega, rfl, ⟨fun j hj => by omega⟩⟩ ?_
                        rintro ac wr ⟨t, u2, u8, u69, u70, u71, u72, u73, u74, u75, u76, u77, u78, u79, u80, u81, u82, u83, rfl, ht, hwr, HK⟩
                        subst wr
                        by_cases hlt : t < M.bk.length
                        · have hlt' : (t : Int) < (M.bk.length : Int) := by omega
                          have hwt1 : IntKind.i64.wrap ((t : Int) + 1) = (t : Int) + 1 := by rw [IntKind.wrap_i64]; omega
                          obtain ⟨qb, ob, ya, yc, hxa, _, hcl, hrow⟩ := RwsAt.at (by have h := HA4.out.bk; rw [E5.out] at h; exact h) t hlt
                          subst hxa
                          have Hrow := Keep.mk hrow
                          clear hrow
                          by_cases hrk : 0 < (M.bk.getD t []).length ∧ (M.bk.getD t []).length ≤ 1048576
                          · have HC7 := Keep.mk (row_any _ _ w4 Hrow.out (HOk.out.rows t hlt))
                            rw [decide_eq_true hrk] at HC7
                            have HRx := Keep.mk hrk
                            clear hrk
                            obtain ⟨nr, hnr⟩ : ∃ nr, nr = (M.bk.getD t []).length := ⟨_, rfl⟩
                            rw [← hnr] at hcl HC7
                            clear hnr
                            refine wp_seq_k fun K131 hK131 => ?_
                            refine wp_seq_k fun K132 hK132 => ?_
                            refine wp_region_list (WL.out ?_)
                            refine WL.val (by kernel_rfl) (.int .i64 (t : Int)) (by go_simp) ?_
                            simp only [Act.put, List.setIfInBounds_toArray, List.set_cons_zero, List.set_cons_succ]
                            refine WL.val (by kernel_rfl) (.pointer (some ⟨g, 5, none⟩)) (by go_simp) ?_
                            simp only [Act.put, List.setIfInBounds_toArray, List.set_cons_zero, List.set_cons_succ]
                            refine WL.val (by kernel_rfl) (.slice (some ⟨qb, ob, none⟩) M.bk.length xk) (by go_simp) ?_
                            simp only [Act.put, List.setIfInBounds_toArray, List.set_cons_zero, List.set_cons_succ]
                            refine WL.val (by kernel_rfl) (.int .i64 (M.bk.length : Int)) (by go_simp) ?_
                            simp only [Act.put, List.setIfInBounds_toArray, List.set_cons_zero, List.set_cons_succ]
                            refine WL.val (by kernel_rfl) (.bool true) (by go_simp) ?_
                            simp only [Act.put, List.setIfInBounds_toArray, List.set_cons_zero, List.set_cons_succ]
                            refine WL.nil ?_
                            refine hK132 _ _ ?_
                            refine wp_cond_true rfl ?_
                            refine wp_skip ?_
                            refine hK131 _ _ ?_
                            refine wp_seq_k fun K133 hK133 => ?_
                            refine wp_block ?_
                            refine wp_seq_k fun K134 hK134 => ?_
                            refine wp_region_list (WL.out ?_)
                            refine WL.val (by kernel_rfl) (.pointer (some ⟨g, 5, none⟩)) (by go_simp) ?_
                            simp only [Act.put, List.setIfInBounds_toArray, List.set_cons_zero, List.set_cons_succ]
                            refine WL.val (by kernel_rfl) (.slice (some ⟨qb, ob, none⟩) M.bk.length xk) (by go_simp) ?_
                            simp only [Act.put, List.setIfInBounds_toArray, List.set_cons_zero, List.set_cons_succ]
                            refine WL.val (by kernel_rfl) (.int .i64 (t : Int)) (by go_simp) ?_
                            simp only [Act.put, List.setIfInBounds_toArray, List.set_cons_zero, List.set_cons_succ]
                            refine WL.val (by kernel_rfl) (.pointer (some ⟨qb, ob + t, none⟩)) (by go_simp) ?_
                            simp only [Act.put, List.setIfInBounds_toArray, List.set_cons_zero, List.set_cons_succ]
                            refine WL.val (by kernel_rfl) (.slice ya nr yc) (by go_simp) ?_
                            simp only [Act.put, List.setIfInBounds_toArray, List.set_cons_zero, List.set_cons_succ]
                            refine WL.callF (by kernel_rfl) 49 _ _ rfl Try.in49 #[.slice ya nr yc] (by simp [Act.eval]) ?_
                            refine (HC7.out).mono ?_
                            rintro e w0 ⟨rfl, hw0⟩
                            rw [hw0]
                            clear hw0 w0
                            refine ⟨_, rfl, ?_⟩
                            simp only [Act.put, List.setIfInBounds_toArray, List.set_cons_zero, List.set_cons_succ]
                            refine WL.val (by kernel_rfl) (.bool true) (by go_simp) ?_
                            simp only [Act.put, List.setIfInBounds_toArray, List.set_cons_zero, List.set_cons_succ]
                            refine WL.nil ?_
                            refine hK134 _ _ ?_
                            refine wp_seq_k fun K135 hK135 => ?_
                            refine wp_region_list (WL.out ?_)
                            refine WL.val (by kernel_rfl) (.bool true) (by go_simp) ?_
                            simp only [Act.put, List.setIfInBounds_toArray, List.set_cons_zero, List.set_cons_succ]
                            refine WL.val (by kernel_rfl) (.bool false) (by go_simp) ?_
                            simp only [Act.put, List.setIfInBounds_toArray, List.set_cons_zero, List.set_cons_succ]
                            refine WL.nil ?_
                            refine hK135 _ _ ?_
                            refine wp_cond_false rfl ?_
                            refine wp_skip ?_
                            refine hK133 _ _ ?_
                            refine wp_region_list (WL.out ?_)
                            refine WL.val (by kernel_rfl) (.int .i64 (t : Int)) (by go_simp) ?_
                            simp only [Act.put, List.setIfInBounds_toArray, List.set_cons_zero, List.set_cons_succ]
                            refine WL.val (by kernel_rfl) (.int .i64 ((t : Int) + 1)) (by go_simp) ?_
                            simp only [Act.put, List.setIfInBounds_toArray, List.set_cons_zero, List.set_cons_succ]
                            refine WL.val (by kernel_rfl) (.int .i64 ((t : Int) + 1)) (by go_simp) ?_
                            simp only [Act.put, List.setIfInBounds_toArray, List.set_cons_zero, List.set_cons_succ]
                            refine WL.nil ?_
                            refine ⟨⟨t + 1, u2, .bool true, .int .i64 (t : Int), .pointer (some ⟨g, 5, none⟩), .slice (some ⟨qb, ob, none⟩) M.bk.length xk, .int .i64 (M.bk.length : Int), .bool true, .int .i64 (t : Int), .int .i64 ((t : Int) + 1), .pointer (some ⟨g, 5, none⟩), .slice (some ⟨qb, ob, none⟩) M.bk.length xk, .int .i64 (t : Int), .pointer (some ⟨qb, ob + t, none⟩), .slice ya nr yc, .bool true, .bool true, .bool false, rfl, by omega, rfl, ⟨fun j hj => by rcases Nat.lt_or_eq_of_le (Nat.le_of_lt_succ hj) with h2 | h2; exact HK.out j h2; rw [h2]; exact HRx.out⟩⟩, by simp [intOf]; omega⟩
                          · have HC7 := Keep.mk (row_any _ _ w4 Hrow.out (HOk.out.rows t hlt))
                            rw [decide_eq_false hrk] at HC7
                            have HRx := Keep.mk hrk
                            clear hrk
                            obtain ⟨nr, hnr⟩ : ∃ nr, nr = (M.bk.getD t []).length := ⟨_, rfl⟩
                            rw [← hnr] at hcl HC7
                            clear hnr
                            have hO : okR M.bk = false := by rw [Bool.eq_false_iff]; intro h2; exact HRx.out ((okR_iff _).1 h2 t hlt)
                            refine wp_seq_k fun K136 hK136 => ?_
                            refine wp_seq_k fun K137 hK137 => ?_
                            refine wp_region_list (WL.out ?_)
                            refine WL.val (by kernel_rfl) (.int .i64 (t : Int)) (by go_simp) ?_
                            simp only [Act.put, List.setIfInBounds_toArray, List.set_cons_zero, List.set_cons_succ]
                            refine WL.val (by kernel_rfl) (.pointer (some ⟨g, 5, none⟩)) (by go_simp) ?_
                            simp only [Act.put, List.setIfInBounds_toArray, List.set_cons_zero, List.set_cons_succ]
                            refine WL.val (by kernel_rfl) (.slice (some ⟨qb, ob, none⟩) M.bk.length xk) (by go_simp) ?_
                            simp only [Act.put, List.setIfInBounds_toArray, List.set_cons_zero, List.set_cons_succ]
                            refine WL.val (by kernel_rfl) (.int .i64 (M.bk.length : Int)) (by go_simp) ?_
                            simp only [Act.put, List.setIfInBounds_toArray, List.set_cons_zero, List.set_cons_succ]
                            refine WL.val (by kernel_rfl) (.bool true) (by go_simp) ?_
                            simp only [Act.put, List.setIfInBounds_toArray, List.set_cons_zero, List.set_cons_succ]
                            refine WL.nil ?_
                            refine hK137 _ _ ?_
                            refine wp_cond_true rfl ?_
                            refine wp_skip ?_
                            refine hK136 _ _ ?_
                            refine wp_seq_k fun K138 hK138 => ?_
                            refine wp_block ?_
                            refine wp_seq_k fun K139 hK139 => ?_
                            refine wp_region_list (WL.out ?_)
                            refine WL.val (by kernel_rfl) (.pointer (some ⟨g, 5, none⟩)) (by go_simp) ?_
                            simp only [Act.put, List.setIfInBounds_toArray, List.set_cons_zero, List.set_cons_succ]
                            refine WL.val (by kernel_rfl) (.slice (some ⟨qb, ob, none⟩) M.bk.length xk) (by go_simp) ?_
                            simp only [Act.put, List.setIfInBounds_toArray, List.set_cons_zero, List.set_cons_succ]
                            refine WL.val (by kernel_rfl) (.int .i64 (t : Int)) (by go_simp) ?_
                            simp only [Act.put, List.setIfInBounds_toArray, List.set_cons_zero, List.set_cons_succ]
                            refine WL.val (by kernel_rfl) (.pointer (some ⟨qb, ob + t, none⟩)) (by go_simp) ?_
                            simp only [Act.put, List.setIfInBounds_toArray, List.set_cons_zero, List.set_cons_succ]
                            refine WL.val (by kernel_rfl) (.slice ya nr yc) (by go_simp) ?_
                            simp only [Act.put, List.setIfInBounds_toArray, List.set_cons_zero, List.set_cons_succ]
                            refine WL.callF (by kernel_rfl) 49 _ _ rfl Try.in49 #[.slice ya nr yc] (by simp [Act.eval]) ?_
                            refine (HC7.out).mono ?_
                            rintro e w0 ⟨rfl, hw0⟩
                            rw [hw0]
                            clear hw0 w0
                            refine ⟨_, rfl, ?_⟩
                            simp only [Act.put, List.setIfInBounds_toArray, List.set_cons_zero, List.set_cons_succ]
                            refine WL.val (by kernel_rfl) (.bool false) (by go_simp) ?_
                            simp only [Act.put, List.setIfInBounds_toArray, List.set_cons_zero, List.set_cons_succ]
                            refine WL.nil ?_
                            refine hK139 _ _ ?_
                            refine wp_seq_k fun K140 hK140 => ?_
                            refine wp_region_list (WL.out ?_)
                            refine WL.val (by kernel_rfl) (.bool false) (by go_simp) ?_
                            simp only [Act.put, List.setIfInBounds_toArray, List.set_cons_zero, List.set_cons_succ]
                            refine WL.val (by kernel_rfl) (.bool true) (by go_simp) ?_
                            simp only [Act.put, List.setIfInBounds_toArray, List.set_cons_zero, List.set_cons_succ]
                            refine WL.nil ?_
                            refine hK140 _ _ ?_
                            refine wp_cond_true rfl ?_
                            refine wp_seq_k fun K141 hK141 => ?_
                            refine wp_region_list (WL.out ?_)
                            refine WL.val (by kernel_rfl) (.int .i64 4) (by go_simp) ?_
                            simp only [Act.put, List.setIfInBounds_toArray, List.set_cons_zero, List.set_cons_succ]
                            refine WL.nil ?_
                            refine hK141 _ _ ?_
                            refine wp_ret ?_
                            go_ret
                            first | exact ⟨by rw [HR.out]; (simp [*] <;> simp [hasI]), B2.out⟩ | exact ⟨by rw [HR.out]; (simp [*] <;> simp [hasI]), B3.out⟩ | exact ⟨by rw [HR.out]; (simp [*] <;> simp [hasI]), B4.out⟩
                        · have htl' : ¬ (t : Int) < (M.bk.length : Int) := by omega
                          have hO : okR M.bk = true := (okR_iff _).2 fun i hi => HK.out i (by omega)
                          refine wp_seq_k fun K142 hK142 => ?_
                          refine wp_seq_k fun K143 hK143 => ?_
                          refine wp_region_list (WL.out ?_)
                          refine WL.val (by kernel_rfl) (.int .i64 (t : Int)) (by go_simp) ?_
                          simp only [Act.put, List.setIfInBounds_toArray, List.set_cons_zero, List.set_cons_succ]
                          refine WL.val (by kernel_rfl) (.pointer (some ⟨g, 5, none⟩)) (by go_simp) ?_
                          simp only [Act.put, List.setIfInBounds_toArray, List.set_cons_zero, List.set_cons_succ]
                          refine WL.val (by kernel_rfl) (.slice xa M.bk.length xk) (by go_simp) ?_
                          simp only [Act.put, List.setIfInBounds_toArray, List.set_cons_zero, List.set_cons_succ]
                          refine WL.val (by kernel_rfl) (.int .i64 (M.bk.length : Int)) (by go_simp) ?_
                          simp only [Act.put, List.setIfInBounds_toArray, List.set_cons_zero, List.set_cons_succ]
                          refine WL.val (by kernel_rfl) (.bool false) (by go_simp) ?_
                          simp only [Act.put, List.setIfInBounds_toArray, List.set_cons_zero, List.set_cons_succ]
                          refine WL.nil ?_
                          refine hK143 _ _ ?_
                          refine wp_cond_false rfl ?_
                          refine wp_exit ?_
                          refine hK129 _ _ ?_
                          refine wp_seq_k fun K144 hK144 => ?_
                          have hPk : M.k = 1 → isP (M.bl.length : Int) = true := fun h => absurd h (by assumption)
                          have HSz := Keep.mk (size_msg M c w4 HA4.out (by omega) (by omega) (by omega) (fun h => by have := isP_rng (hPk h); omega) hO HOk.out.bl)
                          refine wp_region_list (WL.out ?_)
                          refine WL.row (by kernel_rfl) 28 (.tmp 1) rfl g rfl 28 (msA c) _ HM4.out Try.underlying28 rfl (Try.size28B _) ?_
                          simp only [Act.put, List.setIfInBounds_toArray, List.set_cons_zero, List.set_cons_succ]
                          refine WL.callF (by kernel_rfl) 61 _ _ rfl Try.in61 #[.agg (msA c)] (by simp [Act.eval]) ?_
                          refine (HSz.out).mono ?_
                          rintro e w5 ⟨sz, rfl, hy3, hy1, hb5⟩
                          refine ⟨_, rfl, ?_⟩
                          have hz3 := Keep.mk hy3
                          have hz1 := Keep.mk hy1
                          clear hy3 hy1
                          have B5 : Keep (Below w.heap.size w w5) := ⟨B4.out.trans (hb5.mono B4.out.size)⟩
                          clear hb5 HSz
                          simp only [Act.put, List.setIfInBounds_toArray, List.set_cons_zero, List.set_cons_succ]
                          refine WL.val (by kernel_rfl) (.int .i64 (sz : Int)) (by go_simp) ?_
                          simp only [Act.put, List.setIfInBounds_toArray, List.set_cons_zero, List.set_cons_succ]
                          refine WL.nil ?_
                          refine hK144 _ _ ?_
                          refine wp_seq_k fun K145 hK145 => ?_
                          refine wp_seq_k fun K146 hK146 => ?_
                          refine wp_region_list (WL.out ?_)
                          refine WL.val (by kernel_rfl) (.int .i64 (sz : Int)) (by go_simp) ?_
                          simp only [Act.put, List.setIfInBounds_toArray, List.set_cons_zero, List.set_cons_succ]
                          by_cases h24_1 : 2097152 < sz
                          · have h24_1i : (2097152 : Int) < (sz : Int) := by omega
                            refine WL.val (by kernel_rfl) (.bool true) (by go_simp) ?_
                            simp only [Act.put, List.setIfInBounds_toArray, List.set_cons_zero, List.set_cons_succ]
                            refine WL.nil ?_
                            refine hK146 _ _ ?_
                            refine wp_cond_true rfl ?_
                            refine wp_seq_k fun K147 hK147 => ?_
                            refine wp_region_list (WL.out ?_)
                            refine WL.val (by kernel_rfl) (.int .i64 4) (by go_simp) ?_
                            simp only [Act.put, List.setIfInBounds_toArray, List.set_cons_zero, List.set_cons_succ]
                            refine WL.nil ?_
                            refine hK147 _ _ ?_
                            refine wp_ret ?_
                            go_ret
                            exact absurd (hz1.out (by assumption)) (by omega)
                          · have h24_1i : ¬ (2097152 : Int) < (sz : Int) := by omega
                            refine WL.val (by kernel_rfl) (.bool false) (by go_simp) ?_
                            simp only [Act.put, List.setIfInBounds_toArray, List.set_cons_zero, List.set_cons_succ]
                            refine WL.nil ?_
                            refine hK146 _ _ ?_
                            refine wp_cond_false rfl ?_
                            refine wp_skip ?_
                            refine hK145 _ _ ?_
                            refine wp_seq_k fun K148 hK148 => ?_
                            refine wp_region_list (WL.out ?_)
                            refine WL.val (by kernel_rfl) (.int .i64 0) (by go_simp) ?_
                            simp only [Act.put, List.setIfInBounds_toArray, List.set_cons_zero, List.set_cons_succ]
                            refine WL.nil ?_
                            refine hK148 _ _ ?_
                            refine wp_ret ?_
                            go_ret
                            have hF : ¬ fit M.bk < M.bk.length := by
                              have hbe : M.bk = [] := bk_nil hkne hB (by assumption)
                              rw [hbe]; simp
                            exact ⟨by rw [HR.out]; (simp [*] <;> simp [hasI]), B5.out⟩
                  · have HC4 := Keep.mk (Sh.refRising_any (.slice wa M.wt.length wk) M.wt w3 (by have h := HA3.out.wt; rw [E4.out] at h; exact h) (by omega))
                    rw [hD] at HC4
                    refine wp_region_list (WL.out ?_)
                    refine WL.val (by kernel_rfl) (.pointer (some ⟨g, 4, none⟩)) (by go_simp) ?_
                    simp only [Act.put, List.setIfInBounds_toArray, List.set_cons_zero, List.set_cons_succ]
                    refine WL.val (by kernel_rfl) (.slice wa M.wt.length wk) (by go_simp) ?_
                    simp only [Act.put, List.setIfInBounds_toArray, List.set_cons_zero, List.set_cons_succ]
                    refine WL.callF (by kernel_rfl) 60 _ _ rfl Try.in60 #[.slice wa M.wt.length wk] (by simp [Act.eval]) ?_
                    refine (HC4.out).mono ?_
                    rintro e w4 ⟨rfl, hb4⟩
                    refine ⟨_, rfl, ?_⟩
                    clear HC4
                    have HM4 := Keep.mk (HM3.out.below hb4 HM3.out.lt)
                    have HA4 := Keep.mk (HA3.out.below hb4)
                    have B4 : Keep (Below w.heap.size w w4) := ⟨B3.out.trans (hb4.mono B3.out.size)⟩
                    clear d0 d1 d3 d4 d5 hb4
                    have d0 := HM4.out.c 0 (ms_0 c)
                    have d1 := HM4.out.c 1 (ms_1 c)
                    have d3 := HM4.out.c 3 (ms_3 c)
                    have d4 := HM4.out.c 4 (ms_4 c)
                    have d5 := HM4.out.c 5 (ms_5 c)
                    rw [Ek.out] at d0
                    rw [E1.out] at d1
                    rw [E3.out] at d3
                    rw [E4.out] at d4
                    rw [E5.out] at d5
                    simp only [Act.put, List.setIfInBounds_toArray, List.set_cons_zero, List.set_cons_succ]
                    refine WL.val (by kernel_rfl) (.bool false) (by go_simp) ?_
                    simp only [Act.put, List.setIfInBounds_toArray, List.set_cons_zero, List.set_cons_succ]
                    refine WL.nil ?_
                    refine hK80 _ _ ?_
                    refine wp_seq_k fun K149 hK149 => ?_
                    refine wp_seq_k fun K150 hK150 => ?_
                    refine wp_region_list (WL.out ?_)
                    refine WL.val (by kernel_rfl) (.bool true) (by go_simp) ?_
                    simp only [Act.put, List.setIfInBounds_toArray, List.set_cons_zero, List.set_cons_succ]
                    refine WL.val (by kernel_rfl) (.bool false) (by go_simp) ?_
                    simp only [Act.put, List.setIfInBounds_toArray, List.set_cons_zero, List.set_cons_succ]
                    refine WL.val (by kernel_rfl) (.bool false) (by go_simp) ?_
                    simp only [Act.put, List.setIfInBounds_toArray, List.set_cons_zero, List.set_cons_succ]
                    refine WL.val (by kernel_rfl) (.bool false) (by go_simp) ?_
                    simp only [Act.put, List.setIfInBounds_toArray, List.set_cons_zero, List.set_cons_succ]
                    refine WL.val (by kernel_rfl) (.bool true) (by go_simp) ?_
                    simp only [Act.put, List.setIfInBounds_toArray, List.set_cons_zero, List.set_cons_succ]
                    refine WL.val (by kernel_rfl) (.bool true) (by go_simp) ?_
                    simp only [Act.put, List.setIfInBounds_toArray, List.set_cons_zero, List.set_cons_succ]
                    refine WL.nil ?_
                    refine hK150 _ _ ?_
                    refine wp_cond_true rfl ?_
                    refine wp_seq_k fun K151 hK151 => ?_
                    refine wp_region_list (WL.out ?_)
                    refine WL.val (by kernel_rfl) (.int .i64 130) (by go_simp) ?_
                    simp only [Act.put, List.setIfInBounds_toArray, List.set_cons_zero, List.set_cons_succ]
                    refine WL.nil ?_
                    refine hK151 _ _ ?_
                    refine wp_ret ?_
                    go_ret
                    first | exact ⟨by rw [HR.out]; (simp [*] <;> simp [hasI]), B2.out⟩ | exact ⟨by rw [HR.out]; (simp [*] <;> simp [hasI]), B3.out⟩ | exact ⟨by rw [HR.out]; (simp [*] <;> simp [hasI]), B4.out⟩
                · have HC3 := Keep.mk (Sh.refRising_any (.slice ha M.hd.length hk) M.hd w2 (by have h := HA2.out.hd; rw [E1.out] at h; exact h) (by omega))
                  rw [hC] at HC3
                  refine wp_region_list (WL.out ?_)
                  refine WL.val (by kernel_rfl) (.pointer (some ⟨g, 1, none⟩)) (by go_simp) ?_
                  simp only [Act.put, List.setIfInBounds_toArray, List.set_cons_zero, List.set_cons_succ]
                  refine WL.val (by kernel_rfl) (.slice ha M.hd.length hk) (by go_simp) ?_
                  simp only [Act.put, List.setIfInBounds_toArray, List.set_cons_zero, List.set_cons_succ]
                  refine WL.callF (by kernel_rfl) 60 _ _ rfl Try.in60 #[.slice ha M.hd.length hk] (by simp [Act.eval]) ?_
                  refine (HC3.out).mono ?_
                  rintro e w3 ⟨rfl, hb3⟩
                  refine ⟨_, rfl, ?_⟩
                  clear HC3
                  have HM3 := Keep.mk (HM2.out.below hb3 HM2.out.lt)
                  have HA3 := Keep.mk (HA2.out.below hb3)
                  have B3 : Keep (Below w.heap.size w w3) := ⟨B2.out.trans (hb3.mono B2.out.size)⟩
                  clear d0 d1 d3 d4 d5 hb3
                  have d0 := HM3.out.c 0 (ms_0 c)
                  have d1 := HM3.out.c 1 (ms_1 c)
                  have d3 := HM3.out.c 3 (ms_3 c)
                  have d4 := HM3.out.c 4 (ms_4 c)
                  have d5 := HM3.out.c 5 (ms_5 c)
                  rw [Ek.out] at d0
                  rw [E1.out] at d1
                  rw [E3.out] at d3
                  rw [E4.out] at d4
                  rw [E5.out] at d5
                  simp only [Act.put, List.setIfInBounds_toArray, List.set_cons_zero, List.set_cons_succ]
                  refine WL.val (by kernel_rfl) (.bool false) (by go_simp) ?_
                  simp only [Act.put, List.setIfInBounds_toArray, List.set_cons_zero, List.set_cons_succ]
                  refine WL.nil ?_
                  refine hK79 _ _ ?_
                  refine wp_seq_k fun K152 hK152 => ?_
                  rcases Bool.eq_false_or_eq_true (Sh.risesB M.wt) with hD | hD
                  · have HC4 := Keep.mk (Sh.refRising_any (.slice wa M.wt.length wk) M.wt w3 (by have h := HA3.out.wt; rw [E4.out] at h; exact h) (by omega))
                    rw [hD] at HC4
                    refine wp_region_list (WL.out ?_)
                    refine WL.val (by kernel_rfl) (.pointer (some ⟨g, 4, none⟩)) (by go_simp) ?_
                    simp only [Act.put, List.setIfInBounds_toArray, List.set_cons_zero, List.set_cons_succ]
                    refine WL.val (by kernel_rfl) (.slice wa M.wt.length wk) (by go_simp) ?_
                    simp only [Act.put, List.setIfInBounds_toArray, List.set_cons_zero, List.set_cons_succ]
                    refine WL.callF (by kernel_rfl) 60 _ _ rfl Try.in60 #[.slice wa M.wt.length wk] (by simp [Act.eval]) ?_
                    refine (HC4.out).mono ?_
                    rintro e w4 ⟨rfl, hb4⟩
                    refine ⟨_, rfl, ?_⟩
                    clear HC4
                    have HM4 := Keep.mk (HM3.out.below hb4 HM3.out.lt)
                    have HA4 := Keep.mk (HA3.out.below hb4)
                    have B4 : Keep (Below w.heap.size w w4) := ⟨B3.out.trans (hb4.mono B3.out.size)⟩
                    clear d0 d1 d3 d4 d5 hb4
                    have d0 := HM4.out.c 0 (ms_0 c)
                    have d1 := HM4.out.c 1 (ms_1 c)
                    have d3 := HM4.out.c 3 (ms_3 c)
                    have d4 := HM4.out.c 4 (ms_4 c)
                    have d5 := HM4.out.c 5 (ms_5 c)
                    rw [Ek.out] at d0
                    rw [E1.out] at d1
                    rw [E3.out] at d3
                    rw [E4.out] at d4
                    rw [E5.out] at d5
                    simp only [Act.put, List.setIfInBounds_toArray, List.set_cons_zero, List.set_cons_succ]
                    refine WL.val (by kernel_rfl) (.bool true) (by go_simp) ?_
                    simp only [Act.put, List.setIfInBounds_toArray, List.set_cons_zero, List.set_cons_succ]
                    refine WL.nil ?_
                    refine hK152 _ _ ?_
                    refine wp_seq_k fun K153 hK153 => ?_
                    refine wp_seq_k fun K154 hK154 => ?_
                    refine wp_region_list (WL.out ?_)
                    refine WL.val (by kernel_rfl) (.bool false) (by go_simp) ?_
                    simp only [Act.put, List.setIfInBounds_toArray, List.set_cons_zero, List.set_cons_succ]
                    refine WL.val (by kernel_rfl) (.bool true) (by go_simp) ?_
                    simp only [Act.put, List.setIfInBounds_toArray, List.set_cons_zero, List.set_cons_succ]
                    refine WL.val (by kernel_rfl) (.bool true) (by go_simp) ?_
                    simp only [Act.put, List.setIfInBounds_toArray, List.set_cons_zero, List.set_cons_succ]
                    refine WL.skip (by kernel_rfl) ?_
                    simp only [Act.put, List.setIfInBounds_toArray, List.set_cons_zero, List.set_cons_succ]
                    refine WL.skip (by kernel_rfl) ?_
                    simp only [Act.put, List.setIfInBounds_toArray, List.set_cons_zero, List.set_cons_succ]
                    refine WL.val (by kernel_rfl) (.bool true) (by go_simp) ?_
                    simp only [Act.put, List.setIfInBounds_toArray, List.set_cons_zero, List.set_cons_succ]
                    refine WL.nil ?_
                    refine hK154 _ _ ?_
                    refine wp_cond_true rfl ?_
                    refine wp_seq_k fun K155 hK155 => ?_
                    refine wp_region_list (WL.out ?_)
                    refine WL.val (by kernel_rfl) (.int .i64 130) (by go_simp) ?_
                    simp only [Act.put, List.setIfInBounds_toArray, List.set_cons_zero, List.set_cons_succ]
                    refine WL.nil ?_
                    refine hK155 _ _ ?_
                    refine wp_ret ?_
                    go_ret
                    first | exact ⟨by rw [HR.out]; (simp [*] <;> simp [hasI]), B2.out⟩ | exact ⟨by rw [HR.out]; (simp [*] <;> simp [hasI]), B3.out⟩ | exact ⟨by rw [HR.out]; (simp [*] <;> simp [hasI]), B4.out⟩
                  · have HC4 := Keep.mk (Sh.refRising_any (.slice wa M.wt.length wk) M.wt w3 (by have h := HA3.out.wt; rw [E4.out] at h; exact h) (by omega))
                    rw [hD] at HC4
                    refine wp_region_list (WL.out ?_)
                    refine WL.val (by kernel_rfl) (.pointer (some ⟨g, 4, none⟩)) (by go_simp) ?_
                    simp only [Act.put, List.setIfInBounds_toArray, List.set_cons_zero, List.set_cons_succ]
                    refine WL.val (by kernel_rfl) (.slice wa M.wt.length wk) (by go_simp) ?_
                    simp only [Act.put, List.setIfInBounds_toArray, List.set_cons_zero, List.set_cons_succ]
                    refine WL.callF (by kernel_rfl) 60 _ _ rfl Try.in60 #[.slice wa M.wt.length wk] (by simp [Act.eval]) ?_
                    refine (HC4.out).mono ?_
                    rintro e w4 ⟨rfl, hb4⟩
                    refine ⟨_, rfl, ?_⟩
                    clear HC4
                    have HM4 := Keep.mk (HM3.out.below hb4 HM3.out.lt)
                    have HA4 := Keep.mk (HA3.out.below hb4)
                    have B4 : Keep (Below w.heap.size w w4) := ⟨B3.out.trans (hb4.mono B3.out.size)⟩
                    clear d0 d1 d3 d4 d5 hb4
                    have d0 := HM4.out.c 0 (ms_0 c)
                    have d1 := HM4.out.c 1 (ms_1 c)
                    have d3 := HM4.out.c 3 (ms_3 c)
                    have d4 := HM4.out.c 4 (ms_4 c)
                    have d5 := HM4.out.c 5 (ms_5 c)
                    rw [Ek.out] at d0
                    rw [E1.out] at d1
                    rw [E3.out] at d3
                    rw [E4.out] at d4
                    rw [E5.out] at d5
                    simp only [Act.put, List.setIfInBounds_toArray, List.set_cons_zero, List.set_cons_succ]
                    refine WL.val (by kernel_rfl) (.bool false) (by go_simp) ?_
                    simp only [Act.put, List.setIfInBounds_toArray, List.set_cons_zero, List.set_cons_succ]
                    refine WL.nil ?_
                    refine hK152 _ _ ?_
                    refine wp_seq_k fun K156 hK156 => ?_
                    refine wp_seq_k fun K157 hK157 => ?_
                    refine wp_region_list (WL.out ?_)
                    refine WL.val (by kernel_rfl) (.bool false) (by go_simp) ?_
                    simp only [Act.put, List.setIfInBounds_toArray, List.set_cons_zero, List.set_cons_succ]
                    refine WL.val (by kernel_rfl) (.bool true) (by go_simp) ?_
                    simp only [Act.put, List.setIfInBounds_toArray, List.set_cons_zero, List.set_cons_succ]
                    refine WL.val (by kernel_rfl) (.bool true) (by go_simp) ?_
                    simp only [Act.put, List.setIfInBounds_toArray, List.set_cons_zero, List.set_cons_succ]
                    refine WL.skip (by kernel_rfl) ?_
                    simp only [Act.put, List.setIfInBounds_toArray, List.set_cons_zero, List.set_cons_succ]
                    refine WL.skip (by kernel_rfl) ?_
                    simp only [Act.put, List.setIfInBounds_toArray, List.set_cons_zero, List.set_cons_succ]
                    refine WL.val (by kernel_rfl) (.bool true) (by go_simp) ?_
                    simp only [Act.put, List.setIfInBounds_toArray, List.set_cons_zero, List.set_cons_succ]
                    refine WL.nil ?_
                    refine hK157 _ _ ?_
                    refine wp_cond_true rfl ?_
                    refine wp_seq_k fun K158 hK158 => ?_
                    refine wp_region_list (WL.out ?_)
                    refine WL.val (by kernel_rfl) (.int .i64 130) (by go_simp) ?_
                    simp only [Act.put, List.setIfInBounds_toArray, List.set_cons_zero, List.set_cons_succ]
                    refine WL.nil ?_
                    refine hK158 _ _ ?_
                    refine wp_ret ?_
                    go_ret
                    first | exact ⟨by rw [HR.out]; (simp [*] <;> simp [hasI]), B2.out⟩ | exact ⟨by rw [HR.out]; (simp [*] <;> simp [hasI]), B3.out⟩ | exact ⟨by rw [HR.out]; (simp [*] <;> simp [hasI]), B4.out⟩
theorem Try.in30 (w : World) (vs : Array Value) : (callFunc 30 vs).run Try.prog w = .ok (.enter 30 vs) w := by kernel_rfl
theorem Try.in32 (w : World) (vs : Array Value) : (callFunc 32 vs).run Try.prog w = .ok (.enter 32 vs) w := by kernel_rfl
theorem Try.in62 (w : World) (vs : Array Value) : (callFunc 62 vs).run Try.prog w = .ok (.enter 62 vs) w := by kernel_rfl
structure OB (w0 : World) (v : Value) (l : List Int) (w1 : World) : Prop where
  own : Own w1 v l
  new : ∀ k, v.ownBlock = some k → w0.heap.size ≤ k
  bel : Below w0.heap.size w0 w1
theorem OB.step {w0 w1 w2 : World} {v v' : Value} {l l' : List Int} (h : OB w0 v l w1) (h1 : Own w2 v' l') (h2 : Moved w1 v v') (h3 : Grown w1 w2 fun k => v.ownBlock = some k) : OB w0 v' l' w2 where
  own := h1
  new := fun k hk => by
    rcases h2 with e | ⟨j, e1, e2⟩
    · rw [e] at hk; exact h.new k hk
    · rw [e1] at hk; cases hk; exact Nat.le_trans h.bel.size e2
  bel := h.bel.trans (h3.to_below (fun k hk e => by have := h.new k e; omega) h.bel.size)
set_option maxRecDepth 8000 in
set_option maxHeartbeats 2000000 in
theorem rhashes_any (v : Value) (L : List Int) (vl : Value) (l : List Hs) (w0 w : World) (h : OB w0 v L w) (hr : Sh.HRow w0 vl l) (hn : l.length ≤ 140737488355328) (hl : (L ++ hsL l).length ≤ 140737488355328) :
    Calls Try.prog 30 #[v, vl] w fun e w' => ∃ v', e = .returned v' ∧ OB w0 v' (L ++ hsL l) w' := by
  obtain ⟨pa, pc, rfl⟩ := hr.form
  have HO := Keep.mk h
  have HR := Keep.mk hr
  have HN := Keep.mk hn
  have HL := Keep.mk hl
  have hw6 : IntKind.u64.wrap (l.length : Int) = (l.length : Int) := by rw [IntKind.wrap_u64]; omega
  clear h hr hl
  go_enter Try.func30, Try.ntmps30
  refine wp_seq_k fun K1 hK1 => ?_
  refine wp_region_list (WL.out ?_)
  refine WL.val (by kernel_rfl) (.slice none 0 0) (by go_simp) ?_
  simp only [Act.put, List.setIfInBounds_toArray, List.set_cons_zero, List.set_cons_succ]
  refine WL.nil ?_
  refine hK1 _ _ ?_
  refine wp_seq_k fun K2 hK2 => ?_
  refine wp_region_list (WL.out ?_)
  refine WL.val (by kernel_rfl) (v) (by go_simp) ?_
  simp only [Act.put, List.setIfInBounds_toArray, List.set_cons_zero, List.set_cons_succ]
  refine WL.val (by kernel_rfl) (.slice pa l.length pc) (by go_simp) ?_
  simp only [Act.put, List.setIfInBounds_toArray, List.set_cons_zero, List.set_cons_succ]
  refine WL.val (by kernel_rfl) (.int .i64 (l.length : Int)) (by go_simp) ?_
  simp only [Act.put, List.setIfInBounds_toArray, List.set_cons_zero, List.set_cons_succ]
  refine WL.val (by kernel_rfl) (.int .u64 (l.length : Int)) (by go_simp) ?_
  simp only [Act.put, List.setIfInBounds_toArray, List.set_cons_zero, List.set_cons_succ]
  refine WL.callF (by kernel_rfl) 32 _ _ rfl Try.in32 #[v, .int .u64 (l.length : Int)] (by simp [Act.eval]) ?_
  refine (rnum_any v L l.length w HO.out.own (by have := HN.out; omega) (by have := HL.out; rw [hsL, List.length_append, List.length_append] at this; omega)).mono ?_
  rintro e w1 ⟨v1, rfl, h1, h2, h3⟩
  refine ⟨_, rfl, ?_⟩
  have HO1 : Keep (OB w0 v1 (L ++ (numL l.length ++ (l.take 0).flatMap hB)) w1) := ⟨by simpa using HO.out.step h1 h2 h3⟩
  clear h1 h2 h3
  simp only [Act.put, List.setIfInBounds_toArray, List.set_cons_zero, List.set_cons_succ]
  refine WL.val (by kernel_rfl) (v1) (by go_simp) ?_
  simp only [Act.put, List.setIfInBounds_toArray, List.set_cons_zero, List.set_cons_succ]
  refine WL.nil ?_
  refine hK2 _ _ ?_
  refine wp_seq_k fun K3 hK3 => ?_
  refine wp_seq_k fun K4 hK4 => ?_
  refine wp_region_list (WL.out ?_)
  refine WL.val (by kernel_rfl) (.int .i64 0) (by go_simp) ?_
  simp only [Act.put, List.setIfInBounds_toArray, List.set_cons_zero, List.set_cons_succ]
  refine WL.nil ?_
  refine hK4 _ _ ?_
  refine wp_block ?_
  refine wp_loop (fun ac wr => ∃ (t : Nat) (u0 u11 u12 u13 u14 u15 u16 u17 u18 u19 u20 u21 u22 : Value), ac = { tmps := #[u0, .slice pa l.length pc, undef, undef, .slice none 0 0, .int .i64 (t : Int), v, .slice pa l.length pc, .int .i64 (l.length : Int), .int .u64 (l.length : Int), v1, u11, u12, u13, u14, u15, u16, u17, u18, u19, u20, u21, u22, undef], defers := [] } ∧ t ≤ l.length ∧ Keep (OB w0 u0 (L ++ (numL l.length ++ (l.take t).flatMap hB)) wr)) (fun a _ => l.length - (intOf (a.tmps.getD 5 undef)).toNat) ⟨0, v1, undef, undef, undef, undef, undef, undef, undef, undef, undef, undef, undef, undef, rfl, by omega, HO1⟩ ?_
  rintro ac wr ⟨t, u0, u11, u12, u13, u14, u15, u16, u17, u18, u19, u20, u21, u22, rfl, ht, HPr⟩
  by_cases hlt : t < l.length
  · have hlt' : (t : Int) < (l.length : Int) := by omega
    have hwt : IntKind.i64.wrap ((t : Int) + 1) = (t : Int) + 1 := by rw [IntKind.wrap_i64]; have := HN.out; omega
    obtain ⟨b, o, hpa, hrg⟩ := HRow.at' HR.out t hlt (Nat.le_refl _) HPr.out.bel
    subst hpa
    have Hrg := Keep.mk hrg
    clear hrg
    obtain ⟨x, hx⟩ : ∃ x, x = l.getD t default := ⟨_, rfl⟩
    rw [← hx] at Hrg
    have Hx : Keep (l[t]? = some x) := ⟨by rw [hx, List.getD_eq_getElem?_getD, List.getElem?_eq_getElem hlt]; rfl⟩
    clear hx
    refine wp_seq_k fun K5 hK5 => ?_
    refine wp_seq_k fun K6 hK6 => ?_
    refine wp_region_list (WL.out ?_)
    refine WL.val (by kernel_rfl) (.int .i64 (t : Int)) (by go_simp) ?_
    simp only [Act.put, List.setIfInBounds_toArray, List.set_cons_zero, List.set_cons_succ]
    refine WL.val (by kernel_rfl) (.slice (some ⟨b, o, none⟩) l.length pc) (by go_simp) ?_
    simp only [Act.put, List.setIfInBounds_toArray, List.set_cons_zero, List.set_cons_succ]
    refine WL.val (by kernel_rfl) (.int .i64 (l.length : Int)) (by go_simp) ?_
    simp only [Act.put, List.setIfInBounds_toArray, List.set_cons_zero, List.set_cons_succ]
    refine WL.val (by kernel_rfl) (.bool true) (by go_simp) ?_
    simp only [Act.put, List.setIfInBounds_toArray, List.set_cons_zero, List.set_cons_succ]
    refine WL.nil ?_
    refine hK6 _ _ ?_
    refine wp_cond_true rfl ?_
    refine wp_skip ?_
    refine hK5 _ _ ?_
    refine wp_seq_k fun K7 hK7 => ?_
    refine wp_block ?_
    refine wp_region_list (WL.out ?_)
    refine WL.val (by kernel_rfl) (u0) (by go_simp) ?_
    simp only [Act.put, List.setIfInBounds_toArray, List.set_cons_zero, List.set_cons_succ]
    refine WL.val (by kernel_rfl) (.slice (some ⟨b, o, none⟩) l.length pc) (by go_simp) ?_
    simp only [Act.put, List.setIfInBounds_toArray, List.set_cons_zero, List.set_cons_succ]
    refine WL.val (by kernel_rfl) (.int .i64 (t : Int)) (by go_simp) ?_
    simp only [Act.put, List.setIfInBounds_toArray, List.set_cons_zero, List.set_cons_succ]
    refine WL.val (by kernel_rfl) (.pointer (some ⟨b, o + t * 32, none⟩)) (by go_simp) ?_
    simp only [Act.put, List.setIfInBounds_toArray, List.set_cons_zero, List.set_cons_succ]
    refine WL.mid (by kernel_rfl) 101 (.tmp 20) rfl b (o + t * 32) rfl (Sh.encH x) _ Hrg.out Try.underlying101 rfl (Sh.Try.size101L x) ?_
    rw [encH_len32]
    simp only [Act.put, List.setIfInBounds_toArray, List.set_cons_zero, List.set_cons_succ]
    refine WL.callF (by kernel_rfl) 62 _ _ rfl Try.in62 #[u0, .agg (bytesA 32 x.f)] (by simp [Act.eval]) ?_
    refine (rhash_any u0 _ x.f wr HPr.out.own (by have := HL.out; have h2 := fm_le hB l (t + 1); rw [fm_step hB l t x Hx.out, List.length_append, hB_len] at h2; rw [hsL, List.length_append, List.length_append] at this; rw [List.length_append, List.length_append]; omega)).mono ?_
    rintro e wz ⟨vz, rfl, h1, h2, h3⟩
    refine ⟨_, rfl, ?_⟩
    have HP3 : Keep (OB w0 vz (L ++ (numL l.length ++ (l.take (t + 1)).flatMap hB)) wz) := ⟨by
      have h4 := HPr.out.step h1 h2 h3
      rw [fm_step hB l t x Hx.out]
      simpa [List.append_assoc, hB] using h4⟩
    clear h1 h2 h3
    simp only [Act.put, List.setIfInBounds_toArray, List.set_cons_zero, List.set_cons_succ]
    refine WL.val (by kernel_rfl) (vz) (by go_simp) ?_
    simp only [Act.put, List.setIfInBounds_toArray, List.set_cons_zero, List.set_cons_succ]
    refine WL.nil ?_
    refine hK7 _ _ ?_
    refine wp_region_list (WL.out ?_)
    refine WL.val (by kernel_rfl) (.int .i64 (t : Int)) (by go_simp) ?_
    simp only [Act.put, List.setIfInBounds_toArray, List.set_cons_zero, List.set_cons_succ]
    refine WL.val (by kernel_rfl) (.int .i64 ((t : Int) + 1)) (by go_simp) ?_
    simp only [Act.put, List.setIfInBounds_toArray, List.set_cons_zero, List.set_cons_succ]
    refine WL.val (by kernel_rfl) (.int .i64 ((t : Int) + 1)) (by go_simp) ?_
    simp only [Act.put, List.setIfInBounds_toArray, List.set_cons_zero, List.set_cons_succ]
    refine WL.nil ?_
    refine ⟨⟨t + 1, vz, .int .i64 (t : Int), .slice (some ⟨b, o, none⟩) l.length pc, .int .i64 (l.length : Int), .bool true, .int .i64 (t : Int), .int .i64 ((t : Int) + 1), u0, .slice (some ⟨b, o, none⟩) l.length pc, .int .i64 (t : Int), .pointer (some ⟨b, o + t * 32, none⟩), .agg (bytesA 32 x.f), vz, rfl, by omega, HP3⟩, by simp [intOf]; omega⟩
  · have hte : t = l.length := by omega
    have hlt' : ¬ (t : Int) < (l.length : Int) := by omega
    rw [hte, List.take_length] at HPr
    refine wp_seq_k fun K8 hK8 => ?_
    refine wp_seq_k fun K9 hK9 => ?_
    refine wp_region_list (WL.out ?_)
    refine WL.val (by kernel_rfl) (.int .i64 (t : Int)) (by go_simp) ?_
    simp only [Act.put, List.setIfInBounds_toArray, List.set_cons_zero, List.set_cons_succ]
    refine WL.val (by kernel_rfl) (.slice pa l.length pc) (by go_simp) ?_
    simp only [Act.put, List.setIfInBounds_toArray, List.set_cons_zero, List.set_cons_succ]
    refine WL.val (by kernel_rfl) (.int .i64 (l.length : Int)) (by go_simp) ?_
    simp only [Act.put, List.setIfInBounds_toArray, List.set_cons_zero, List.set_cons_succ]
    refine WL.val (by kernel_rfl) (.bool false) (by go_simp) ?_
    simp only [Act.put, List.setIfInBounds_toArray, List.set_cons_zero, List.set_cons_succ]
    refine WL.nil ?_
    refine hK9 _ _ ?_
    refine wp_cond_false rfl ?_
    refine wp_exit ?_
    refine hK3 _ _ ?_
    refine wp_seq_k fun K10 hK10 => ?_
    refine wp_region_list (WL.out ?_)
    refine WL.val (by kernel_rfl) (u0) (by go_simp) ?_
    simp only [Act.put, List.setIfInBounds_toArray, List.set_cons_zero, List.set_cons_succ]
    refine WL.val (by kernel_rfl) (u0) (by go_simp) ?_
    simp only [Act.put, List.setIfInBounds_toArray, List.set_cons_zero, List.set_cons_succ]
    refine WL.nil ?_
    refine hK10 _ _ ?_
    refine wp_ret ?_
    go_ret
    exact ⟨u0, rfl, HPr.out⟩
section
variable {P : Program} {ops : Array Oper} {rest : List Oper} {o : Oper} {a : Act} {w : World} {Q : Exit → Act → World → Prop}
theorem WL.defer (hw : Region.wanted o (yielded ops a.tmps) = true) (d : Deferred) (hrun : (execOp a.eval o).run P w = .ok (.defer d) w)
    (h : WL P ops Q rest ({ a with defers := d :: a.defers }.put o.dst undef) w) : WL P ops Q (o :: rest) a w :=
  ⟨wpList_wanted hw fun _ hK => by unfold Oper.wp; rw [hrun, Oper.upon_defer]; exact hK _ _ h.out⟩
end
theorem assertW (v : Value) (W : World) : (Instr.typeAssert (.iface 107 v) 20 107 true).run Try.prog W = .ok (.tuple #[v, .bool true]) W := by kernel_rfl
theorem Try.new107 (w : World) : (Instr.alloc 107 true (.tuple #[])).run Try.prog w = .ok (.pointer (some ⟨w.heap.size, 0, none⟩)) (w.alloc (.cells #[.nilIface] 107)) := by kernel_rfl
theorem Try.new37 (w : World) : (Instr.alloc 37 true (.tuple #[])).run Try.prog w = .ok (.pointer (some ⟨w.heap.size, 0, none⟩)) (w.alloc (.cells #[.nilIface] 37)) := by kernel_rfl
theorem Try.size107 : (Try.prog.info? 107).map (·.size) = some 1 := by kernel_rfl
theorem caught_any (q : Nat) (w : World) : Calls Try.prog 34 #[.iface 107 (.agg #[err q])] w fun e w' => e = .returned (err q) ∧ Below w.heap.size w w' := by
  have has := assertW (.agg #[err q])
  unfold err at has ⊢
  go_enter Try.func34, Try.ntmps34
  refine wp_seq_k fun K1 hK1 => ?_
  refine wp_region_list (WL.out ?_)
  refine WL.val (by kernel_rfl) (.nilIface) (by go_simp) ?_
  simp only [Act.put, List.setIfInBounds_toArray, List.set_cons_zero, List.set_cons_succ]
  refine WL.nil ?_
  refine hK1 _ _ ?_
  refine wp_seq_k fun K2 hK2 => ?_
  refine wp_seq_k fun K3 hK3 => ?_
  refine wp_region_list (WL.out ?_)
  refine WL.val (by kernel_rfl) (.iface 107 (.agg #[.iface 116 (ptr q)])) (by go_simp) ?_
  simp only [Act.put, List.setIfInBounds_toArray, List.set_cons_zero, List.set_cons_succ]
  refine WL.val (by kernel_rfl) (.tuple #[.agg #[.iface 116 (ptr q)], .bool true]) (by go_simp) ?_
  simp only [Act.put, List.setIfInBounds_toArray, List.set_cons_zero, List.set_cons_succ]
  refine WL.val (by kernel_rfl) (.tuple #[.agg #[.iface 116 (ptr q)], .bool true]) (by go_simp) ?_
  simp only [Act.put, List.setIfInBounds_toArray, List.set_cons_zero, List.set_cons_succ]
  refine WL.val (by kernel_rfl) (.agg #[.iface 116 (ptr q)]) (by go_simp) ?_
  simp only [Act.put, List.setIfInBounds_toArray, List.set_cons_zero, List.set_cons_succ]
  refine WL.val (by kernel_rfl) (.bool true) (by go_simp) ?_
  simp only [Act.put, List.setIfInBounds_toArray, List.set_cons_zero, List.set_cons_succ]
  refine WL.new (by kernel_rfl) 107 rfl _ Try.new107 ?_
  have HX1 := Keep.mk (Blk.new w 107 #[.nilIface])
  have B1 := Keep.mk (below_new w (.cells #[.nilIface] 107))
  generalize w.alloc (.cells #[.nilIface] 107) = w1 at *
  simp only [Act.put, List.setIfInBounds_toArray, List.set_cons_zero, List.set_cons_succ]
  refine WL.storeR (by kernel_rfl) 107 (.tmp 3) (.tmp 8) rfl w.heap.size #[.iface 116 (ptr q)] rfl rfl 107 #[.nilIface] HX1.out Try.size107 rfl (by simp [Value.oneCell', ptr]) ?_
  have HX2 := Keep.mk (HX1.out.setRow #[.iface 116 (ptr q)])
  have B2 := Keep.mk (below_setRow B1.out (Nat.le_refl _) #[.iface 116 (ptr q)])
  generalize w1.setRow w.heap.size #[.iface 116 (ptr q)] = w2 at *
  have c0 := HX2.out.c 0 rfl
  simp only [Act.put]
  refine WL.val (by kernel_rfl) (.bool true) (by go_simp) ?_
  simp only [Act.put, List.setIfInBounds_toArray, List.set_cons_zero, List.set_cons_succ]
  refine WL.nil ?_
  refine hK3 _ _ ?_
  refine wp_seq_k fun K4 hK4 => ?_
  refine wp_region_list (WL.out ?_)
  refine WL.val (by kernel_rfl) (.bool true) (by go_simp) ?_
  simp only [Act.put, List.setIfInBounds_toArray, List.set_cons_zero, List.set_cons_succ]
  refine WL.nil ?_
  refine hK4 _ _ ?_
  refine wp_cond_true rfl ?_
  refine wp_seq_k fun K5 hK5 => ?_
  refine wp_region_list (WL.out ?_)
  refine WL.val (by kernel_rfl) (.pointer (some ⟨w.heap.size, 0, none⟩)) (by go_simp) ?_
  simp only [Act.put, List.setIfInBounds_toArray, List.set_cons_zero, List.set_cons_succ]
  refine WL.val (by kernel_rfl) (.iface 116 (ptr q)) (by go_simp) ?_
  simp only [Act.put, List.setIfInBounds_toArray, List.set_cons_zero, List.set_cons_succ]
  refine WL.val (by kernel_rfl) (.iface 116 (ptr q)) (by go_simp) ?_
  simp only [Act.put, List.setIfInBounds_toArray, List.set_cons_zero, List.set_cons_succ]
  refine WL.nil ?_
  refine hK5 _ _ ?_
  refine wp_ret ?_
  go_ret
  exact ⟨rfl, B2.out⟩
theorem catch_panicking (g2 g3 q : Nat) (old : Array Value) (w : World) (h2 : Blk w g2 28 old) (ho : old.size = 6) (h3 : Blk w g3 37 #[.nilIface]) :
    CallsD Try.prog 33 #[ptr g2, ptr g3] (.panicking [wr q]) w fun e u' w' => e = .returned (.tuple #[]) ∧ u' = .panicking [{ v := .iface 107 (.agg #[err q]), recovered := true }] ∧ Blk w' g2 28 (msA zeroC) ∧ Blk w' g3 37 #[err q] ∧ Grown w w' fun k => k = g2 ∨ k = g3 := by
  have H2 := Keep.mk h2
  have H3 := Keep.mk h3
  have Ho := Keep.mk ho
  have Hne : Keep (g2 ≠ g3) := ⟨blk_ne h2 h3 (by decide)⟩
  clear h2 h3 ho
  refine callsD_of_wpS Try.func33 rfl fun c₀ cs hu => ?_
  apply wpS_seq
  apply wpS_region
  unfold wr at hu
  simp [wpOpsS, go_sem, recoverD, hu, Try.ntmps33, Exit.thenS]
  apply wpS_seq
  apply wpS_region
  simp [wpOpsS, go_sem, Exit.thenS]
  refine wpS_cond (t := true) (by simp [Act.eval, Array.replicate]) ?_
  simp only [if_true]
  refine wpS_of_wp ?_
  refine wp_region_list (WL.out ?_)
  simp only [Array.replicate_succ, Array.replicate_zero, List.push_toArray, List.append_toArray, List.nil_append, List.cons_append, List.setIfInBounds_toArray, List.set_cons_zero, List.set_cons_succ]
  refine WL.bld (by kernel_rfl) 28 _ rfl [] (by simp) _ ms_built0 ?_
  simp only [Act.put, List.setIfInBounds_toArray, List.set_cons_zero, List.set_cons_succ]
  refine WL.val (by kernel_rfl) (.iface 107 (.agg #[err q])) (by go_simp) ?_
  simp only [Act.put, List.setIfInBounds_toArray, List.set_cons_zero, List.set_cons_succ]
  refine WL.callF (by kernel_rfl) 34 _ _ rfl Try.in34 #[.iface 107 (.agg #[err q])] (by simp [Act.eval]) ?_
  refine (caught_any q w).mono ?_
  rintro e w1 ⟨rfl, hb1⟩
  refine ⟨_, rfl, ?_⟩
  have B1 := Keep.mk hb1
  have H21 := Keep.mk (H2.out.below hb1 H2.out.lt)
  have H31 := Keep.mk (H3.out.below hb1 H3.out.lt)
  clear hb1
  simp only [Act.put, List.setIfInBounds_toArray, List.set_cons_zero, List.set_cons_succ]
  refine WL.storeR (by kernel_rfl) 28 (.tmp 0) (.tmp 6) rfl g2 (msA zeroC) rfl rfl 28 old H21.out (Try.size28B _) (by rw [Ho.out]; rfl) SlC.zero.one ?_
  have H22 := Keep.mk (H21.out.setRow (msA zeroC))
  have H32 := Keep.mk (H31.out.setRow_ne (b' := g2) (fun e => Hne.out e.symm) (msA zeroC))
  have G2 : Keep (Grown w (w1.setRow g2 (msA zeroC)) fun k => k = g2 ∨ k = g3) := ⟨(Grown.below B1.out).trans (Grown.setRow w1 g2 _ fun _ => .inl rfl)⟩
  generalize w1.setRow g2 (msA zeroC) = w2 at *
  simp only [Act.put]
  have c0 := H32.out.c 0 rfl
  have f0 := H32.out.frozen 0
  refine WL.cell (by kernel_rfl) (w2.setCell ⟨g3, 0, none⟩ (err q)) (by unfold err; go_simp) ?_
  have H33 := Keep.mk (H32.out.set 0 (err q))
  have H23 := Keep.mk (H22.out.set_ne (b' := g3) (j := 0) Hne.out (err q))
  have G3 : Keep (Grown w (w2.setCell ⟨g3, 0, none⟩ (err q)) fun k => k = g2 ∨ k = g3) := ⟨G2.out.trans (Grown.setCell w2 g3 0 _ fun _ => .inr rfl)⟩
  generalize w2.setCell ⟨g3, 0, none⟩ (err q) = w3 at *
  simp only [Act.put]
  refine WL.nil ?_
  exact ⟨rfl, _, rfl, _, results_none rfl _ _ _, rfl, rfl, H23.out, H33.out, G3.out⟩
theorem catch_idle (g2 g3 : Nat) (w : World) :
    CallsD Try.prog 33 #[ptr g2, ptr g3] .returning w fun e u' w' => e = .returned (.tuple #[]) ∧ u' = .returning ∧ w' = w := by
  refine callsD_of_wpS Try.func33 rfl fun c₀ cs hu => ?_
  apply wpS_seq
  apply wpS_region
  simp [wpOpsS, go_sem, recoverD, hu, Try.ntmps33, Exit.thenS]
  apply wpS_seq
  apply wpS_region
  simp [wpOpsS, go_sem, Exit.thenS]
  refine wpS_cond (t := false) (by simp [Act.eval, Array.replicate]) ?_
  simp only [Bool.false_eq_true, if_false]
  refine wpS_of_wp (wp_skip ?_)
  cases c₀
  simp_all [bodyPostS, results, Try.results33]
theorem load_err (w : World) (g : Nat) (x : Value) (h : Blk w g 37 #[x]) : (loadVar 37 ⟨g, 0, none⟩).run Try.prog w = .ok x w := by
  have c0 := h.c 0 rfl
  go_simp
theorem results_cells (tmps : Array Value) (w : World) (g g' : Nat) (cs : Array Value) (x : Value)
    (hp : tmps.getD 2 undef = .pointer (some ⟨g, 0, none⟩)) (hq : tmps.getD 3 undef = .pointer (some ⟨g', 0, none⟩)) (hg : Blk w g 28 cs) (hg' : Blk w g' 37 #[x]) (hi : cs.size = 6) :
    (results Try.f13 tmps).run Try.prog w = .ok (.tuple #[.agg cs, x]) w := by
  have hr := run_loadVar_row (P := Try.prog) w g 28 28 cs (0, 0) _ hg Try.underlying28 rfl (by rw [hi]; exact Try.size28)
  have hx := load_err w g' x hg'
  simp only [results, Try.results13]
  simp only [Array.getD_eq_getD_getElem?] at hp hq
  simp [Result.andThen, asAddr, hp, hq, hr, hx]
theorem below_of_grown {w w3 w4 w5 : World} {p g g3 : Nat} (h1 : Below w.heap.size w w3) (h2 : Grown w3 w4 fun k => k = p) (h3 : Grown w4 w5 fun k => k = g ∨ k = g3) (hp : w.heap.size ≤ p) (hg : w.heap.size ≤ g ∧ w.heap.size ≤ g3) : Below w.heap.size w w5 :=
  ⟨h3.os.trans (h2.os.trans h1.os), h3.tape.trans (h2.tape.trans h1.tape), h3.output.trans (h2.output.trans h1.output), Nat.le_trans h1.size (Nat.le_trans h2.size h3.size), fun k hk =>
    (h3.block k (Nat.lt_of_lt_of_le hk (Nat.le_trans h1.size h2.size)) (fun e => by rcases e with rfl | rfl <;> omega)).trans ((h2.block k (Nat.lt_of_lt_of_le hk h1.size) (fun e => by omega)).trans (h1.block k hk))⟩
theorem DecAt.mono {b0 b1 : Nat} {w : World} {M : MsgV} {c : MC} (h : DecAt b1 w M c) (hb : b0 ≤ b1) : DecAt b0 w M c :=
  ⟨h.k, h.s, h.hd, fun k hk => Nat.le_trans hb (h.hdf k hk), h.bl, fun k hk => Nat.le_trans hb (h.blf k hk), h.wt, fun k hk => Nat.le_trans hb (h.wtf k hk), h.bk.mono hb⟩
def DecPost (l : List Int) (w : World) (e : Ending) (w' : World) : Prop :=
  Below w.heap.size w w' ∧ ((2097152 < l.length ∧ e = .returned (.tuple #[.agg (msA zeroC), .iface 29 (.int .i64 4)]))
  ∨ (l.length ≤ 2097152 ∧ (decM l).1 = 0 ∧ ∃ c, e = .returned (.tuple #[.agg (msA c), .nilIface]) ∧ DecAt w.heap.size w' (decM l).2.2 c)
  ∨ (l.length ≤ 2097152 ∧ (decM l).1 ≠ 0 ∧ ∃ q, w.heap.size ≤ q ∧ e = .returned (.tuple #[.agg (msA zeroC), err q]) ∧ BadAt w' q (decM l).1 (decM l).2.1))
set_option maxRecDepth 8000 in
set_option maxHeartbeats 4000000 in
theorem decode_wide (v : Value) (l : List Int) (w : World) (hr : RowAt w v l) (hB : Byts l) (hln : l.length ≤ 9000000000000000000) : Calls Try.prog 13 #[v] w (DecPost l w) := by
  obtain ⟨va, vc, rfl⟩ := row_form hr
  have HR := Keep.mk hr
  have hmf : ∀ (fn : Fn) (first cap : Array Value) (w : World), (Instr.makeFunc fn first cap).run Try.prog w = .ok (.func fn first cap) w := fun _ _ _ _ => rfl
  have Hlst : Keep (lst (strOfNums l) = l) := ⟨lst_nums hB⟩
  have HSz : Keep ((strOfNums l).size = l.length) := ⟨by rw [← lst_len, lst_nums hB]⟩
  clear hr hB
  go_enter_defers Try.func13, Try.ntmps13
  refine wp_seq_k fun K1 hK1 => ?_
  refine wp_region_list (WL.out ?_)
  refine WL.new (by kernel_rfl) 28 rfl _ Try.new28M ?_
  have HN1 := Keep.mk (Blk.new w 28 (msA zeroC))
  have B1 := Keep.mk (below_new w (.cells (msA zeroC) 28))
  generalize w.alloc (.cells (msA zeroC) 28) = w1 at *
  simp only [Act.put, List.setIfInBounds_toArray, List.set_cons_zero, List.set_cons_succ]
  refine WL.new (by kernel_rfl) 37 rfl _ Try.new37 ?_
  have HN2 := Keep.mk (HN1.out.alloc (.cells #[.nilIface] 37))
  have HE2 := Keep.mk (Blk.new w1 37 #[.nilIface])
  have B2 : Keep (Below w.heap.size w (w1.alloc (.cells #[.nilIface] 37))) := ⟨B1.out.trans ((below_new w1 _).mono B1.out.size)⟩
  have Hg : Keep (w.heap.size < w1.heap.size) := ⟨HN1.out.lt⟩
  generalize w1.alloc (.cells #[.nilIface] 37) = w2 at *
  generalize w1.heap.size = g3 at *
  simp only [Act.put, List.setIfInBounds_toArray, List.set_cons_zero, List.set_cons_succ]
  refine WL.nil ?_
  refine hK1 _ _ ?_
  refine wp_seq_k fun K2 hK2 => ?_
  refine wp_seq_k fun K3 hK3 => ?_
  refine wp_region_list (WL.out ?_)
  refine WL.val (by kernel_rfl) (.slice va l.length vc) (by go_simp) ?_
  simp only [Act.put, List.setIfInBounds_toArray, List.set_cons_zero, List.set_cons_succ]
  refine WL.val (by kernel_rfl) (.int .i64 (l.length : Int)) (by go_simp) ?_
  simp only [Act.put, List.setIfInBounds_toArray, List.set_cons_zero, List.set_cons_succ]
  by_cases h1_2 : 2097152 < l.length
  · have h1_2i : (2097152 : Int) < (l.length : Int) := by omega
    refine WL.val (by kernel_rfl) (.bool true) (by go_simp) ?_
    simp only [Act.put, List.setIfInBounds_toArray, List.set_cons_zero, List.set_cons_succ]
    refine WL.nil ?_
    refine hK3 _ _ ?_
    refine wp_cond_true rfl ?_
    refine wp_seq_k fun K4 hK4 => ?_
    refine wp_region_list (WL.out ?_)
    refine WL.bld (by kernel_rfl) 28 _ rfl [] (by simp) _ ms_built0 ?_
    simp only [Act.put, List.setIfInBounds_toArray, List.set_cons_zero, List.set_cons_succ]
    refine WL.val (by kernel_rfl) (.iface 29 (.int .i64 4)) (by go_simp) ?_
    simp only [Act.put, List.setIfInBounds_toArray, List.set_cons_zero, List.set_cons_succ]
    refine WL.storeR (by kernel_rfl) 28 (.tmp 2) (.tmp 7) rfl w.heap.size (msA zeroC) rfl rfl 28 (msA zeroC) HN2.out (Try.size28B _) rfl SlC.zero.one ?_
    have HN4 := Keep.mk (HN2.out.setRow (msA zeroC))
    have HE4 := Keep.mk (HE2.out.setRow_ne (b' := w.heap.size) (by have := Hg.out; omega) (msA zeroC))
    have B4 : Keep (Below w.heap.size w (w2.setRow w.heap.size (msA zeroC))) := ⟨below_setRow B2.out (Nat.le_refl _) _⟩
    generalize w2.setRow w.heap.size (msA zeroC) = w4 at *
    have c0 := HE4.out.c 0 rfl
    have f0 := HE4.out.frozen 0
    simp only [Act.put]
    refine WL.cell (by kernel_rfl) (w4.setCell ⟨g3, 0, none⟩ (.iface 29 (.int .i64 4))) (by go_simp) ?_
    have HE5 := Keep.mk (HE4.out.set 0 (.iface 29 (.int .i64 4)))
    have HN5 := Keep.mk (HN4.out.set_ne (b' := g3) (j := 0) (by have := Hg.out; omega) (.iface 29 (.int .i64 4)))
    have B5 : Keep (Below w.heap.size w (w4.setCell ⟨g3, 0, none⟩ (.iface 29 (.int .i64 4)))) := ⟨B4.out.setCell (by show w.heap.size ≤ g3; have := Hg.out; omega) _⟩
    generalize w4.setCell ⟨g3, 0, none⟩ (.iface 29 (.int .i64 4)) = w5 at *
    simp only [Act.put]
    refine WL.nil ?_
    refine hK4 _ _ ?_
    refine wp_ret ?_
    try simp only [Exit.inBlock, Exit.then]
    refine ⟨.tuple #[.agg (msA zeroC), .iface 29 (.int .i64 4)], results_cells _ _ w.heap.size g3 _ _ rfl rfl HN5.out HE5.out rfl, ?_⟩
    exact ⟨B5.out, .inl ⟨h1_2, rfl⟩⟩
  · have h1_2i : ¬ (2097152 : Int) < (l.length : Int) := by omega
    refine WL.val (by kernel_rfl) (.bool false) (by go_simp) ?_
    simp only [Act.put, List.setIfInBounds_toArray, List.set_cons_zero, List.set_cons_succ]
    refine WL.nil ?_
    refine hK3 _ _ ?_
    refine wp_cond_false rfl ?_
    refine wp_skip ?_
    refine hK2 _ _ ?_
    refine wp_seq_k fun K5 hK5 => ?_
    have HNl : Keep (¬ 2097152 < l.length) := ⟨h1_2⟩
    have HS : Keep ((strOfNums l).size ≤ 140737488355328) := ⟨by rw [HSz.out]; omega⟩
    refine wp_region_list (WL.out ?_)
    refine WL.val (by kernel_rfl) (.func (.func 33) #[] #[.pointer (some ⟨w.heap.size, 0, none⟩), .pointer (some ⟨g3, 0, none⟩)]) (by go_simp) ?_
    simp only [Act.put, List.setIfInBounds_toArray, List.set_cons_zero, List.set_cons_succ]
    refine WL.defer (by kernel_rfl) { target := .fn (.func 33) #[.pointer (some ⟨w.heap.size, 0, none⟩), .pointer (some ⟨g3, 0, none⟩)], args := #[] } (by go_simp) ?_
    simp only [Act.put]
    refine WL.nil ?_
    refine hK5 _ _ ?_
    refine wp_seq_k fun K6 hK6 => ?_
    refine wp_region_list (WL.out ?_)
    refine WL.val (by kernel_rfl) (.slice va l.length vc) (by go_simp) ?_
    simp only [Act.put, List.setIfInBounds_toArray, List.set_cons_zero, List.set_cons_succ]
    refine WL.callF (by kernel_rfl) 36 _ _ rfl Try.in36 #[.slice va l.length vc] (by simp [Act.eval]) ?_
    refine (newIn_any _ l w2 (HR.out.below B2.out)).mono ?_
    rintro e w4 ⟨rfl, hw4⟩
    refine ⟨_, rfl, ?_⟩
    rw [hw4]
    clear hw4 w4
    have HI3 : Keep (InAt (w2.alloc (.cells #[.string (strOfNums l), .int .i64 0, .pointer none] 118)) w2.heap.size (strOfNums l) 0 none) := ⟨Blk.new w2 118 _, Nat.zero_le _⟩
    have HN3 := Keep.mk (HN2.out.alloc (.cells #[.string (strOfNums l), .int .i64 0, .pointer none] 118))
    have HE3 := Keep.mk (HE2.out.alloc (.cells #[.string (strOfNums l), .int .i64 0, .pointer none] 118))
    have B3 : Keep (Below w.heap.size w (w2.alloc (.cells #[.string (strOfNums l), .int .i64 0, .pointer none] 118))) := ⟨B2.out.trans ((below_new w2 _).mono B2.out.size)⟩
    have Hp : Keep (g3 < w2.heap.size) := ⟨HE2.out.lt⟩
    generalize w2.alloc (.cells #[.string (strOfNums l), .int .i64 0, .pointer none] 118) = w3 at *
    generalize w2.heap.size = p at *
    simp only [Act.put, List.setIfInBounds_toArray, List.set_cons_zero, List.set_cons_succ]
    refine WL.callP (by kernel_rfl) 35 _ _ rfl Try.in35 #[ptr p] (by simp [Act.eval]) ?_
    refine (readMessage_any p (strOfNums l) w3 HI3.out HS.out).mono ?_
    rw [Hlst.out]
    rintro e w4 (⟨e1, c, rfl, h2, h8⟩ | hgv)
    rotate_left
    · have hne := hgv.1
      obtain ⟨q, hq, rfl, hbad, hgr⟩ := hgv.2
      refine .inr ⟨_, rfl, ?_⟩
      try simp only [Exit.inBlock, Exit.then]
      refine leaves_cons (f := 33) (args := #[ptr w.heap.size, ptr g3]) (by simp) (by simp [go_sem, ptr]) ?_
      refine (catch_panicking w.heap.size g3 q (msA zeroC) w4 (hgr.blk HN3.out (blk_ne HN3.out HI3.out.blk (by decide))) rfl (hgr.blk HE3.out (blk_ne HE3.out HI3.out.blk (by decide)))).mono ?_
      rintro e u' w5 ⟨rfl, rfl, i2, i3, i4⟩
      simp only [settle, List.dropWhile]
      refine ⟨.tuple #[.agg (msA zeroC), err q], results_cells _ _ w.heap.size g3 _ _ rfl rfl i2 i3 rfl, ?_⟩
      have hbl : Below w.heap.size w w5 := below_of_grown B3.out hgr i4 (by have := B3.out.size; have := Hp.out; have := Hg.out; omega) (by have := Hg.out; omega)
      refine ⟨hbl, .inr (.inr ⟨by have := HNl.out; omega, hne, q, Nat.le_trans B3.out.size hq, rfl, ?_⟩)⟩
      exact i4.blk hbad (fun e => by rcases e with rfl | rfl; exact (blk_ne hbad (hgr.blk HN3.out (blk_ne HN3.out HI3.out.blk (by decide))) (by decide)) rfl; exact (blk_ne hbad (hgr.blk HE3.out (blk_ne HE3.out HI3.out.blk (by decide))) (by decide)) rfl)
    refine .inl ⟨_, rfl, ?_⟩
    have HE1 := Keep.mk e1
    have HN4 := Keep.mk (h8.blk HN3.out (blk_ne HN3.out HI3.out.blk (by decide)))
    have HE4 := Keep.mk (h8.blk HE3.out (blk_ne HE3.out HI3.out.blk (by decide)))
    have HD4 := Keep.mk h2
    have HG4 := Keep.mk h8
    clear h2 h8 e1
    simp only [Act.put, List.setIfInBounds_toArray, List.set_cons_zero, List.set_cons_succ]
    refine WL.storeR (by kernel_rfl) 28 (.tmp 2) (.tmp 12) rfl w.heap.size (msA c) rfl rfl 28 (msA zeroC) HN4.out (Try.size28B _) rfl (SlC.one HD4.out.ms.sl) ?_
    have HN5 := Keep.mk (HN4.out.setRow (msA c))
    have HE5 := Keep.mk (HE4.out.setRow_ne (b' := w.heap.size) (by have := Hg.out; omega) (msA c))
    have Gs : Grown w4 (w4.setRow w.heap.size (msA c)) fun k => k = w.heap.size ∨ k = g3 := Grown.setRow w4 w.heap.size _ fun _ => .inl rfl
    have HD5 := Keep.mk (HD4.out.grown Gs (fun k hk e => by rcases e with rfl | rfl; exact (typ_ne HN4.out hk (by decide) (by decide) (by decide)) rfl; exact (typ_ne HE4.out hk (by decide) (by decide) (by decide)) rfl))
    have GG := Keep.mk Gs
    generalize w4.setRow w.heap.size (msA c) = w5 at *
    have c0 := HE5.out.c 0 rfl
    have f0 := HE5.out.frozen 0
    clear Gs
    simp only [Act.put]
    refine WL.cell (by kernel_rfl) (w5.setCell ⟨g3, 0, none⟩ .nilIface) (by go_simp) ?_
    have HE6 := Keep.mk (HE5.out.set 0 .nilIface)
    have HN6 := Keep.mk (HN5.out.set_ne (b' := g3) (j := 0) (by have := Hg.out; omega) .nilIface)
    have Gs : Grown w5 (w5.setCell ⟨g3, 0, none⟩ .nilIface) fun k => k = w.heap.size ∨ k = g3 := Grown.setCell w5 g3 0 _ fun _ => .inr rfl
    have HD6 := Keep.mk (HD5.out.grown Gs (fun k hk e => by rcases e with rfl | rfl; exact (typ_ne HN5.out hk (by decide) (by decide) (by decide)) rfl; exact (typ_ne HE5.out hk (by decide) (by decide) (by decide)) rfl))
    have GG2 := Keep.mk (GG.out.trans Gs)
    generalize w5.setCell ⟨g3, 0, none⟩ .nilIface = w6 at *
    simp only [Act.put]
    refine WL.nil ?_
    refine hK6 _ _ ?_
    refine wp_ret ?_
    try simp only [Exit.inBlock, Exit.then]
    refine leaves_cons (f := 33) (args := #[ptr w.heap.size, ptr g3]) (by simp) (by simp [go_sem, ptr]) ?_
    refine (catch_idle w.heap.size g3 _).mono ?_
    rintro e u' w7 ⟨rfl, rfl, rfl⟩
    simp only [settle]
    refine ⟨.tuple #[.agg (msA c), .nilIface], results_cells _ _ w.heap.size g3 _ _ rfl rfl HN6.out HE6.out rfl, ?_⟩
    have hbl : Below w.heap.size w w7 := below_of_grown B3.out HG4.out GG2.out (by have := B3.out.size; have := Hp.out; have := Hg.out; omega) (by have := Hg.out; omega)
    exact ⟨hbl, .inr (.inl ⟨by have := HNl.out; omega, HE1.out, c, rfl, HD6.out.mono B3.out.size⟩)⟩
theorem decode_any (v : Value) (l : List Int) (w : World) (hr : RowAt w v l) (hB : Byts l) (hln : l.length ≤ 140737488355328) : Calls Try.prog 13 #[v] w (DecPost l w) := decode_wide v l w hr hB (by omega)
def mA : MsgV := ⟨3, [], 0, [], [], [[1], [2, 3]]⟩
theorem mA_chk : chkM mA = 0 := by decide
theorem mA_enc : encM mA = [3, 2, 1, 1, 2, 2, 3] := by decide
theorem mA_str : strOfNums [3, 2, 1, 1, 2, 2, 3] = { data := #[3, 2, 1, 1, 2, 2, 3] } := by kernel_rfl
theorem mB_dec : decM [2, 0] = (0, 2, { zeroM with k := 2 }) := by kernel_rfl
theorem byB : Byts [2, 0] := fun c hc => by simp at hc; omega
theorem mA_built (a : Option Addr) (n c : Nat) : Try.prog.built 28 [(0, .int .i64 3), (5, .slice a n c)] = some (msA ⟨3, noS, 0, noS, noS, .slice a n c⟩) := by kernel_rfl
theorem bsA1 (w : World) : (Instr.buildSlice 25 1 #[(0, .int .u8 1)]).run Try.prog w = .ok (.slice (some ⟨w.heap.size, 0, none⟩) 1 1) (w.alloc (.cells (bv [1]).toArray 5)) := by kernel_rfl
theorem bsA2 (w : World) : (Instr.buildSlice 25 2 #[(0, .int .u8 2), (1, .int .u8 3)]).run Try.prog w = .ok (.slice (some ⟨w.heap.size, 0, none⟩) 2 2) (w.alloc (.cells (bv [2, 3]).toArray 5)) := by kernel_rfl
theorem bsA3 (w : World) : (Instr.buildSlice 25 2 #[(0, .int .u8 2), (1, .int .u8 0)]).run Try.prog w = .ok (.slice (some ⟨w.heap.size, 0, none⟩) 2 2) (w.alloc (.cells (bv [2, 0]).toArray 5)) := by kernel_rfl
theorem bsA4 (a b : Option Addr) (n m c d : Nat) (w : World) : (Instr.buildSlice 26 2 #[(0, .slice a n c), (1, .slice b m d)]).run Try.prog w = .ok (.slice (some ⟨w.heap.size, 0, none⟩) 2 2) (w.alloc (.cells #[.slice a n c, .slice b m d] 25)) := by kernel_rfl
theorem row_of {w : World} {g : Nat} {T : TypeId} {l : List Int} {n : Nat} (h : Blk w g T (bv l).toArray) (hn : n = l.length) : RowAt w (.slice (some ⟨g, 0, none⟩) n n) l := by
  subst hn
  refine .inr (.inr ⟨g, 0, l.length, rfl, Nat.le_refl _, fun i hi => ?_⟩)
  rw [Nat.zero_add, h.cell, List.getElem?_toArray]
  exact bv_get l i hi
theorem rws_two {w : World} {g : Nat} {va vb : Value} {la lb : List Int} (h : Blk w g 25 #[va, vb]) (ha : RowAt w va la) (hb : RowAt w vb lb) : RwsAt w (.slice (some ⟨g, 0, none⟩) 2 2) [la, lb] := by
  refine ⟨fun i => if i = 0 then va else vb, .inr ⟨g, 0, 2, rfl, Nat.le_refl _, fun i hi => ?_⟩, fun i hi => ?_⟩
  · have : i = 0 ∨ i = 1 := by simp at hi; omega
    rcases this with rfl | rfl
    · rw [h.cell]; rfl
    · rw [h.cell]; rfl
  · have : i = 0 ∨ i = 1 := by simp at hi; omega
    rcases this with rfl | rfl
    · exact ha
    · exact hb
theorem hrow_nil (w : World) : Sh.HRow w noS [] := OwnH.row (show OwnH w noS [] from ⟨rfl, .inl ⟨rfl, rfl⟩⟩)
theorem mA_ok : MsOk mA where
  k := by decide
  s := by decide
  hd := by decide
  bl := by decide
  wt := by decide
  bk := by decide
  blB := fun c hc => by simp [mA] at hc
  rows := fun i hi => by
    have : i = 0 ∨ i = 1 := by simp [mA] at hi; omega
    rcases this with rfl | rfl <;> decide
  bkB := fun r hr c hc => by
    simp [mA] at hr
    rcases hr with rfl | rfl <;> simp at hc <;> omega
theorem Try.in9 (w : World) (vs : Array Value) : (callFunc 9 vs).run Try.prog w = .ok (.enter 9 vs) w := by kernel_rfl
theorem Try.in3 (w : World) (vs : Array Value) : (callFunc 3 vs).run Try.prog w = .ok (.enter 3 vs) w := by kernel_rfl
set_option maxRecDepth 8000 in
set_option maxHeartbeats 2000000 in
theorem fixed_any (w : World) : Calls Try.prog 9 #[] w fun e w' => e = .returned (.bool true) ∧ Below w.heap.size w w' := by
  go_enter Try.func9, Try.ntmps9
  refine wp_seq_k fun K1 hK1 => ?_
  refine wp_region_list (WL.out ?_)
  refine WL.val (by kernel_rfl) (.bool false) (by go_simp) ?_
  simp only [Act.put, List.setIfInBounds_toArray, List.set_cons_zero, List.set_cons_succ]
  refine WL.nil ?_
  refine hK1 _ _ ?_
  refine wp_seq_k fun K2 hK2 => ?_
  refine wp_region_list (WL.out ?_)
  refine WL.bs (by kernel_rfl) 25 1 _ rfl _ (by simp [Act.eval]) _ _ (bsA1 w) ?_
  have HRw1 := Keep.mk (row_of (Blk.new w 5 (bv [1]).toArray) (n := 1) rfl)
  have Bzw1 : Keep (Below w.heap.size w (w.alloc (.cells (bv [1]).toArray 5))) := ⟨below_new w _⟩
  generalize w.alloc (.cells (bv [1]).toArray 5) = w1 at *
  generalize w.heap.size = gw1 at HRw1 ⊢
  simp only [Act.put, List.setIfInBounds_toArray, List.set_cons_zero, List.set_cons_succ]
  refine WL.bs (by kernel_rfl) 25 2 _ rfl _ (by simp [Act.eval]) _ _ (bsA2 w1) ?_
  have HRw2 := Keep.mk (row_of (Blk.new w1 5 (bv [2, 3]).toArray) (n := 2) rfl)
  have Bzw2 : Keep (Below w1.heap.size w1 (w1.alloc (.cells (bv [2, 3]).toArray 5))) := ⟨below_new w1 _⟩
  generalize w1.alloc (.cells (bv [2, 3]).toArray 5) = w2 at *
  generalize w1.heap.size = gw2 at HRw2 ⊢
  simp only [Act.put, List.setIfInBounds_toArray, List.set_cons_zero, List.set_cons_succ]
  refine WL.bs (by kernel_rfl) 26 2 _ rfl _ (by simp [Act.eval]) _ _ (bsA4 (some ⟨gw1, 0, none⟩) (some ⟨gw2, 0, none⟩) 1 2 1 2 w2) ?_
  have HK3 := Keep.mk (Blk.new w2 25 #[.slice (some ⟨gw1, 0, none⟩) 1 1, .slice (some ⟨gw2, 0, none⟩) 2 2])
  have Bz3 : Keep (Below w2.heap.size w2 (w2.alloc (.cells #[.slice (some ⟨gw1, 0, none⟩) 1 1, .slice (some ⟨gw2, 0, none⟩) 2 2] 25))) := ⟨below_new w2 _⟩
  have B3 : Keep (Below w.heap.size w (w2.alloc (.cells #[.slice (some ⟨gw1, 0, none⟩) 1 1, .slice (some ⟨gw2, 0, none⟩) 2 2] 25))) := ⟨(Bzw1.out.trans ((Bzw2.out).mono Bzw1.out.size)).trans (Bz3.out.mono (Nat.le_trans Bzw1.out.size Bzw2.out.size))⟩
  have HW3 : Keep (RwsAt (w2.alloc (.cells #[.slice (some ⟨gw1, 0, none⟩) 1 1, .slice (some ⟨gw2, 0, none⟩) 2 2] 25)) (.slice (some ⟨w2.heap.size, 0, none⟩) 2 2) [[1], [2, 3]]) := ⟨rws_two HK3.out ((HRw1.out.below Bzw2.out).below Bz3.out) (HRw2.out.below Bz3.out)⟩
  generalize w2.alloc (.cells #[.slice (some ⟨gw1, 0, none⟩) 1 1, .slice (some ⟨gw2, 0, none⟩) 2 2] 25) = w3 at *
  generalize w2.heap.size = g3 at HW3 ⊢
  clear HK3 Bz3 HRw1 HRw2 Bzw1 Bzw2
  simp only [Act.put, List.setIfInBounds_toArray, List.set_cons_zero, List.set_cons_succ]
  refine WL.bld (by kernel_rfl) 28 _ rfl [(0, .int .i64 3), (5, .slice (some ⟨g3, 0, none⟩) 2 2)] (by simp [Act.eval]) _ (mA_built _ _ _) ?_
  simp only [Act.put, List.setIfInBounds_toArray, List.set_cons_zero, List.set_cons_succ]
  refine WL.callF (by kernel_rfl) 11 _ _ rfl Try.in11 #[.agg (msA ⟨3, noS, 0, noS, noS, .slice (some ⟨g3, 0, none⟩) 2 2⟩)] (by simp [Act.eval]) ?_
  refine (encode_any mA ⟨3, noS, 0, noS, noS, .slice (some ⟨g3, 0, none⟩) 2 2⟩ w3 ⟨rfl, rfl, hrow_nil _, .inl ⟨rfl, rfl⟩, hrow_nil _, HW3.out⟩ mA_ok).mono ?_
  rintro e w4 ⟨v, rfl, hv, hb4⟩
  refine ⟨_, rfl, ?_⟩
  rw [mA_chk, mA_enc] at hv
  obtain ⟨ga, hga, _, hbl⟩ : FreshB w3 w4 v [3, 2, 1, 1, 2, 2, 3] := by
    rcases hv with h | h
    · exact h.2
    · exact absurd rfl h.1
  subst hga
  rw [mA_chk]
  have HA4 := Keep.mk (row_of hbl (n := 7) rfl)
  have B4 : Keep (Below w.heap.size w w4) := ⟨B3.out.trans (hb4.mono B3.out.size)⟩
  clear hv hbl hb4 HW3
  simp only [Act.put, List.setIfInBounds_toArray, List.set_cons_zero, List.set_cons_succ]
  refine WL.val (by kernel_rfl) (.tuple #[.slice (some ⟨ga, 0, none⟩) 7 7, .int .i64 0]) (by go_simp) ?_
  simp only [Act.put, List.setIfInBounds_toArray, List.set_cons_zero, List.set_cons_succ]
  refine WL.val (by kernel_rfl) (.slice (some ⟨ga, 0, none⟩) 7 7) (by go_simp) ?_
  simp only [Act.put, List.setIfInBounds_toArray, List.set_cons_zero, List.set_cons_succ]
  refine WL.val (by kernel_rfl) (.int .i64 0) (by go_simp) ?_
  simp only [Act.put, List.setIfInBounds_toArray, List.set_cons_zero, List.set_cons_succ]
  refine WL.val (by kernel_rfl) (.slice (some ⟨ga, 0, none⟩) 7 7) (by go_simp) ?_
  simp only [Act.put, List.setIfInBounds_toArray, List.set_cons_zero, List.set_cons_succ]
  refine WL.val (by kernel_rfl) (.int .i64 0) (by go_simp) ?_
  simp only [Act.put, List.setIfInBounds_toArray, List.set_cons_zero, List.set_cons_succ]
  refine WL.nil ?_
  refine hK2 _ _ ?_
  refine wp_seq_k fun K3 hK3 => ?_
  refine wp_region_list (WL.out ?_)
  refine WL.bs (by kernel_rfl) 25 2 _ rfl _ (by simp [Act.eval]) _ _ (bsA3 w4) ?_
  have HRw5 := Keep.mk (row_of (Blk.new w4 5 (bv [2, 0]).toArray) (n := 2) rfl)
  have Bzw5 : Keep (Below w4.heap.size w4 (w4.alloc (.cells (bv [2, 0]).toArray 5))) := ⟨below_new w4 _⟩
  generalize w4.alloc (.cells (bv [2, 0]).toArray 5) = w5 at *
  generalize w4.heap.size = gw5 at HRw5 ⊢
  have HA5 := Keep.mk (HA4.out.below Bzw5.out)
  have B5 : Keep (Below w.heap.size w w5) := ⟨B4.out.trans (Bzw5.out.mono B4.out.size)⟩
  simp only [Act.put, List.setIfInBounds_toArray, List.set_cons_zero, List.set_cons_succ]
  refine WL.callF (by kernel_rfl) 13 _ _ rfl Try.in13 #[.slice (some ⟨gw5, 0, none⟩) 2 2] (by simp [Act.eval]) ?_
  refine (decode_any _ [2, 0] w5 HRw5.out byB (by decide)).mono ?_
  rintro e w6 ⟨hb6, h1⟩
  rw [mB_dec] at h1
  obtain ⟨c, rfl, hD⟩ : ∃ c, e = .returned (.tuple #[.agg (msA c), .nilIface]) ∧ DecAt w5.heap.size w6 { zeroM with k := 2 } c := by
    rcases h1 with h | h | h
    · exact absurd h.1 (by decide)
    · exact h.2.2
    · exact absurd rfl h.2.1
  refine ⟨_, rfl, ?_⟩
  have Hck : Keep (c.k = 2) := ⟨hD.k⟩
  have Hsl := Keep.mk hD.ms.sl
  have HA6 := Keep.mk (HA5.out.below hb6)
  have B6 : Keep (Below w.heap.size w w6) := ⟨B5.out.trans (hb6.mono B5.out.size)⟩
  clear h1 hD hb6
  simp only [Act.put, List.setIfInBounds_toArray, List.set_cons_zero, List.set_cons_succ]
  refine WL.val (by kernel_rfl) (.tuple #[.agg (msA c), .nilIface]) (by go_simp) ?_
  simp only [Act.put, List.setIfInBounds_toArray, List.set_cons_zero, List.set_cons_succ]
  refine WL.val (by kernel_rfl) (.agg (msA c)) (by go_simp) ?_
  simp only [Act.put, List.setIfInBounds_toArray, List.set_cons_zero, List.set_cons_succ]
  refine WL.val (by kernel_rfl) (.nilIface) (by go_simp) ?_
  simp only [Act.put, List.setIfInBounds_toArray, List.set_cons_zero, List.set_cons_succ]
  refine WL.new (by kernel_rfl) 28 rfl _ Try.new28M ?_
  have HM7 := Keep.mk (Blk.new w6 28 (msA zeroC))
  have HA7 := Keep.mk (HA6.out.below (below_new w6 (.cells (msA zeroC) 28)))
  have B7 : Keep (Below w.heap.size w (w6.alloc (.cells (msA zeroC) 28))) := ⟨B6.out.trans ((below_new w6 _).mono B6.out.size)⟩
  have Hg7 : Keep (w.heap.size ≤ w6.heap.size ∧ ga < w6.heap.size) := ⟨B6.out.size, row_lt HA6.out (by decide) rfl⟩
  generalize w6.alloc (.cells (msA zeroC) 28) = w7 at *
  generalize w6.heap.size = g7 at *
  simp only [Act.put, List.setIfInBounds_toArray, List.set_cons_zero, List.set_cons_succ]
  refine WL.storeR (by kernel_rfl) 28 (.tmp 3) (.tmp 16) rfl g7 (msA c) rfl rfl 28 (msA zeroC) HM7.out (Try.size28B _) rfl Hsl.out.one ?_
  have HM8 := Keep.mk (HM7.out.setRow (msA c))
  have HA8 := Keep.mk (HA7.out.grown (Grown.setRow w7 g7 (msA c) (S := fun k => k = g7) fun _ => rfl) (fun b hb hl e => by have h := Hg7.out; simp [Value.ownBlock] at hb; omega))
  have B8 : Keep (Below w.heap.size w (w7.setRow g7 (msA c))) := ⟨below_setRow B7.out Hg7.out.1 _⟩
  generalize w7.setRow g7 (msA c) = w8 at *
  have d0 := HM8.out.c 0 (ms_0 c)
  rw [Hck.out] at d0
  have hcv := conv_row _ _ w8 HA8.out
  rw [mA_str] at hcv
  simp only [Act.put]
  refine WL.val (by kernel_rfl) (.nilIface) (by go_simp) ?_
  simp only [Act.put, List.setIfInBounds_toArray, List.set_cons_zero, List.set_cons_succ]
  refine WL.nil ?_
  refine hK3 _ _ ?_
  refine wp_seq_k fun K4 hK4 => ?_
  refine wp_region_list (WL.out ?_)
  refine WL.val (by kernel_rfl) (.int .i64 0) (by go_simp) ?_
  simp only [Act.put, List.setIfInBounds_toArray, List.set_cons_zero, List.set_cons_succ]
  refine WL.val (by kernel_rfl) (.bool true) (by go_simp) ?_
  simp only [Act.put, List.setIfInBounds_toArray, List.set_cons_zero, List.set_cons_succ]
  refine WL.val (by kernel_rfl) (.bool true) (by go_simp) ?_
  simp only [Act.put, List.setIfInBounds_toArray, List.set_cons_zero, List.set_cons_succ]
  refine WL.val (by kernel_rfl) (.slice (some ⟨ga, 0, none⟩) 7 7) (by go_simp) ?_
  simp only [Act.put, List.setIfInBounds_toArray, List.set_cons_zero, List.set_cons_succ]
  refine WL.val (by kernel_rfl) (.string { data := #[3, 2, 1, 1, 2, 2, 3] }) (by go_simp) ?_
  simp only [Act.put, List.setIfInBounds_toArray, List.set_cons_zero, List.set_cons_succ]
  refine WL.val (by kernel_rfl) (.bool true) (by go_simp) ?_
  simp only [Act.put, List.setIfInBounds_toArray, List.set_cons_zero, List.set_cons_succ]
  refine WL.val (by kernel_rfl) (.bool true) (by go_simp) ?_
  simp only [Act.put, List.setIfInBounds_toArray, List.set_cons_zero, List.set_cons_succ]
  refine WL.val (by kernel_rfl) (.bool true) (by go_simp) ?_
  simp only [Act.put, List.setIfInBounds_toArray, List.set_cons_zero, List.set_cons_succ]
  refine WL.val (by kernel_rfl) (.nilIface) (by go_simp) ?_
  simp only [Act.put, List.setIfInBounds_toArray, List.set_cons_zero, List.set_cons_succ]
  refine WL.val (by kernel_rfl) (.bool true) (by go_simp) ?_
  simp only [Act.put, List.setIfInBounds_toArray, List.set_cons_zero, List.set_cons_succ]
  refine WL.val (by kernel_rfl) (.bool true) (by go_simp) ?_
  simp only [Act.put, List.setIfInBounds_toArray, List.set_cons_zero, List.set_cons_succ]
  refine WL.val (by kernel_rfl) (.bool true) (by go_simp) ?_
  simp only [Act.put, List.setIfInBounds_toArray, List.set_cons_zero, List.set_cons_succ]
  refine WL.val (by kernel_rfl) (.pointer (some ⟨g7, 0, none⟩)) (by go_simp) ?_
  simp only [Act.put, List.setIfInBounds_toArray, List.set_cons_zero, List.set_cons_succ]
  refine WL.val (by kernel_rfl) (.int .i64 2) (by go_simp) ?_
  simp only [Act.put, List.setIfInBounds_toArray, List.set_cons_zero, List.set_cons_succ]
  refine WL.val (by kernel_rfl) (.bool true) (by go_simp) ?_
  simp only [Act.put, List.setIfInBounds_toArray, List.set_cons_zero, List.set_cons_succ]
  refine WL.val (by kernel_rfl) (.bool true) (by go_simp) ?_
  simp only [Act.put, List.setIfInBounds_toArray, List.set_cons_zero, List.set_cons_succ]
  refine WL.val (by kernel_rfl) (.bool true) (by go_simp) ?_
  simp only [Act.put, List.setIfInBounds_toArray, List.set_cons_zero, List.set_cons_succ]
  refine WL.nil ?_
  refine hK4 _ _ ?_
  refine wp_ret ?_
  go_ret
  exact ⟨rfl, B8.out⟩
set_option maxRecDepth 8000 in
set_option maxHeartbeats 1000000 in
theorem names_any (w : World) : Calls Try.prog 3 #[] w fun e w' => e = .returned (.bool true) ∧ Below w.heap.size w w' := by
  have HC := Keep.mk (fixed_any w)
  go_enter Try.func3, Try.ntmps3
  go_wp2_with fail
  refine HC.out.mono ?_
  rintro e w' ⟨rfl, hb⟩
  have HB := Keep.mk hb
  clear hb
  go_wp2
  go_ret
  exact ⟨rfl, HB.out⟩
theorem Try.in16 (w : World) (vs : Array Value) : (callFunc 16 vs).run Try.prog w = .ok (.enter 16 vs) w := by kernel_rfl
theorem Try.in47 (w : World) (vs : Array Value) : (callFunc 47 vs).run Try.prog w = .ok (.enter 47 vs) w := by kernel_rfl
theorem Try.in46 (w : World) (vs : Array Value) : (callFunc 46 vs).run Try.prog w = .ok (.enter 46 vs) w := by kernel_rfl
theorem Try.in8 (w : World) (vs : Array Value) : (callFunc 8 vs).run Try.prog w = .ok (.enter 8 vs) w := by kernel_rfl
theorem bs_refl (a : ByteArray) : (a == a) = true := by rw [beq_toListBytes]; simp
set_option maxRecDepth 8000 in
set_option maxHeartbeats 2000000 in
theorem sameRows_refl (v1 v2 : Value) (ls : List (List Int)) (w : World) (h1 : RwsAt w v1 ls) (h2 : RwsAt w v2 ls) (hn : (ls.length : Int) ≤ 9223372036854775806) :
    Calls Try.prog 47 #[v1, v2] w fun e w' => e = .returned (.bool true) ∧ ∃ q, w' = w.drewN q := by
  obtain ⟨pa, pc, rfl⟩ := h1.form
  obtain ⟨qa, qc, rfl⟩ := h2.form
  have H1 := Keep.mk h1
  have H2 := Keep.mk h2
  clear h1 h2
  go_enter Try.func47, Try.ntmps47
  refine wp_seq_k fun K1 hK1 => ?_
  refine wp_region_list (WL.out ?_)
  refine WL.val (by kernel_rfl) (.bool false) (by go_simp) ?_
  simp only [Act.put, List.setIfInBounds_toArray, List.set_cons_zero, List.set_cons_succ]
  refine WL.nil ?_
  refine hK1 _ _ ?_
  refine wp_seq_k fun K2 hK2 => ?_
  refine wp_seq_k fun K3 hK3 => ?_
  refine wp_region_list (WL.out ?_)
  refine WL.val (by kernel_rfl) (.slice pa ls.length pc) (by go_simp) ?_
  simp only [Act.put, List.setIfInBounds_toArray, List.set_cons_zero, List.set_cons_succ]
  refine WL.val (by kernel_rfl) (.int .i64 (ls.length : Int)) (by go_simp) ?_
  simp only [Act.put, List.setIfInBounds_toArray, List.set_cons_zero, List.set_cons_succ]
  refine WL.val (by kernel_rfl) (.slice qa ls.length qc) (by go_simp) ?_
  simp only [Act.put, List.setIfInBounds_toArray, List.set_cons_zero, List.set_cons_succ]
  refine WL.val (by kernel_rfl) (.int .i64 (ls.length : Int)) (by go_simp) ?_
  simp only [Act.put, List.setIfInBounds_toArray, List.set_cons_zero, List.set_cons_succ]
  refine WL.val (by kernel_rfl) (.bool false) (by go_simp) ?_
  simp only [Act.put, List.setIfInBounds_toArray, List.set_cons_zero, List.set_cons_succ]
  refine WL.nil ?_
  refine hK3 _ _ ?_
  refine wp_cond_false rfl ?_
  refine wp_skip ?_
  refine hK2 _ _ ?_
  refine wp_seq_k fun K4 hK4 => ?_
  refine wp_seq_k fun K5 hK5 => ?_
  refine wp_region_list (WL.out ?_)
  refine WL.val (by kernel_rfl) (.int .i64 0) (by go_simp) ?_
  simp only [Act.put, List.setIfInBounds_toArray, List.set_cons_zero, List.set_cons_succ]
  refine WL.nil ?_
  refine hK5 _ _ ?_
  refine wp_block ?_
  refine wp_loop (fun ac wr => ∃ (t : Nat) (u4 u11 u12 u13 u14 u15 u16 u17 u18 u19 u20 u21 u22 u23 u24 u25 u26 u27 : Value), ac = { tmps := #[.slice pa ls.length pc, .slice qa ls.length qc, undef, undef, u4, .int .i64 (t : Int), .slice pa ls.length pc, .int .i64 (ls.length : Int), .slice qa ls.length qc, .int .i64 (ls.length : Int), .bool false, u11, u12, u13, u14, u15, u16, u17, u18, u19, u20, u21, u22, u23, u24, u25, u26, u27], defers := [] } ∧ t ≤ ls.length ∧ ∃ n, wr = w.drewN n) (fun a _ => ls.length - (intOf (a.tmps.getD 5 undef)).toNat) ⟨0, .bool false, undef, undef, undef, undef, undef, undef, undef, undef, undef, undef, undef, undef, undef, undef, undef, undef, undef, rfl, by omega, 0, rfl⟩ ?_
  rintro ac wr ⟨t, u4, u11, u12, u13, u14, u15, u16, u17, u18, u19, u20, u21, u22, u23, u24, u25, u26, u27, rfl, ht, hB⟩
  by_cases hlt : t < ls.length
  · have hlt' : (t : Int) < (ls.length : Int) := by omega
    have hwt : IntKind.i64.wrap ((t : Int) + 1) = (t : Int) + 1 := by rw [IntKind.wrap_i64]; omega
    obtain ⟨b, ob, xa, xc, hq, _, x1, x2⟩ := H1.out.at t hlt
    subst hq
    obtain ⟨d, od, ya, yc, hq, _, y1, y2⟩ := H2.out.at t hlt
    subst hq
    obtain ⟨st, hst⟩ : ∃ st, strOfNums (ls.getD t []) = st := ⟨_, rfl⟩
    have Hst := Keep.mk hst
    clear hst
    obtain ⟨N, hN⟩ : ∃ N, N = (ls.getD t []).length := ⟨_, rfl⟩
    rw [← hN] at x1 y1 x2 y2
    clear hN
    have X1 := Keep.mk x1
    have Y1 := Keep.mk y1
    have X2 := Keep.mk x2
    have Y2 := Keep.mk y2
    clear x1 y1 x2 y2
    have HS0 : Keep ((wr.drew).cell? ⟨b, ob + t, none⟩ = some (.slice xa N xc) ∧ (wr.drew).cell? ⟨d, od + t, none⟩ = some (.slice ya N yc) ∧ RowAt wr.drew (.slice xa N xc) (ls.getD t []) ∧ RowAt wr.drew (.slice ya N yc) (ls.getD t [])) := ⟨by obtain ⟨n, rfl⟩ := hB; exact ⟨X1.out, Y1.out, X2.out, Y2.out⟩⟩
    refine wp_seq_k fun K6 hK6 => ?_
    refine wp_seq_k fun K7 hK7 => ?_
    refine wp_region_list (WL.out ?_)
    refine WL.val (by kernel_rfl) (.int .i64 (t : Int)) (by go_simp) ?_
    simp only [Act.put, List.setIfInBounds_toArray, List.set_cons_zero, List.set_cons_succ]
    refine WL.val (by kernel_rfl) (.slice (some ⟨b, ob, none⟩) ls.length pc) (by go_simp) ?_
    simp only [Act.put, List.setIfInBounds_toArray, List.set_cons_zero, List.set_cons_succ]
    refine WL.val (by kernel_rfl) (.int .i64 (ls.length : Int)) (by go_simp) ?_
    simp only [Act.put, List.setIfInBounds_toArray, List.set_cons_zero, List.set_cons_succ]
    refine WL.val (by kernel_rfl) (.bool true) (by go_simp) ?_
    simp only [Act.put, List.setIfInBounds_toArray, List.set_cons_zero, List.set_cons_succ]
    refine WL.nil ?_
    refine hK7 _ _ ?_
    refine wp_cond_true rfl ?_
    refine wp_skip ?_
    refine hK6 _ _ ?_
    refine wp_seq_k fun K8 hK8 => ?_
    refine wp_block ?_
    refine wp_seq_k fun K9 hK9 => ?_
    refine wp_region_held_drew (S := fun wx => wx.cell? ⟨b, ob + t, none⟩ = some (.slice xa N xc) ∧ wx.cell? ⟨d, od + t, none⟩ = some (.slice ya N yc) ∧ RowAt wx (.slice xa N xc) (ls.getD t []) ∧ RowAt wx (.slice ya N yc) (ls.getD t [])) (by kernel_rfl) (HS0.out) (fun hHeld => ?_)
    refine wpAnyH_take (i := 0) (oi := ⟨some 17, Op.move (Operand.tmp 0), 26, _, _, none⟩) (v := .slice (some ⟨b, ob, none⟩) ls.length pc) rfl (by kernel_rfl) (by kernel_rfl) (by kernel_rfl) (fun _ _ _ h => h) (Or.inl ⟨by rfl, fun w hS => by go_simp⟩) hHeld ?_
    simp only [Act.put, List.setIfInBounds_toArray, List.set_cons_zero, List.set_cons_succ]
    refine wpAnyH_take (i := 1) (oi := ⟨some 18, Op.move (Operand.tmp 5), 3, _, _, none⟩) (v := .int .i64 (t : Int)) rfl (by kernel_rfl) (by kernel_rfl) (by kernel_rfl) (fun _ _ _ h => h) (Or.inl ⟨by rfl, fun w hS => by go_simp⟩) hHeld ?_
    simp only [Act.put, List.setIfInBounds_toArray, List.set_cons_zero, List.set_cons_succ]
    refine wpAnyH_take (i := 2) (oi := ⟨some 19, Op.indexAddr 26 (Operand.tmp 17) (Operand.tmp 18), 0, _, _, none⟩) (v := .pointer (some ⟨b, ob + t, none⟩)) rfl (by kernel_rfl) (by kernel_rfl) (by kernel_rfl) (fun _ _ _ h => h) (Or.inl ⟨by rfl, fun w hS => by go_simp⟩) hHeld ?_
    simp only [Act.put, List.setIfInBounds_toArray, List.set_cons_zero, List.set_cons_succ]
    refine wpAnyH_take (i := 3) (oi := ⟨some 20, Op.load 25 (Operand.tmp 19), 25, _, _, none⟩) (v := .slice xa N xc) rfl (by kernel_rfl) (by kernel_rfl) (by kernel_rfl) (fun _ _ _ h => h) (Or.inl ⟨by rfl, fun w hS => by have h := hS.1; clear hS; go_simp⟩) hHeld ?_
    simp only [Act.put, List.setIfInBounds_toArray, List.set_cons_zero, List.set_cons_succ]
    refine wpAnyH_take (i := 4) (oi := ⟨some 21, Op.convert 25 9 (Operand.tmp 20), 9, _, _, none⟩) (v := .string st) rfl (by kernel_rfl) (by kernel_rfl) (by kernel_rfl) (fun _ _ _ h => h) (Or.inl ⟨by rfl, fun w hS => by have h1 := conv_row _ _ w hS.2.2.1; rw [Hst.out] at h1; clear hS; go_simp⟩) hHeld ?_
    simp only [Act.put, List.setIfInBounds_toArray, List.set_cons_zero, List.set_cons_succ]
    refine wpAnyH_take (i := 5) (oi := ⟨some 22, Op.move (Operand.tmp 1), 26, _, _, none⟩) (v := .slice (some ⟨d, od, none⟩) ls.length qc) rfl (by kernel_rfl) (by kernel_rfl) (by kernel_rfl) (fun _ _ _ h => h) (Or.inl ⟨by rfl, fun w hS => by go_simp⟩) hHeld ?_
    simp only [Act.put, List.setIfInBounds_toArray, List.set_cons_zero, List.set_cons_succ]
    refine wpAnyH_take (i := 6) (oi := ⟨some 23, Op.move (Operand.tmp 5), 3, _, _, none⟩) (v := .int .i64 (t : Int)) rfl (by kernel_rfl) (by kernel_rfl) (by kernel_rfl) (fun _ _ _ h => h) (Or.inl ⟨by rfl, fun w hS => by go_simp⟩) hHeld ?_
    simp only [Act.put, List.setIfInBounds_toArray, List.set_cons_zero, List.set_cons_succ]
    refine wpAnyH_take (i := 7) (oi := ⟨some 24, Op.indexAddr 26 (Operand.tmp 22) (Operand.tmp 23), 0, _, _, none⟩) (v := .pointer (some ⟨d, od + t, none⟩)) rfl (by kernel_rfl) (by kernel_rfl) (by kernel_rfl) (fun _ _ _ h => h) (Or.inl ⟨by rfl, fun w hS => by go_simp⟩) hHeld ?_
    simp only [Act.put, List.setIfInBounds_toArray, List.set_cons_zero, List.set_cons_succ]
    refine wpAnyH_take (i := 8) (oi := ⟨some 25, Op.load 25 (Operand.tmp 24), 25, _, _, none⟩) (v := .slice ya N yc) rfl (by kernel_rfl) (by kernel_rfl) (by kernel_rfl) (fun _ _ _ h => h) (Or.inl ⟨by rfl, fun w hS => by have h := hS.2.1; clear hS; go_simp⟩) hHeld ?_
    simp only [Act.put, List.setIfInBounds_toArray, List.set_cons_zero, List.set_cons_succ]
    refine wpAnyH_take (i := 9) (oi := ⟨some 26, Op.convert 25 9 (Operand.tmp 25), 9, _, _, none⟩) (v := .string st) rfl (by kernel_rfl) (by kernel_rfl) (by kernel_rfl) (fun _ _ _ h => h) (Or.inl ⟨by rfl, fun w hS => by have h1 := conv_row _ _ w hS.2.2.2; rw [Hst.out] at h1; clear hS; go_simp⟩) hHeld ?_
    simp only [Act.put, List.setIfInBounds_toArray, List.set_cons_zero, List.set_cons_succ]
    refine wpAnyH_take (i := 10) (oi := ⟨some 27, Op.binOp BinOp.neq 9 (Operand.tmp 21) (Operand.tmp 26) 9, 4, _, _, none⟩) (v := .bool false) rfl (by kernel_rfl) (by kernel_rfl) (by kernel_rfl) (fun _ _ _ h => h) (Or.inl ⟨by rfl, fun w hS => by have h1 := bs_refl st; clear hS; go_simp⟩) hHeld ?_
    simp only [Act.put, List.setIfInBounds_toArray, List.set_cons_zero, List.set_cons_succ]
    refine wpAnyH_done (by kernel_rfl) ?_ _
    refine hK9 _ _ ?_
    refine wp_cond_false rfl ?_
    refine wp_skip ?_
    refine hK8 _ _ ?_
    refine wp_region_list (WL.out ?_)
    refine WL.val (by kernel_rfl) (.int .i64 (t : Int)) (by go_simp) ?_
    simp only [Act.put, List.setIfInBounds_toArray, List.set_cons_zero, List.set_cons_succ]
    refine WL.val (by kernel_rfl) (.int .i64 ((t : Int) + 1)) (by go_simp) ?_
    simp only [Act.put, List.setIfInBounds_toArray, List.set_cons_zero, List.set_cons_succ]
    refine WL.val (by kernel_rfl) (.int .i64 ((t : Int) + 1)) (by go_simp) ?_
    simp only [Act.put, List.setIfInBounds_toArray, List.set_cons_zero, List.set_cons_succ]
    refine WL.nil ?_
    refine ⟨⟨t + 1, u4, .int .i64 (t : Int), .slice (some ⟨b, ob, none⟩) ls.length pc, .int .i64 (ls.length : Int), .bool true, .int .i64 (t : Int), .int .i64 ((t : Int) + 1), .slice (some ⟨b, ob, none⟩) ls.length pc, .int .i64 (t : Int), .pointer (some ⟨b, ob + t, none⟩), .slice xa N xc, .string st, .slice (some ⟨d, od, none⟩) ls.length qc, .int .i64 (t : Int), .pointer (some ⟨d, od + t, none⟩), .slice ya N yc, .string st, .bool false, rfl, by omega, by obtain ⟨n, rfl⟩ := hB; exact ⟨n + 1, by first | rfl | simp [World.drewN, World.drew]⟩⟩, by simp [intOf]; omega⟩
  · have htl' : ¬ (t : Int) < (ls.length : Int) := by omega
    refine wp_seq_k fun K10 hK10 => ?_
    refine wp_seq_k fun K11 hK11 => ?_
    refine wp_region_list (WL.out ?_)
    refine WL.val (by kernel_rfl) (.int .i64 (t : Int)) (by go_simp) ?_
    simp only [Act.put, List.setIfInBounds_toArray, List.set_cons_zero, List.set_cons_succ]
    refine WL.val (by kernel_rfl) (.slice pa ls.length pc) (by go_simp) ?_
    simp only [Act.put, List.setIfInBounds_toArray, List.set_cons_zero, List.set_cons_succ]
    refine WL.val (by kernel_rfl) (.int .i64 (ls.length : Int)) (by go_simp) ?_
    simp only [Act.put, List.setIfInBounds_toArray, List.set_cons_zero, List.set_cons_succ]
    refine WL.val (by kernel_rfl) (.bool false) (by go_simp) ?_
    simp only [Act.put, List.setIfInBounds_toArray, List.set_cons_zero, List.set_cons_succ]
    refine WL.nil ?_
    refine hK11 _ _ ?_
    refine wp_cond_false rfl ?_
    refine wp_exit ?_
    refine hK4 _ _ ?_
    refine wp_seq_k fun K12 hK12 => ?_
    refine wp_region_list (WL.out ?_)
    refine WL.val (by kernel_rfl) (.bool true) (by go_simp) ?_
    simp only [Act.put, List.setIfInBounds_toArray, List.set_cons_zero, List.set_cons_succ]
    refine WL.nil ?_
    refine hK12 _ _ ?_
    refine wp_ret ?_
    go_ret
    exact ⟨rfl, hB⟩
theorem same_refl (M : MsgV) (hN : MsOk M) (c d : MC) (w : World) (hc : MsAt w M c) (hd : MsAt w M d) : Calls Try.prog 16 #[.agg (msA c), .agg (msA d)] w fun e w' => e = .returned (.bool true) ∧ Below w.heap.size w w' := by
  obtain ⟨ha, hk, e1⟩ := hc.hd.form
  obtain ⟨ba, bk, e3⟩ := row_form hc.bl
  obtain ⟨wa, wk, e4⟩ := hc.wt.form
  obtain ⟨xa, xk, e5⟩ := hc.bk.form
  obtain ⟨ha', hk', f1⟩ := hd.hd.form
  obtain ⟨ba', bk', f3⟩ := row_form hd.bl
  obtain ⟨wa', wk', f4⟩ := hd.wt.form
  obtain ⟨xa', xk', f5⟩ := hd.bk.form
  have E1 := Keep.mk e1
  have E3 := Keep.mk e3
  have E4 := Keep.mk e4
  have E5 := Keep.mk e5
  have F1 := Keep.mk f1
  have F3 := Keep.mk f3
  have F4 := Keep.mk f4
  have F5 := Keep.mk f5
  have HC := Keep.mk hc
  have HD := Keep.mk hd
  have HN := Keep.mk hN
  obtain ⟨st, hst⟩ : ∃ st, strOfNums M.bl = st := ⟨_, rfl⟩
  have Hst := Keep.mk hst
  clear e1 e3 e4 e5 f1 f3 f4 f5 hc hd hN hst
  go_enter Try.func16, Try.ntmps16
  refine wp_seq_k fun K1 hK1 => ?_
  refine wp_region_list (WL.out ?_)
  refine WL.box (by kernel_rfl) 28 (.tmp 0) rfl _ rfl ?_
  have HX1 := Keep.mk (Blk.new w 28 (msA c))
  have B1 := Keep.mk (below_new w (.cells (msA c) 28))
  generalize w.alloc (.cells (msA c) 28) = w1 at *
  generalize w.heap.size = g at HX1 ⊢
  simp only [Act.put, List.setIfInBounds_toArray, List.set_cons_zero, List.set_cons_succ]
  refine WL.box (by kernel_rfl) 28 (.tmp 1) rfl _ rfl ?_
  have HX2 := Keep.mk (HX1.out.alloc (.cells (msA d) 28))
  have HY2 := Keep.mk (Blk.new w1 28 (msA d))
  have B2 : Keep (Below w.heap.size w (w1.alloc (.cells (msA d) 28))) := ⟨B1.out.trans ((below_new w1 _).mono B1.out.size)⟩
  have HC2 := Keep.mk (HC.out.below B2.out)
  have HD2 := Keep.mk (HD.out.below B2.out)
  generalize w1.alloc (.cells (msA d) 28) = w2 at *
  generalize w1.heap.size = g' at HY2 ⊢
  have x0 := HX2.out.c 0 (ms_0 c)
  have y0 := HY2.out.c 0 (ms_0 d)
  have x1 := HX2.out.c 1 (ms_1 c)
  have y1 := HY2.out.c 1 (ms_1 d)
  have x2 := HX2.out.c 2 (ms_2 c)
  have y2 := HY2.out.c 2 (ms_2 d)
  have x3 := HX2.out.c 3 (ms_3 c)
  have y3 := HY2.out.c 3 (ms_3 d)
  have x4 := HX2.out.c 4 (ms_4 c)
  have y4 := HY2.out.c 4 (ms_4 d)
  have x5 := HX2.out.c 5 (ms_5 c)
  have y5 := HY2.out.c 5 (ms_5 d)
  rw [HC.out.k] at x0
  rw [HD.out.k] at y0
  rw [HC.out.s] at x2
  rw [HD.out.s] at y2
  rw [E1.out] at x1
  rw [E3.out] at x3
  rw [E4.out] at x4
  rw [E5.out] at x5
  rw [F1.out] at y1
  rw [F3.out] at y3
  rw [F4.out] at y4
  rw [F5.out] at y5
  have k1 := conv_row _ _ w2 (HC2.out.bl)
  have k2 := conv_row _ _ w2 (HD2.out.bl)
  rw [E3.out, Hst.out] at k1
  rw [F3.out, Hst.out] at k2
  have hrf := bs_refl st
  simp only [Act.put, List.setIfInBounds_toArray, List.set_cons_zero, List.set_cons_succ]
  refine WL.val (by kernel_rfl) (.bool false) (by go_simp) ?_
  simp only [Act.put, List.setIfInBounds_toArray, List.set_cons_zero, List.set_cons_succ]
  refine WL.nil ?_
  refine hK1 _ _ ?_
  refine wp_seq_k fun K2 hK2 => ?_
  refine wp_region_list (WL.out ?_)
  refine WL.val (by kernel_rfl) (.pointer (some ⟨g, 0, none⟩)) (by go_simp) ?_
  simp only [Act.put, List.setIfInBounds_toArray, List.set_cons_zero, List.set_cons_succ]
  refine WL.val (by kernel_rfl) (.int .i64 M.k) (by go_simp) ?_
  simp only [Act.put, List.setIfInBounds_toArray, List.set_cons_zero, List.set_cons_succ]
  refine WL.val (by kernel_rfl) (.pointer (some ⟨g', 0, none⟩)) (by go_simp) ?_
  simp only [Act.put, List.setIfInBounds_toArray, List.set_cons_zero, List.set_cons_succ]
  refine WL.val (by kernel_rfl) (.int .i64 M.k) (by go_simp) ?_
  simp only [Act.put, List.setIfInBounds_toArray, List.set_cons_zero, List.set_cons_succ]
  refine WL.val (by kernel_rfl) (.bool true) (by go_simp) ?_
  simp only [Act.put, List.setIfInBounds_toArray, List.set_cons_zero, List.set_cons_succ]
  refine WL.val (by kernel_rfl) (.bool true) (by go_simp) ?_
  simp only [Act.put, List.setIfInBounds_toArray, List.set_cons_zero, List.set_cons_succ]
  refine WL.val (by kernel_rfl) (.pointer (some ⟨g, 2, none⟩)) (by go_simp) ?_
  simp only [Act.put, List.setIfInBounds_toArray, List.set_cons_zero, List.set_cons_succ]
  refine WL.val (by kernel_rfl) (.int .u64 M.sa) (by go_simp) ?_
  simp only [Act.put, List.setIfInBounds_toArray, List.set_cons_zero, List.set_cons_succ]
  refine WL.val (by kernel_rfl) (.pointer (some ⟨g', 2, none⟩)) (by go_simp) ?_
  simp only [Act.put, List.setIfInBounds_toArray, List.set_cons_zero, List.set_cons_succ]
  refine WL.val (by kernel_rfl) (.int .u64 M.sa) (by go_simp) ?_
  simp only [Act.put, List.setIfInBounds_toArray, List.set_cons_zero, List.set_cons_succ]
  refine WL.val (by kernel_rfl) (.bool true) (by go_simp) ?_
  simp only [Act.put, List.setIfInBounds_toArray, List.set_cons_zero, List.set_cons_succ]
  refine WL.val (by kernel_rfl) (.bool true) (by go_simp) ?_
  simp only [Act.put, List.setIfInBounds_toArray, List.set_cons_zero, List.set_cons_succ]
  refine WL.val (by kernel_rfl) (.bool true) (by go_simp) ?_
  simp only [Act.put, List.setIfInBounds_toArray, List.set_cons_zero, List.set_cons_succ]
  refine WL.val (by kernel_rfl) (.pointer (some ⟨g, 3, none⟩)) (by go_simp) ?_
  simp only [Act.put, List.setIfInBounds_toArray, List.set_cons_zero, List.set_cons_succ]
  refine WL.val (by kernel_rfl) (.slice ba M.bl.length bk) (by go_simp) ?_
  simp only [Act.put, List.setIfInBounds_toArray, List.set_cons_zero, List.set_cons_succ]
  refine WL.val (by kernel_rfl) (.string st) (by go_simp) ?_
  simp only [Act.put, List.setIfInBounds_toArray, List.set_cons_zero, List.set_cons_succ]
  refine WL.val (by kernel_rfl) (.pointer (some ⟨g', 3, none⟩)) (by go_simp) ?_
  simp only [Act.put, List.setIfInBounds_toArray, List.set_cons_zero, List.set_cons_succ]
  refine WL.val (by kernel_rfl) (.slice ba' M.bl.length bk') (by go_simp) ?_
  simp only [Act.put, List.setIfInBounds_toArray, List.set_cons_zero, List.set_cons_succ]
  refine WL.val (by kernel_rfl) (.string st) (by go_simp) ?_
  simp only [Act.put, List.setIfInBounds_toArray, List.set_cons_zero, List.set_cons_succ]
  refine WL.val (by kernel_rfl) (.bool true) (by go_simp) ?_
  simp only [Act.put, List.setIfInBounds_toArray, List.set_cons_zero, List.set_cons_succ]
  refine WL.val (by kernel_rfl) (.bool true) (by go_simp) ?_
  simp only [Act.put, List.setIfInBounds_toArray, List.set_cons_zero, List.set_cons_succ]
  refine WL.val (by kernel_rfl) (.bool true) (by go_simp) ?_
  simp only [Act.put, List.setIfInBounds_toArray, List.set_cons_zero, List.set_cons_succ]
  refine WL.val (by kernel_rfl) (.pointer (some ⟨g, 1, none⟩)) (by go_simp) ?_
  simp only [Act.put, List.setIfInBounds_toArray, List.set_cons_zero, List.set_cons_succ]
  refine WL.val (by kernel_rfl) (.slice ha M.hd.length hk) (by go_simp) ?_
  simp only [Act.put, List.setIfInBounds_toArray, List.set_cons_zero, List.set_cons_succ]
  refine WL.val (by kernel_rfl) (.pointer (some ⟨g', 1, none⟩)) (by go_simp) ?_
  simp only [Act.put, List.setIfInBounds_toArray, List.set_cons_zero, List.set_cons_succ]
  refine WL.val (by kernel_rfl) (.slice ha' M.hd.length hk') (by go_simp) ?_
  simp only [Act.put, List.setIfInBounds_toArray, List.set_cons_zero, List.set_cons_succ]
  refine WL.callF (by kernel_rfl) 46 _ _ rfl Try.in46 #[.slice ha M.hd.length hk, .slice ha' M.hd.length hk'] (by simp [Act.eval]) ?_
  refine (Sh.same_any _ _ M.hd M.hd w2 (by rw [← E1.out]; exact HC2.out.hd) (by rw [← F1.out]; exact HD2.out.hd) (by have := HN.out.hd; omega)).mono ?_
  rintro e w3 ⟨rfl, n3, rfl⟩
  refine ⟨_, rfl, ?_⟩
  rw [decide_eq_true rfl]
  have z4 : (w2.drewN n3).cell? ⟨g, 4, none⟩ = _ := x4
  have z5 : (w2.drewN n3).cell? ⟨g', 4, none⟩ = _ := y4
  simp only [Act.put, List.setIfInBounds_toArray, List.set_cons_zero, List.set_cons_succ]
  refine WL.val (by kernel_rfl) (.bool true) (by go_simp) ?_
  simp only [Act.put, List.setIfInBounds_toArray, List.set_cons_zero, List.set_cons_succ]
  refine WL.val (by kernel_rfl) (.bool true) (by go_simp) ?_
  simp only [Act.put, List.setIfInBounds_toArray, List.set_cons_zero, List.set_cons_succ]
  refine WL.val (by kernel_rfl) (.pointer (some ⟨g, 4, none⟩)) (by go_simp) ?_
  simp only [Act.put, List.setIfInBounds_toArray, List.set_cons_zero, List.set_cons_succ]
  refine WL.val (by kernel_rfl) (.slice wa M.wt.length wk) (by go_simp) ?_
  simp only [Act.put, List.setIfInBounds_toArray, List.set_cons_zero, List.set_cons_succ]
  refine WL.val (by kernel_rfl) (.pointer (some ⟨g', 4, none⟩)) (by go_simp) ?_
  simp only [Act.put, List.setIfInBounds_toArray, List.set_cons_zero, List.set_cons_succ]
  refine WL.val (by kernel_rfl) (.slice wa' M.wt.length wk') (by go_simp) ?_
  simp only [Act.put, List.setIfInBounds_toArray, List.set_cons_zero, List.set_cons_succ]
  refine WL.callF (by kernel_rfl) 46 _ _ rfl Try.in46 #[.slice wa M.wt.length wk, .slice wa' M.wt.length wk'] (by simp [Act.eval]) ?_
  refine (Sh.same_any _ _ M.wt M.wt (w2.drewN n3) (by rw [← E4.out]; exact HC2.out.wt.below (below_drewN _ _)) (by rw [← F4.out]; exact HD2.out.wt.below (below_drewN _ _)) (by have := HN.out.wt; omega)).mono ?_
  rintro e w4 ⟨rfl, n4, rfl⟩
  refine ⟨_, rfl, ?_⟩
  rw [decide_eq_true rfl]
  have z6 : ((w2.drewN n3).drewN n4).cell? ⟨g, 5, none⟩ = _ := x5
  have z7 : ((w2.drewN n3).drewN n4).cell? ⟨g', 5, none⟩ = _ := y5
  simp only [Act.put, List.setIfInBounds_toArray, List.set_cons_zero, List.set_cons_succ]
  refine WL.val (by kernel_rfl) (.bool true) (by go_simp) ?_
  simp only [Act.put, List.setIfInBounds_toArray, List.set_cons_zero, List.set_cons_succ]
  refine WL.val (by kernel_rfl) (.bool true) (by go_simp) ?_
  simp only [Act.put, List.setIfInBounds_toArray, List.set_cons_zero, List.set_cons_succ]
  refine WL.val (by kernel_rfl) (.pointer (some ⟨g, 5, none⟩)) (by go_simp) ?_
  simp only [Act.put, List.setIfInBounds_toArray, List.set_cons_zero, List.set_cons_succ]
  refine WL.val (by kernel_rfl) (.slice xa M.bk.length xk) (by go_simp) ?_
  simp only [Act.put, List.setIfInBounds_toArray, List.set_cons_zero, List.set_cons_succ]
  refine WL.val (by kernel_rfl) (.pointer (some ⟨g', 5, none⟩)) (by go_simp) ?_
  simp only [Act.put, List.setIfInBounds_toArray, List.set_cons_zero, List.set_cons_succ]
  refine WL.val (by kernel_rfl) (.slice xa' M.bk.length xk') (by go_simp) ?_
  simp only [Act.put, List.setIfInBounds_toArray, List.set_cons_zero, List.set_cons_succ]
  refine WL.callF (by kernel_rfl) 47 _ _ rfl Try.in47 #[.slice xa M.bk.length xk, .slice xa' M.bk.length xk'] (by simp [Act.eval]) ?_
  refine (sameRows_refl _ _ M.bk ((w2.drewN n3).drewN n4) (by rw [← E5.out]; exact (HC2.out.bk.below (below_drewN _ _)).below (below_drewN _ _)) (by rw [← F5.out]; exact (HD2.out.bk.below (below_drewN _ _)).below (below_drewN _ _)) (by have := HN.out.bk; omega)).mono ?_
  rintro e w5 ⟨rfl, n5, rfl⟩
  refine ⟨_, rfl, ?_⟩
  simp only [Act.put, List.setIfInBounds_toArray, List.set_cons_zero, List.set_cons_succ]
  refine WL.val (by kernel_rfl) (.bool true) (by go_simp) ?_
  simp only [Act.put, List.setIfInBounds_toArray, List.set_cons_zero, List.set_cons_succ]
  refine WL.val (by kernel_rfl) (.bool true) (by go_simp) ?_
  simp only [Act.put, List.setIfInBounds_toArray, List.set_cons_zero, List.set_cons_succ]
  refine WL.nil ?_
  refine hK2 _ _ ?_
  refine wp_ret ?_
  go_ret
  exact ⟨rfl, B2.out.trans ((((below_drewN w2 n3).trans (below_drewN (w2.drewN n3) n4)).trans (below_drewN ((w2.drewN n3).drewN n4) n5)).mono B2.out.size)⟩
theorem ok_of_dec {M : MsgV} (hc : chkM M = 0) (hs : 0 ≤ M.sa ∧ M.sa < 18446744073709551616) (hB : Byts (encM M)) : MsOk M := by
  obtain ⟨h1, h2, h3, h4, h5, h6, h7, h8, h9, h10, h11⟩ := chk_facts hc
  have hr := (okR_iff M.bk).1 h10
  have hP : ∀ i ∈ hasI M.k, ∀ c ∈ putF i M, 0 ≤ c ∧ c < 256 := fun i hi c hcc => hB c (by rw [encM]; exact List.mem_append_right _ (List.mem_flatMap.2 ⟨i, hi, hcc⟩))
  have hk : -9223372036854775808 ≤ M.k ∧ M.k ≤ 9223372036854775807 := by rcases hasI_cases h1 with e | e | e <;> rw [e] <;> decide
  have hbl : M.bl.length ≤ 140737488355328 ∧ Byts M.bl := by
    rcases hasI_cases h1 with e | e | e
    · have : isP (M.bl.length : Int) = true := by
        rcases Bool.eq_false_or_eq_true (isP (M.bl.length : Int)) with hh | hh
        · exact hh
        · exact absurd ⟨e, hh⟩ h9
      have := isP_rng this
      exact ⟨by omega, fun c hcc => hP 2 (by rw [e]; simp [hasI]) c (by simp [putF, bform, hcc])⟩
    · have : M.bl = [] := by simp [moreB, e, leftB] at h2; exact h2.1.2
      rw [this]; exact ⟨by decide, fun c hcc => by simp at hcc⟩
    · have : M.bl = [] := by simp [moreB, e, leftB] at h2; exact h2.1.2
      rw [this]; exact ⟨by decide, fun c hcc => by simp at hcc⟩
  refine ⟨hk, hs, by omega, hbl.1, by omega, by omega, hbl.2, fun i hi => by have := hr i hi; omega, fun r hrr c hcc => ?_⟩
  rcases hasI_cases h1 with e | e | e
  · have : M.bk = [] := by simp [moreB, e] at h2; exact h2
    rw [this] at hrr; simp at hrr
  · have : M.bk = [] := by simp [moreB, e, leftB] at h2; exact h2.2
    rw [this] at hrr; simp at hrr
  · exact hP 4 (by rw [e]; simp [hasI]) c (by simp only [putF]; simp; rw [bkL]; exact List.mem_append_right _ (List.mem_flatMap.2 ⟨r, hrr, by rw [bform]; exact List.mem_append_right _ hcc⟩))
theorem zeroM_ok : MsOk zeroM := ⟨by decide, by decide, by decide, by decide, by decide, by decide, fun c hc => by simp [zeroM] at hc, fun i hi => by simp [zeroM] at hi, fun r hr => by simp [zeroM] at hr⟩
theorem zero_at (w : World) : MsAt w zeroM zeroC := ⟨rfl, rfl, hrow_nil w, .inl ⟨rfl, rfl⟩, hrow_nil w, RwsAt.nil w⟩
theorem fresh_row {w w' : World} {v : Value} {l : List Int} (h : FreshB w w' v l) : ∃ g, v = .slice (some ⟨g, 0, none⟩) l.length l.length ∧ RowAt w' v l := by
  obtain ⟨g, h1, _, h3⟩ := h
  exact ⟨g, h1, by rw [h1]; exact row_of h3 rfl⟩
end Go.Proofs.Ytlogkojhcccogaa
