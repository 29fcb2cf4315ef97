import Derived.Test.YtgpgnldcdimmbaaK09
import Derived.Test.YtgpgnldcdimmbaaK10
import Derived.Deep.RegionHeld3
namespace Go.Proofs.Ytgpgnldcdimmbaa
open Go.RowKit
set_option linter.unusedSimpArgs false
set_option linter.unusedVariables false

theorem Try.in13 (w : World) (vs : Array Value) : (callFunc 13 vs).run Try.prog w = .ok (.enter 13 vs) w := by kernel_rfl
theorem Try.in31 (w : World) (vs : Array Value) : (callFunc 31 vs).run Try.prog w = .ok (.enter 31 vs) w := by kernel_rfl
theorem rises_no {L : List Hs} {t : Nat} (h1 : t + 1 < L.length) (h : 0 ≤ Sh.cf (L.getD t default) (L.getD (t + 1) default)) : Sh.risesB L = false := by
  rcases Bool.eq_false_or_eq_true (Sh.risesB L) with e | e
  · have := (Sh.risesB_iff L).1 e t h1
    omega
  · exact e
theorem chkN_of {N : NodeV} {c : Int} (e : headE N = c) (hc : c ≠ 0) : chkN N = c := by unfold chkN; rw [e, if_pos hc]
theorem chk_50 {N : NodeV} (h : ¬ (1 ≤ N.au ∧ N.au ≤ 8)) : chkN N = 50 := chkN_of (if_pos h) (by decide)
theorem chk_51 {N : NodeV} (h : 1 ≤ N.au ∧ N.au ≤ 8) (h2 : N.ck < 1 ∨ 4096 < N.ck ∨ ((N.ck == 1) == ((N.ps.length : Int) == 0)) = false) : chkN N = 51 := chkN_of ((if_neg (fun k => k h)).trans (if_pos h2)) (by decide)
theorem chk_52 {N : NodeV} (h : 1 ≤ N.au ∧ N.au ≤ 8) (h2 : ¬ (N.ck < 1 ∨ 4096 < N.ck ∨ ((N.ck == 1) == ((N.ps.length : Int) == 0)) = false)) (h3 : 64 < N.ps.length ∨ Sh.risesB N.ps = false) : chkN N = 52 := chkN_of ((if_neg (fun k => k h)).trans ((if_neg h2).trans (if_pos h3))) (by decide)
theorem chk_0 {N : NodeV} (h : 1 ≤ N.au ∧ N.au ≤ 8) (h2 : ¬ (N.ck < 1 ∨ 4096 < N.ck ∨ ((N.ck == 1) == ((N.ps.length : Int) == 0)) = false)) (h3 : ¬ 64 < N.ps.length) (h4 : Sh.risesB N.ps = true) : chkN N = (chk N.ops).1 := by
  have e : headE N = 0 := (if_neg (fun k => k h)).trans ((if_neg h2).trans (if_neg (fun k => by
    rcases k with k | k
    · exact h3 k
    · rw [h4] at k; cases k)))
  unfold chkN
  rw [e]
  rfl
set_option maxRecDepth 8000 in
set_option maxHeartbeats 4000000 in
theorem rcheck_node (N : NodeV) (vp vo : Value) (w : World) (hN : NdAt w N vp vo) : Calls Try.prog 13 #[.agg (ndA N.au N.ck vp vo)] w fun e w' => e = .returned (.int .i64 (chkN N)) ∧ Below w.heap.size w w' := by
  obtain ⟨pa, pc, rfl⟩ := hN.ps.form
  have HN := Keep.mk hN
  clear hN
  go_enter Try.func13, Try.ntmps13
  refine wp_seq_k fun K1 hK1 => ?_
  refine wp_region_list (WL.out ?_)
  refine WL.box (by kernel_rfl) 27 (.tmp 0) rfl _ rfl ?_
  have HX1 := Keep.mk (Blk.new w 27 (ndA N.au N.ck (.slice pa N.ps.length pc) vo))
  have B1 := Keep.mk (below_new w (.cells (ndA N.au N.ck (.slice pa N.ps.length pc) vo) 27))
  generalize w.alloc (.cells (ndA N.au N.ck (.slice pa N.ps.length pc) vo) 27) = w1 at *
  have HN1 := Keep.mk (HN.out.below B1.out)
  have Hs1 : Keep (w.heap.size < w1.heap.size) := ⟨HX1.out.lt⟩
  have B1x : Keep (w.heap.size ≤ w1.heap.size) := ⟨B1.out.size⟩
  generalize hgg : w.heap.size = g at *
  have d0 := HX1.out.c 0 (nd_0 _ _ _ _)
  have d1 := HX1.out.c 1 (nd_1 _ _ _ _)
  have d2 := HX1.out.c 2 (nd_2 _ _ _ _)
  have d3 := HX1.out.c 3 (nd_3 _ _ _ _)
  simp only [Act.put, List.setIfInBounds_toArray, List.set_cons_zero, List.set_cons_succ]
  refine WL.val (by kernel_rfl) (.int .i64 0) (by go_simp) ?_
  simp only [Act.put, List.setIfInBounds_toArray, List.set_cons_zero, List.set_cons_succ]
  refine WL.nil ?_
  refine hK1 _ _ ?_
  refine wp_seq_k fun K2 hK2 => ?_
  refine wp_seq_k fun K3 hK3 => ?_
  refine wp_region_list (WL.out ?_)
  refine WL.val (by kernel_rfl) (.pointer (some ⟨g, 0, none⟩)) (by go_simp) ?_
  simp only [Act.put, List.setIfInBounds_toArray, List.set_cons_zero, List.set_cons_succ]
  refine WL.val (by kernel_rfl) (.int .i64 N.au) (by go_simp) ?_
  simp only [Act.put, List.setIfInBounds_toArray, List.set_cons_zero, List.set_cons_succ]
  by_cases h1_2 : N.au < 1
  · skip
    refine WL.val (by kernel_rfl) (.bool true) (by go_simp) ?_
    simp only [Act.put, List.setIfInBounds_toArray, List.set_cons_zero, List.set_cons_succ]
    refine WL.val (by kernel_rfl) (.bool true) (by go_simp) ?_
    simp only [Act.put, List.setIfInBounds_toArray, List.set_cons_zero, List.set_cons_succ]
    refine WL.skip (by kernel_rfl) ?_
    simp only [Act.put, List.setIfInBounds_toArray, List.set_cons_zero, List.set_cons_succ]
    refine WL.skip (by kernel_rfl) ?_
    simp only [Act.put, List.setIfInBounds_toArray, List.set_cons_zero, List.set_cons_succ]
    refine WL.skip (by kernel_rfl) ?_
    simp only [Act.put, List.setIfInBounds_toArray, List.set_cons_zero, List.set_cons_succ]
    refine WL.val (by kernel_rfl) (.bool true) (by go_simp) ?_
    simp only [Act.put, List.setIfInBounds_toArray, List.set_cons_zero, List.set_cons_succ]
    refine WL.nil ?_
    refine hK3 _ _ ?_
    refine wp_cond_true rfl ?_
    refine wp_seq_k fun K4 hK4 => ?_
    refine wp_region_list (WL.out ?_)
    refine WL.val (by kernel_rfl) (.int .i64 50) (by go_simp) ?_
    simp only [Act.put, List.setIfInBounds_toArray, List.set_cons_zero, List.set_cons_succ]
    refine WL.nil ?_
    refine hK4 _ _ ?_
    refine wp_ret ?_
    go_ret
    refine ⟨?_, B1.out⟩
    rw [chk_50 (by omega)]; rfl
  · skip
    refine WL.val (by kernel_rfl) (.bool false) (by go_simp) ?_
    simp only [Act.put, List.setIfInBounds_toArray, List.set_cons_zero, List.set_cons_succ]
    refine WL.val (by kernel_rfl) (.bool false) (by go_simp) ?_
    simp only [Act.put, List.setIfInBounds_toArray, List.set_cons_zero, List.set_cons_succ]
    refine WL.val (by kernel_rfl) (.pointer (some ⟨g, 0, none⟩)) (by go_simp) ?_
    simp only [Act.put, List.setIfInBounds_toArray, List.set_cons_zero, List.set_cons_succ]
    refine WL.val (by kernel_rfl) (.int .i64 N.au) (by go_simp) ?_
    simp only [Act.put, List.setIfInBounds_toArray, List.set_cons_zero, List.set_cons_succ]
    by_cases h1_6 : 8 < N.au
    · skip
      refine WL.val (by kernel_rfl) (.bool true) (by go_simp) ?_
      simp only [Act.put, List.setIfInBounds_toArray, List.set_cons_zero, List.set_cons_succ]
      refine WL.val (by kernel_rfl) (.bool true) (by go_simp) ?_
      simp only [Act.put, List.setIfInBounds_toArray, List.set_cons_zero, List.set_cons_succ]
      refine WL.nil ?_
      refine hK3 _ _ ?_
      refine wp_cond_true rfl ?_
      refine wp_seq_k fun K5 hK5 => ?_
      refine wp_region_list (WL.out ?_)
      refine WL.val (by kernel_rfl) (.int .i64 50) (by go_simp) ?_
      simp only [Act.put, List.setIfInBounds_toArray, List.set_cons_zero, List.set_cons_succ]
      refine WL.nil ?_
      refine hK5 _ _ ?_
      refine wp_ret ?_
      go_ret
      refine ⟨?_, B1.out⟩
      rw [chk_50 (by omega)]; rfl
    · skip
      refine WL.val (by kernel_rfl) (.bool false) (by go_simp) ?_
      simp only [Act.put, List.setIfInBounds_toArray, List.set_cons_zero, List.set_cons_succ]
      refine WL.val (by kernel_rfl) (.bool false) (by go_simp) ?_
      simp only [Act.put, List.setIfInBounds_toArray, List.set_cons_zero, List.set_cons_succ]
      refine WL.nil ?_
      refine hK3 _ _ ?_
      refine wp_cond_false rfl ?_
      refine wp_skip ?_
      refine hK2 _ _ ?_
      refine wp_seq_k fun K6 hK6 => ?_
      refine wp_seq_k fun K7 hK7 => ?_
      refine wp_region_list (WL.out ?_)
      refine WL.val (by kernel_rfl) (.pointer (some ⟨g, 1, none⟩)) (by go_simp) ?_
      simp only [Act.put, List.setIfInBounds_toArray, List.set_cons_zero, List.set_cons_succ]
      refine WL.val (by kernel_rfl) (.int .i64 N.ck) (by go_simp) ?_
      simp only [Act.put, List.setIfInBounds_toArray, List.set_cons_zero, List.set_cons_succ]
      by_cases h3_2 : N.ck < 1
      · skip
        refine WL.val (by kernel_rfl) (.bool true) (by go_simp) ?_
        simp only [Act.put, List.setIfInBounds_toArray, List.set_cons_zero, List.set_cons_succ]
        refine WL.val (by kernel_rfl) (.bool true) (by go_simp) ?_
        simp only [Act.put, List.setIfInBounds_toArray, List.set_cons_zero, List.set_cons_succ]
        refine WL.skip (by kernel_rfl) ?_
        simp only [Act.put, List.setIfInBounds_toArray, List.set_cons_zero, List.set_cons_succ]
        refine WL.skip (by kernel_rfl) ?_
        simp only [Act.put, List.setIfInBounds_toArray, List.set_cons_zero, List.set_cons_succ]
        refine WL.skip (by kernel_rfl) ?_
        simp only [Act.put, List.setIfInBounds_toArray, List.set_cons_zero, List.set_cons_succ]
        refine WL.val (by kernel_rfl) (.bool true) (by go_simp) ?_
        simp only [Act.put, List.setIfInBounds_toArray, List.set_cons_zero, List.set_cons_succ]
        refine WL.val (by kernel_rfl) (.bool true) (by go_simp) ?_
        simp only [Act.put, List.setIfInBounds_toArray, List.set_cons_zero, List.set_cons_succ]
        refine WL.skip (by kernel_rfl) ?_
        simp only [Act.put, List.setIfInBounds_toArray, List.set_cons_zero, List.set_cons_succ]
        refine WL.skip (by kernel_rfl) ?_
        simp only [Act.put, List.setIfInBounds_toArray, List.set_cons_zero, List.set_cons_succ]
        refine WL.skip (by kernel_rfl) ?_
        simp only [Act.put, List.setIfInBounds_toArray, List.set_cons_zero, List.set_cons_succ]
        refine WL.skip (by kernel_rfl) ?_
        simp only [Act.put, List.setIfInBounds_toArray, List.set_cons_zero, List.set_cons_succ]
        refine WL.skip (by kernel_rfl) ?_
        simp only [Act.put, List.setIfInBounds_toArray, List.set_cons_zero, List.set_cons_succ]
        refine WL.skip (by kernel_rfl) ?_
        simp only [Act.put, List.setIfInBounds_toArray, List.set_cons_zero, List.set_cons_succ]
        refine WL.skip (by kernel_rfl) ?_
        simp only [Act.put, List.setIfInBounds_toArray, List.set_cons_zero, List.set_cons_succ]
        refine WL.skip (by kernel_rfl) ?_
        simp only [Act.put, List.setIfInBounds_toArray, List.set_cons_zero, List.set_cons_succ]
        refine WL.val (by kernel_rfl) (.bool true) (by go_simp) ?_
        simp only [Act.put, List.setIfInBounds_toArray, List.set_cons_zero, List.set_cons_succ]
        refine WL.nil ?_
        refine hK7 _ _ ?_
        refine wp_cond_true rfl ?_
        refine wp_seq_k fun K8 hK8 => ?_
        refine wp_region_list (WL.out ?_)
        refine WL.val (by kernel_rfl) (.int .i64 51) (by go_simp) ?_
        simp only [Act.put, List.setIfInBounds_toArray, List.set_cons_zero, List.set_cons_succ]
        refine WL.nil ?_
        refine hK8 _ _ ?_
        refine wp_ret ?_
        go_ret
        refine ⟨?_, B1.out⟩
        rw [chk_51 (by omega) (by simp; omega)]; rfl
      · skip
        refine WL.val (by kernel_rfl) (.bool false) (by go_simp) ?_
        simp only [Act.put, List.setIfInBounds_toArray, List.set_cons_zero, List.set_cons_succ]
        refine WL.val (by kernel_rfl) (.bool false) (by go_simp) ?_
        simp only [Act.put, List.setIfInBounds_toArray, List.set_cons_zero, List.set_cons_succ]
        refine WL.val (by kernel_rfl) (.pointer (some ⟨g, 1, none⟩)) (by go_simp) ?_
        simp only [Act.put, List.setIfInBounds_toArray, List.set_cons_zero, List.set_cons_succ]
        refine WL.val (by kernel_rfl) (.int .i64 N.ck) (by go_simp) ?_
        simp only [Act.put, List.setIfInBounds_toArray, List.set_cons_zero, List.set_cons_succ]
        by_cases h3_6 : 4096 < N.ck
        · skip
          refine WL.val (by kernel_rfl) (.bool true) (by go_simp) ?_
          simp only [Act.put, List.setIfInBounds_toArray, List.set_cons_zero, List.set_cons_succ]
          refine WL.val (by kernel_rfl) (.bool true) (by go_simp) ?_
          simp only [Act.put, List.setIfInBounds_toArray, List.set_cons_zero, List.set_cons_succ]
          refine WL.val (by kernel_rfl) (.bool true) (by go_simp) ?_
          simp only [Act.put, List.setIfInBounds_toArray, List.set_cons_zero, List.set_cons_succ]
          refine WL.skip (by kernel_rfl) ?_
          simp only [Act.put, List.setIfInBounds_toArray, List.set_cons_zero, List.set_cons_succ]
          refine WL.skip (by kernel_rfl) ?_
          simp only [Act.put, List.setIfInBounds_toArray, List.set_cons_zero, List.set_cons_succ]
          refine WL.skip (by kernel_rfl) ?_
          simp only [Act.put, List.setIfInBounds_toArray, List.set_cons_zero, List.set_cons_succ]
          refine WL.skip (by kernel_rfl) ?_
          simp only [Act.put, List.setIfInBounds_toArray, List.set_cons_zero, List.set_cons_succ]
          refine WL.skip (by kernel_rfl) ?_
          simp only [Act.put, List.setIfInBounds_toArray, List.set_cons_zero, List.set_cons_succ]
          refine WL.skip (by kernel_rfl) ?_
          simp only [Act.put, List.setIfInBounds_toArray, List.set_cons_zero, List.set_cons_succ]
          refine WL.skip (by kernel_rfl) ?_
          simp only [Act.put, List.setIfInBounds_toArray, List.set_cons_zero, List.set_cons_succ]
          refine WL.skip (by kernel_rfl) ?_
          simp only [Act.put, List.setIfInBounds_toArray, List.set_cons_zero, List.set_cons_succ]
          refine WL.val (by kernel_rfl) (.bool true) (by go_simp) ?_
          simp only [Act.put, List.setIfInBounds_toArray, List.set_cons_zero, List.set_cons_succ]
          refine WL.nil ?_
          refine hK7 _ _ ?_
          refine wp_cond_true rfl ?_
          refine wp_seq_k fun K9 hK9 => ?_
          refine wp_region_list (WL.out ?_)
          refine WL.val (by kernel_rfl) (.int .i64 51) (by go_simp) ?_
          simp only [Act.put, List.setIfInBounds_toArray, List.set_cons_zero, List.set_cons_succ]
          refine WL.nil ?_
          refine hK9 _ _ ?_
          refine wp_ret ?_
          go_ret
          refine ⟨?_, B1.out⟩
          rw [chk_51 (by omega) (by simp; omega)]; rfl
        · skip
          refine WL.val (by kernel_rfl) (.bool false) (by go_simp) ?_
          simp only [Act.put, List.setIfInBounds_toArray, List.set_cons_zero, List.set_cons_succ]
          refine WL.val (by kernel_rfl) (.bool false) (by go_simp) ?_
          simp only [Act.put, List.setIfInBounds_toArray, List.set_cons_zero, List.set_cons_succ]
          refine WL.val (by kernel_rfl) (.bool false) (by go_simp) ?_
          simp only [Act.put, List.setIfInBounds_toArray, List.set_cons_zero, List.set_cons_succ]
          refine WL.val (by kernel_rfl) (.pointer (some ⟨g, 1, none⟩)) (by go_simp) ?_
          simp only [Act.put, List.setIfInBounds_toArray, List.set_cons_zero, List.set_cons_succ]
          refine WL.val (by kernel_rfl) (.int .i64 N.ck) (by go_simp) ?_
          simp only [Act.put, List.setIfInBounds_toArray, List.set_cons_zero, List.set_cons_succ]
          by_cases h3_11 : N.ck = 1
          · skip
            refine WL.val (by kernel_rfl) (.bool true) (by go_simp) ?_
            simp only [Act.put, List.setIfInBounds_toArray, List.set_cons_zero, List.set_cons_succ]
            refine WL.val (by kernel_rfl) (.pointer (some ⟨g, 2, none⟩)) (by go_simp) ?_
            simp only [Act.put, List.setIfInBounds_toArray, List.set_cons_zero, List.set_cons_succ]
            refine WL.val (by kernel_rfl) (.slice pa N.ps.length pc) (by go_simp) ?_
            simp only [Act.put, List.setIfInBounds_toArray, List.set_cons_zero, List.set_cons_succ]
            refine WL.val (by kernel_rfl) (.int .i64 (N.ps.length : Int)) (by go_simp) ?_
            simp only [Act.put, List.setIfInBounds_toArray, List.set_cons_zero, List.set_cons_succ]
            by_cases h3_15 : N.ps.length = 0
            · have h3_15i : (N.ps.length : Int) = 0 := by omega
              refine WL.val (by kernel_rfl) (.bool true) (by go_simp) ?_
              simp only [Act.put, List.setIfInBounds_toArray, List.set_cons_zero, List.set_cons_succ]
              refine WL.val (by kernel_rfl) (.bool false) (by go_simp) ?_
              simp only [Act.put, List.setIfInBounds_toArray, List.set_cons_zero, List.set_cons_succ]
              refine WL.val (by kernel_rfl) (.bool false) (by go_simp) ?_
              simp only [Act.put, List.setIfInBounds_toArray, List.set_cons_zero, List.set_cons_succ]
              refine WL.nil ?_
              refine hK7 _ _ ?_
              refine wp_cond_false rfl ?_
              refine wp_skip ?_
              refine hK6 _ _ ?_
              refine wp_seq_k fun K10 hK10 => ?_
              refine wp_seq_k fun K11 hK11 => ?_
              have h5_3 : ¬ 64 < N.ps.length := by omega
              refine wp_region_list (WL.out ?_)
              refine WL.val (by kernel_rfl) (.pointer (some ⟨g, 2, none⟩)) (by go_simp) ?_
              simp only [Act.put, List.setIfInBounds_toArray, List.set_cons_zero, List.set_cons_succ]
              refine WL.val (by kernel_rfl) (.slice pa N.ps.length pc) (by go_simp) ?_
              simp only [Act.put, List.setIfInBounds_toArray, List.set_cons_zero, List.set_cons_succ]
              refine WL.val (by kernel_rfl) (.int .i64 (N.ps.length : Int)) (by go_simp) ?_
              simp only [Act.put, List.setIfInBounds_toArray, List.set_cons_zero, List.set_cons_succ]
              refine WL.val (by kernel_rfl) (.bool false) (by go_simp) ?_
              simp only [Act.put, List.setIfInBounds_toArray, List.set_cons_zero, List.set_cons_succ]
              refine WL.nil ?_
              refine hK11 _ _ ?_
              refine wp_cond_false rfl ?_
              refine wp_skip ?_
              refine hK10 _ _ ?_
              refine wp_seq_k fun K12 hK12 => ?_
              refine wp_seq_k fun K13 hK13 => ?_
              have HK1 : Keep (1 ≤ N.au ∧ N.au ≤ 8) := ⟨by omega⟩
              have HK2 : Keep (¬ (N.ck < 1 ∨ 4096 < N.ck ∨ ((N.ck == 1) == ((N.ps.length : Int) == 0)) = false)) := ⟨fun h => by
                rcases h with h | h | h
                · omega
                · omega
                · rw [beq_iff_eq.2 h3_11, beq_iff_eq.2 h3_15i] at h; cases h⟩
              have HK3 : Keep (¬ 64 < N.ps.length) := ⟨by omega⟩
              try clear h1_2i
              try clear h1_2
              try clear h1_6i
              try clear h1_6
              try clear h3_2i
              try clear h3_2
              try clear h3_6i
              try clear h3_6
              try clear h3_11i
              try clear h3_11
              try clear h3_15i
              try clear h3_15
              try clear h5_3
              refine wp_region_list (WL.out ?_)
              refine WL.val (by kernel_rfl) (.int .i64 1) (by go_simp) ?_
              simp only [Act.put, List.setIfInBounds_toArray, List.set_cons_zero, List.set_cons_succ]
              refine WL.nil ?_
              refine hK13 _ _ ?_
              refine wp_block ?_
              refine wp_loop (fun ac wr => ∃ (t : Nat) (u2 u36 u37 u38 u39 u40 u41 u42 u43 u44 u45 u46 u47 u48 u49 u50 u51 u52 u53 u54 u55 : Value), ac = { tmps := #[.agg (ndA N.au N.ck (.slice pa N.ps.length pc) vo), .pointer (some ⟨g, 0, none⟩), u2, .int .i64 ((t : Int) + 1), undef, undef, .pointer (some ⟨g, 0, none⟩), .int .i64 N.au, .bool false, .bool false, .pointer (some ⟨g, 0, none⟩), .int .i64 N.au, .bool false, .bool false, .pointer (some ⟨g, 1, none⟩), .int .i64 N.ck, .bool false, .bool false, .pointer (some ⟨g, 1, none⟩), .int .i64 N.ck, .bool false, .bool false, .bool false, .pointer (some ⟨g, 1, none⟩), .int .i64 N.ck, .bool true, .pointer (some ⟨g, 2, none⟩), .slice pa N.ps.length pc, .int .i64 (N.ps.length : Int), .bool true, .bool false, .bool false, .pointer (some ⟨g, 2, none⟩), .slice pa N.ps.length pc, .int .i64 (N.ps.length : Int), .bool false, u36, u37, u38, u39, u40, u41, u42, u43, u44, u45, u46, u47, u48, u49, u50, u51, u52, u53, u54, u55, undef, undef, undef, undef, undef, undef, undef], defers := [] } ∧ (∀ i, i < t → Sh.cf (N.ps.getD i default) (N.ps.getD (i + 1) default) < 0) ∧ Below w1.heap.size w1 wr) (fun a _ => N.ps.length - (intOf (a.tmps.getD 3 undef)).toNat) ⟨0, .int .i64 0, undef, undef, undef, undef, undef, undef, undef, undef, undef, undef, undef, undef, undef, undef, undef, undef, undef, undef, undef, undef, rfl, (fun i hi => by omega), Below.refl _ _⟩ ?_
              rintro ac wr ⟨t, u2, u36, u37, u38, u39, u40, u41, u42, u43, u44, u45, u46, u47, u48, u49, u50, u51, u52, u53, u54, u55, rfl, hE, hB⟩
              have JB := Keep.mk hB
              have JE := Keep.mk hE
              clear hB hE
              have e2 := (HX1.out.below JB.out HX1.out.lt).c 2 (nd_2 _ _ _ _)
              have e3 := (HX1.out.below JB.out HX1.out.lt).c 3 (nd_3 _ _ _ _)
              by_cases htl : t + 1 < N.ps.length
              · have htl' : (t : Int) + 1 < (N.ps.length : Int) := by omega
                have htt : t < N.ps.length := by omega
                have htt' : (t : Int) < (N.ps.length : Int) := by omega
                have htn : ¬ (t : Int) + 1 < 0 := by omega
                have hwm : IntKind.i64.wrap ((t : Int) + 1 - 1) = (t : Int) := by rw [IntKind.wrap_i64]; have := HN.out.lp; omega
                have hwm' : IntKind.i64.wrap (t : Int) = (t : Int) := by rw [IntKind.wrap_i64]; have := HN.out.lp; omega
                have hwr1 : IntKind.i64.wrap ((t : Int) + 1 + 1) = (t : Int) + 1 + 1 := by rw [IntKind.wrap_i64]; have := HN.out.lp; omega
                obtain ⟨ga, fa, hpa, hea⟩ := HRow.elem (HN1.out.below JB.out).ps htt
                obtain ⟨gb, fb, hpb, heb⟩ := HRow.elem (HN1.out.below JB.out).ps htl
                rw [hpa] at hpb
                cases hpb
                subst hpa
                obtain ⟨x, hx⟩ : ∃ x, x = N.ps.getD t default := ⟨_, rfl⟩
                obtain ⟨y, hy⟩ : ∃ y, y = N.ps.getD (t + 1) default := ⟨_, rfl⟩
                rw [← hx] at hea
                rw [← hy] at heb
                have HS0 : Keep (∀ wx, Below wr.heap.size wr wx → wx.cell? ⟨g, 2, none⟩ = some (.slice (some ⟨ga, fa, none⟩) N.ps.length pc) ∧ wx.rangeAt ga (fa + t * 32) (Sh.encH x) ∧ wx.rangeAt ga (fa + (t + 1) * 32) (Sh.encH y)) := ⟨fun wx hb => ⟨((HX1.out.below JB.out HX1.out.lt).below hb (HX1.out.below JB.out HX1.out.lt).lt).c 2 (nd_2 _ _ _ _), hea wx hb, heb wx hb⟩⟩
                have Jx := Keep.mk hx
                have Jy := Keep.mk hy
                clear hea heb hx hy
                refine wp_seq_k fun K14 hK14 => ?_
                refine wp_seq_k fun K15 hK15 => ?_
                refine wp_region_list (WL.out ?_)
                refine WL.val (by kernel_rfl) (.int .i64 ((t : Int) + 1)) (by go_simp) ?_
                simp only [Act.put, List.setIfInBounds_toArray, List.set_cons_zero, List.set_cons_succ]
                refine WL.val (by kernel_rfl) (.pointer (some ⟨g, 2, none⟩)) (by go_simp) ?_
                simp only [Act.put, List.setIfInBounds_toArray, List.set_cons_zero, List.set_cons_succ]
                refine WL.val (by kernel_rfl) (.slice (some ⟨ga, fa, none⟩) N.ps.length pc) (by go_simp) ?_
                simp only [Act.put, List.setIfInBounds_toArray, List.set_cons_zero, List.set_cons_succ]
                refine WL.val (by kernel_rfl) (.int .i64 (N.ps.length : Int)) (by go_simp) ?_
                simp only [Act.put, List.setIfInBounds_toArray, List.set_cons_zero, List.set_cons_succ]
                refine WL.val (by kernel_rfl) (.bool true) (by go_simp) ?_
                simp only [Act.put, List.setIfInBounds_toArray, List.set_cons_zero, List.set_cons_succ]
                refine WL.nil ?_
                refine hK15 _ _ ?_
                refine wp_cond_true rfl ?_
                refine wp_skip ?_
                refine hK14 _ _ ?_
                refine wp_seq_k fun K16 hK16 => ?_
                refine wp_block ?_
                refine wp_seq_k fun K17 hK17 => ?_
                have hD0 : Below wr.heap.size wr wr.drew := (Below.refl _ _).drew
                obtain ⟨C, hC⟩ : ∃ C, Keep (C = Sh.cf x y) := ⟨_, ⟨rfl⟩⟩
                by_cases hC0 : 0 ≤ C
                · skip
                  refine wp_region_held_drew (S := fun wx => wx.cell? ⟨g, 2, none⟩ = some (.slice (some ⟨ga, fa, none⟩) N.ps.length pc) ∧ wx.rangeAt ga (fa + t * 32) (Sh.encH x) ∧ wx.rangeAt ga (fa + (t + 1) * 32) (Sh.encH y)) (by kernel_rfl) (HS0.out _ hD0) (fun hHeld => ?_)
                  refine wpAnyH_take (i := 0) (oi := ⟨some 43, Op.fieldAddr 27 (Operand.tmp 1) 2, 0, _, _, none⟩) (v := .pointer (some ⟨g, 2, none⟩)) rfl (by kernel_rfl) (by kernel_rfl) (by kernel_rfl) (fun _ _ _ h => h) (Or.inl ⟨by rfl, fun w hS => by obtain ⟨hs1, hs2, hs3⟩ := hS; go_simp⟩) hHeld ?_
                  simp only [Act.put, List.setIfInBounds_toArray, List.set_cons_zero, List.set_cons_succ]
                  refine wpAnyH_take (i := 1) (oi := ⟨some 44, Op.load 24 (Operand.tmp 43), 24, _, _, none⟩) (v := .slice (some ⟨ga, fa, none⟩) N.ps.length pc) rfl (by kernel_rfl) (by kernel_rfl) (by kernel_rfl) (fun _ _ _ h => h) (Or.inl ⟨by rfl, fun w hS => by obtain ⟨hs1, hs2, hs3⟩ := hS; go_simp⟩) hHeld ?_
                  simp only [Act.put, List.setIfInBounds_toArray, List.set_cons_zero, List.set_cons_succ]
                  refine wpAnyH_take (i := 2) (oi := ⟨some 45, Op.move (Operand.tmp 3), 3, _, _, none⟩) (v := .int .i64 ((t : Int) + 1)) rfl (by kernel_rfl) (by kernel_rfl) (by kernel_rfl) (fun _ _ _ h => h) (Or.inl ⟨by rfl, fun w hS => by obtain ⟨hs1, hs2, hs3⟩ := hS; go_simp⟩) hHeld ?_
                  simp only [Act.put, List.setIfInBounds_toArray, List.set_cons_zero, List.set_cons_succ]
                  refine wpAnyH_take (i := 3) (oi := ⟨some 46, Op.binOp BinOp.sub 3 (Operand.tmp 45) (Operand.const (Value.int IntKind.i64 1)) 3, 3, _, _, none⟩) (v := .int .i64 (t : Int)) rfl (by kernel_rfl) (by kernel_rfl) (by kernel_rfl) (fun _ _ _ h => h) (Or.inl ⟨by rfl, fun w hS => by obtain ⟨hs1, hs2, hs3⟩ := hS; go_simp⟩) hHeld ?_
                  simp only [Act.put, List.setIfInBounds_toArray, List.set_cons_zero, List.set_cons_succ]
                  refine wpAnyH_take (i := 4) (oi := ⟨some 47, Op.indexAddr 24 (Operand.tmp 44) (Operand.tmp 46), 0, _, _, none⟩) (v := .pointer (some ⟨ga, fa + t * 32, none⟩)) rfl (by kernel_rfl) (by kernel_rfl) (by kernel_rfl) (fun _ _ _ h => h) (Or.inl ⟨by rfl, fun w hS => by obtain ⟨hs1, hs2, hs3⟩ := hS; go_simp⟩) hHeld ?_
                  simp only [Act.put, List.setIfInBounds_toArray, List.set_cons_zero, List.set_cons_succ]
                  refine wpAnyH_take (i := 5) (oi := ⟨some 48, Op.load 40 (Operand.tmp 47), 40, _, _, none⟩) (v := .agg (Sh.encH x).toArray) rfl (by kernel_rfl) (by kernel_rfl) (by kernel_rfl) (fun _ _ _ h => h) (yieldsIf_load_mid (by rfl) 40 (Operand.tmp 47) rfl ga (fa + t * 32) rfl (Sh.encH x) _ (fun w hS => hS.2.1) Try.underlying40 rfl (Try.sizeHL x)) hHeld ?_
                  simp only [Act.put, List.setIfInBounds_toArray, List.set_cons_zero, List.set_cons_succ]
                  refine wpAnyH_take (i := 6) (oi := ⟨some 49, Op.fieldAddr 27 (Operand.tmp 1) 2, 0, _, _, none⟩) (v := .pointer (some ⟨g, 2, none⟩)) rfl (by kernel_rfl) (by kernel_rfl) (by kernel_rfl) (fun _ _ _ h => h) (Or.inl ⟨by rfl, fun w hS => by obtain ⟨hs1, hs2, hs3⟩ := hS; go_simp⟩) hHeld ?_
                  simp only [Act.put, List.setIfInBounds_toArray, List.set_cons_zero, List.set_cons_succ]
                  refine wpAnyH_take (i := 7) (oi := ⟨some 50, Op.load 24 (Operand.tmp 49), 24, _, _, none⟩) (v := .slice (some ⟨ga, fa, none⟩) N.ps.length pc) rfl (by kernel_rfl) (by kernel_rfl) (by kernel_rfl) (fun _ _ _ h => h) (Or.inl ⟨by rfl, fun w hS => by obtain ⟨hs1, hs2, hs3⟩ := hS; go_simp⟩) hHeld ?_
                  simp only [Act.put, List.setIfInBounds_toArray, List.set_cons_zero, List.set_cons_succ]
                  refine wpAnyH_take (i := 8) (oi := ⟨some 51, Op.move (Operand.tmp 3), 3, _, _, none⟩) (v := .int .i64 ((t : Int) + 1)) rfl (by kernel_rfl) (by kernel_rfl) (by kernel_rfl) (fun _ _ _ h => h) (Or.inl ⟨by rfl, fun w hS => by obtain ⟨hs1, hs2, hs3⟩ := hS; go_simp⟩) hHeld ?_
                  simp only [Act.put, List.setIfInBounds_toArray, List.set_cons_zero, List.set_cons_succ]
                  refine wpAnyH_take (i := 9) (oi := ⟨some 52, Op.indexAddr 24 (Operand.tmp 50) (Operand.tmp 51), 0, _, _, none⟩) (v := .pointer (some ⟨ga, fa + (t + 1) * 32, none⟩)) rfl (by kernel_rfl) (by kernel_rfl) (by kernel_rfl) (fun _ _ _ h => h) (Or.inl ⟨by rfl, fun w hS => by obtain ⟨hs1, hs2, hs3⟩ := hS; go_simp⟩) hHeld ?_
                  simp only [Act.put, List.setIfInBounds_toArray, List.set_cons_zero, List.set_cons_succ]
                  refine wpAnyH_take (i := 10) (oi := ⟨some 53, Op.load 40 (Operand.tmp 52), 40, _, _, none⟩) (v := .agg (Sh.encH y).toArray) rfl (by kernel_rfl) (by kernel_rfl) (by kernel_rfl) (fun _ _ _ h => h) (yieldsIf_load_mid (by rfl) 40 (Operand.tmp 52) rfl ga (fa + (t + 1) * 32) rfl (Sh.encH y) _ (fun w hS => hS.2.2) Try.underlying40 rfl (Try.sizeHL y)) hHeld ?_
                  simp only [Act.put, List.setIfInBounds_toArray, List.set_cons_zero, List.set_cons_succ]
                  refine wpAnyH_ready (rs := [11]) (by kernel_rfl) (by simp) ?_
                  refine AllReadyH.cons (o := ⟨some 54, Op.call { callee := Callee.value (Operand.func 31), args := #[Operand.tmp 48, Operand.tmp 53], argTypes := #[40, 40] }, 3, _, _, none⟩) rfl (fun K hK => ?_) AllReadyH.nil
                  rw [if_pos (by rfl)]
                  refine wp_callF 31 _ _ rfl Try.in31 #[.agg (Sh.bytesA 32 x.f), .agg (Sh.bytesA 32 y.f)] (by simp [Act.eval, Sh.encH_arr]) (fun vz wz => vz = .int .i64 C ∧ Below wr.heap.size wr wz) ?_ ?_
                  · refine (Sh.refCompare_any x y wr.drew).mono ?_
                    rintro e wz ⟨rfl, q9, os9, h⟩
                    exact ⟨_, rfl, by rw [hC.out], by rw [h]; exact hD0.trans ((Sh.grown_below wr.drew q9 os9).mono hD0.size)⟩
                  rintro vz w7 ⟨rfl, h7⟩
                  have HB7 := Keep.mk h7
                  clear h7
                  refine hK.out _ _ (HS0.out _ HB7.out) fun hHeld2 => ?_
                  clear hK
                  simp only [Act.put, List.setIfInBounds_toArray, List.set_cons_zero, List.set_cons_succ]
                  refine wpAnyH_take (i := 12) (oi := ⟨some 55, Op.binOp BinOp.geq 3 (Operand.tmp 54) (Operand.const (Value.int IntKind.i64 0)) 3, 4, _, _, none⟩) (v := .bool true) rfl (by kernel_rfl) (by kernel_rfl) (by kernel_rfl) (fun _ _ _ h => h) (Or.inl ⟨by rfl, fun w hS => by obtain ⟨hs1, hs2, hs3⟩ := hS; go_simp⟩) hHeld2 ?_
                  simp only [Act.put, List.setIfInBounds_toArray, List.set_cons_zero, List.set_cons_succ]
                  refine wpAnyH_done (by kernel_rfl) ?_ _
                  refine hK17 _ _ ?_
                  refine wp_cond_true rfl ?_
                  refine wp_seq_k fun K18 hK18 => ?_
                  refine wp_region_list (WL.out ?_)
                  refine WL.val (by kernel_rfl) (.int .i64 52) (by go_simp) ?_
                  simp only [Act.put, List.setIfInBounds_toArray, List.set_cons_zero, List.set_cons_succ]
                  refine WL.nil ?_
                  refine hK18 _ _ ?_
                  refine wp_ret ?_
                  go_ret
                  refine ⟨?_, B1.out.trans ((JB.out.trans (HB7.out.mono JB.out.size)).mono B1x.out)⟩
                  rw [show chkN N = 52 from chk_52 HK1.out HK2.out (.inr (rises_no htl (by rw [← Jx.out, ← Jy.out, ← hC.out]; exact hC0)))]; rfl
                · skip
                  refine wp_region_held_drew (S := fun wx => wx.cell? ⟨g, 2, none⟩ = some (.slice (some ⟨ga, fa, none⟩) N.ps.length pc) ∧ wx.rangeAt ga (fa + t * 32) (Sh.encH x) ∧ wx.rangeAt ga (fa + (t + 1) * 32) (Sh.encH y)) (by kernel_rfl) (HS0.out _ hD0) (fun hHeld => ?_)
                  refine wpAnyH_take (i := 0) (oi := ⟨some 43, Op.fieldAddr 27 (Operand.tmp 1) 2, 0, _, _, none⟩) (v := .pointer (some ⟨g, 2, none⟩)) rfl (by kernel_rfl) (by kernel_rfl) (by kernel_rfl) (fun _ _ _ h => h) (Or.inl ⟨by rfl, fun w hS => by obtain ⟨hs1, hs2, hs3⟩ := hS; go_simp⟩) hHeld ?_
                  simp only [Act.put, List.setIfInBounds_toArray, List.set_cons_zero, List.set_cons_succ]
                  refine wpAnyH_take (i := 1) (oi := ⟨some 44, Op.load 24 (Operand.tmp 43), 24, _, _, none⟩) (v := .slice (some ⟨ga, fa, none⟩) N.ps.length pc) rfl (by kernel_rfl) (by kernel_rfl) (by kernel_rfl) (fun _ _ _ h => h) (Or.inl ⟨by rfl, fun w hS => by obtain ⟨hs1, hs2, hs3⟩ := hS; go_simp⟩) hHeld ?_
                  simp only [Act.put, List.setIfInBounds_toArray, List.set_cons_zero, List.set_cons_succ]
                  refine wpAnyH_take (i := 2) (oi := ⟨some 45, Op.move (Operand.tmp 3), 3, _, _, none⟩) (v := .int .i64 ((t : Int) + 1)) rfl (by kernel_rfl) (by kernel_rfl) (by kernel_rfl) (fun _ _ _ h => h) (Or.inl ⟨by rfl, fun w hS => by obtain ⟨hs1, hs2, hs3⟩ := hS; go_simp⟩) hHeld ?_
                  simp only [Act.put, List.setIfInBounds_toArray, List.set_cons_zero, List.set_cons_succ]
                  refine wpAnyH_take (i := 3) (oi := ⟨some 46, Op.binOp BinOp.sub 3 (Operand.tmp 45) (Operand.const (Value.int IntKind.i64 1)) 3, 3, _, _, none⟩) (v := .int .i64 (t : Int)) rfl (by kernel_rfl) (by kernel_rfl) (by kernel_rfl) (fun _ _ _ h => h) (Or.inl ⟨by rfl, fun w hS => by obtain ⟨hs1, hs2, hs3⟩ := hS; go_simp⟩) hHeld ?_
                  simp only [Act.put, List.setIfInBounds_toArray, List.set_cons_zero, List.set_cons_succ]
                  refine wpAnyH_take (i := 4) (oi := ⟨some 47, Op.indexAddr 24 (Operand.tmp 44) (Operand.tmp 46), 0, _, _, none⟩) (v := .pointer (some ⟨ga, fa + t * 32, none⟩)) rfl (by kernel_rfl) (by kernel_rfl) (by kernel_rfl) (fun _ _ _ h => h) (Or.inl ⟨by rfl, fun w hS => by obtain ⟨hs1, hs2, hs3⟩ := hS; go_simp⟩) hHeld ?_
                  simp only [Act.put, List.setIfInBounds_toArray, List.set_cons_zero, List.set_cons_succ]
                  refine wpAnyH_take (i := 5) (oi := ⟨some 48, Op.load 40 (Operand.tmp 47), 40, _, _, none⟩) (v := .agg (Sh.encH x).toArray) rfl (by kernel_rfl) (by kernel_rfl) (by kernel_rfl) (fun _ _ _ h => h) (yieldsIf_load_mid (by rfl) 40 (Operand.tmp 47) rfl ga (fa + t * 32) rfl (Sh.encH x) _ (fun w hS => hS.2.1) Try.underlying40 rfl (Try.sizeHL x)) hHeld ?_
                  simp only [Act.put, List.setIfInBounds_toArray, List.set_cons_zero, List.set_cons_succ]
                  refine wpAnyH_take (i := 6) (oi := ⟨some 49, Op.fieldAddr 27 (Operand.tmp 1) 2, 0, _, _, none⟩) (v := .pointer (some ⟨g, 2, none⟩)) rfl (by kernel_rfl) (by kernel_rfl) (by kernel_rfl) (fun _ _ _ h => h) (Or.inl ⟨by rfl, fun w hS => by obtain ⟨hs1, hs2, hs3⟩ := hS; go_simp⟩) hHeld ?_
                  simp only [Act.put, List.setIfInBounds_toArray, List.set_cons_zero, List.set_cons_succ]
                  refine wpAnyH_take (i := 7) (oi := ⟨some 50, Op.load 24 (Operand.tmp 49), 24, _, _, none⟩) (v := .slice (some ⟨ga, fa, none⟩) N.ps.length pc) rfl (by kernel_rfl) (by kernel_rfl) (by kernel_rfl) (fun _ _ _ h => h) (Or.inl ⟨by rfl, fun w hS => by obtain ⟨hs1, hs2, hs3⟩ := hS; go_simp⟩) hHeld ?_
                  simp only [Act.put, List.setIfInBounds_toArray, List.set_cons_zero, List.set_cons_succ]
                  refine wpAnyH_take (i := 8) (oi := ⟨some 51, Op.move (Operand.tmp 3), 3, _, _, none⟩) (v := .int .i64 ((t : Int) + 1)) rfl (by kernel_rfl) (by kernel_rfl) (by kernel_rfl) (fun _ _ _ h => h) (Or.inl ⟨by rfl, fun w hS => by obtain ⟨hs1, hs2, hs3⟩ := hS; go_simp⟩) hHeld ?_
                  simp only [Act.put, List.setIfInBounds_toArray, List.set_cons_zero, List.set_cons_succ]
                  refine wpAnyH_take (i := 9) (oi := ⟨some 52, Op.indexAddr 24 (Operand.tmp 50) (Operand.tmp 51), 0, _, _, none⟩) (v := .pointer (some ⟨ga, fa + (t + 1) * 32, none⟩)) rfl (by kernel_rfl) (by kernel_rfl) (by kernel_rfl) (fun _ _ _ h => h) (Or.inl ⟨by rfl, fun w hS => by obtain ⟨hs1, hs2, hs3⟩ := hS; go_simp⟩) hHeld ?_
                  simp only [Act.put, List.setIfInBounds_toArray, List.set_cons_zero, List.set_cons_succ]
                  refine wpAnyH_take (i := 10) (oi := ⟨some 53, Op.load 40 (Operand.tmp 52), 40, _, _, none⟩) (v := .agg (Sh.encH y).toArray) rfl (by kernel_rfl) (by kernel_rfl) (by kernel_rfl) (fun _ _ _ h => h) (yieldsIf_load_mid (by rfl) 40 (Operand.tmp 52) rfl ga (fa + (t + 1) * 32) rfl (Sh.encH y) _ (fun w hS => hS.2.2) Try.underlying40 rfl (Try.sizeHL y)) hHeld ?_
                  simp only [Act.put, List.setIfInBounds_toArray, List.set_cons_zero, List.set_cons_succ]
                  refine wpAnyH_ready (rs := [11]) (by kernel_rfl) (by simp) ?_
                  refine AllReadyH.cons (o := ⟨some 54, Op.call { callee := Callee.value (Operand.func 31), args := #[Operand.tmp 48, Operand.tmp 53], argTypes := #[40, 40] }, 3, _, _, none⟩) rfl (fun K hK => ?_) AllReadyH.nil
                  rw [if_pos (by rfl)]
                  refine wp_callF 31 _ _ rfl Try.in31 #[.agg (Sh.bytesA 32 x.f), .agg (Sh.bytesA 32 y.f)] (by simp [Act.eval, Sh.encH_arr]) (fun vz wz => vz = .int .i64 C ∧ Below wr.heap.size wr wz) ?_ ?_
                  · refine (Sh.refCompare_any x y wr.drew).mono ?_
                    rintro e wz ⟨rfl, q9, os9, h⟩
                    exact ⟨_, rfl, by rw [hC.out], by rw [h]; exact hD0.trans ((Sh.grown_below wr.drew q9 os9).mono hD0.size)⟩
                  rintro vz w7 ⟨rfl, h7⟩
                  have HB7 := Keep.mk h7
                  clear h7
                  refine hK.out _ _ (HS0.out _ HB7.out) fun hHeld2 => ?_
                  clear hK
                  simp only [Act.put, List.setIfInBounds_toArray, List.set_cons_zero, List.set_cons_succ]
                  refine wpAnyH_take (i := 12) (oi := ⟨some 55, Op.binOp BinOp.geq 3 (Operand.tmp 54) (Operand.const (Value.int IntKind.i64 0)) 3, 4, _, _, none⟩) (v := .bool false) rfl (by kernel_rfl) (by kernel_rfl) (by kernel_rfl) (fun _ _ _ h => h) (Or.inl ⟨by rfl, fun w hS => by obtain ⟨hs1, hs2, hs3⟩ := hS; go_simp⟩) hHeld2 ?_
                  simp only [Act.put, List.setIfInBounds_toArray, List.set_cons_zero, List.set_cons_succ]
                  refine wpAnyH_done (by kernel_rfl) ?_ _
                  refine hK17 _ _ ?_
                  refine wp_cond_false rfl ?_
                  refine wp_skip ?_
                  refine hK16 _ _ ?_
                  refine wp_region_list (WL.out ?_)
                  refine WL.val (by kernel_rfl) (.int .i64 ((t : Int) + 1)) (by go_simp) ?_
                  simp only [Act.put, List.setIfInBounds_toArray, List.set_cons_zero, List.set_cons_succ]
                  refine WL.val (by kernel_rfl) (.int .i64 ((t : Int) + 1 + 1)) (by go_simp) ?_
                  simp only [Act.put, List.setIfInBounds_toArray, List.set_cons_zero, List.set_cons_succ]
                  refine WL.val (by kernel_rfl) (.int .i64 ((t : Int) + 1 + 1)) (by go_simp) ?_
                  simp only [Act.put, List.setIfInBounds_toArray, List.set_cons_zero, List.set_cons_succ]
                  refine WL.nil ?_
                  refine ⟨⟨t + 1, u2, .int .i64 ((t : Int) + 1), .pointer (some ⟨g, 2, none⟩), .slice (some ⟨ga, fa, none⟩) N.ps.length pc, .int .i64 (N.ps.length : Int), .bool true, .int .i64 ((t : Int) + 1), .int .i64 ((t : Int) + 1 + 1), .pointer (some ⟨g, 2, none⟩), .slice (some ⟨ga, fa, none⟩) N.ps.length pc, .int .i64 ((t : Int) + 1), .int .i64 (t : Int), .pointer (some ⟨ga, fa + t * 32, none⟩), .agg (Sh.encH x).toArray, .pointer (some ⟨g, 2, none⟩), .slice (some ⟨ga, fa, none⟩) N.ps.length pc, .int .i64 ((t : Int) + 1), .pointer (some ⟨ga, fa + (t + 1) * 32, none⟩), .agg (Sh.encH y).toArray, .int .i64 C, .bool false, rfl, fun i hi => ?_, JB.out.trans (HB7.out.mono JB.out.size)⟩, ?_⟩
                  · by_cases hit2 : i < t
                    · exact JE.out i hit2
                    · rw [show i = t by omega, ← Jx.out, ← Jy.out, ← hC.out]; omega
                  · simp only [intOf]; show N.ps.length - ((t : Int) + 1 + 1).toNat < N.ps.length - ((t : Int) + 1).toNat; omega
              · have htl' : ¬ (t : Int) + 1 < (N.ps.length : Int) := by omega
                refine wp_seq_k fun K19 hK19 => ?_
                refine wp_seq_k fun K20 hK20 => ?_
                refine wp_region_list (WL.out ?_)
                refine WL.val (by kernel_rfl) (.int .i64 ((t : Int) + 1)) (by go_simp) ?_
                simp only [Act.put, List.setIfInBounds_toArray, List.set_cons_zero, List.set_cons_succ]
                refine WL.val (by kernel_rfl) (.pointer (some ⟨g, 2, none⟩)) (by go_simp) ?_
                simp only [Act.put, List.setIfInBounds_toArray, List.set_cons_zero, List.set_cons_succ]
                refine WL.val (by kernel_rfl) (.slice pa N.ps.length pc) (by go_simp) ?_
                simp only [Act.put, List.setIfInBounds_toArray, List.set_cons_zero, List.set_cons_succ]
                refine WL.val (by kernel_rfl) (.int .i64 (N.ps.length : Int)) (by go_simp) ?_
                simp only [Act.put, List.setIfInBounds_toArray, List.set_cons_zero, List.set_cons_succ]
                refine WL.val (by kernel_rfl) (.bool false) (by go_simp) ?_
                simp only [Act.put, List.setIfInBounds_toArray, List.set_cons_zero, List.set_cons_succ]
                refine WL.nil ?_
                refine hK20 _ _ ?_
                refine wp_cond_false rfl ?_
                refine wp_exit ?_
                refine hK12 _ _ ?_
                refine wp_seq_k fun K21 hK21 => ?_
                refine wp_region_list (WL.out ?_)
                refine WL.val (by kernel_rfl) (.pointer (some ⟨g, 3, none⟩)) (by go_simp) ?_
                simp only [Act.put, List.setIfInBounds_toArray, List.set_cons_zero, List.set_cons_succ]
                refine WL.val (by kernel_rfl) (vo) (by go_simp) ?_
                simp only [Act.put, List.setIfInBounds_toArray, List.set_cons_zero, List.set_cons_succ]
                refine WL.callF (by kernel_rfl) 32 _ _ rfl Try.in32 #[vo] (by simp [Act.eval]) ?_
                refine (rcheck_any vo N.ops wr (HN1.out.below JB.out).ops HN.out.ok HN.out.lo).mono ?_
                rintro e w9 ⟨rfl, hb9⟩
                refine ⟨_, rfl, ?_⟩
                have B9 := Keep.mk hb9
                clear hb9
                generalize hz1 : (chk N.ops).1 = Z1 at *
                generalize ((chk N.ops).2 : Int) = Z2 at *
                simp only [Act.put, List.setIfInBounds_toArray, List.set_cons_zero, List.set_cons_succ]
                refine WL.val (by kernel_rfl) (.tuple #[.int .i64 Z1, .int .i64 Z2]) (by go_simp) ?_
                simp only [Act.put, List.setIfInBounds_toArray, List.set_cons_zero, List.set_cons_succ]
                refine WL.val (by kernel_rfl) (.int .i64 Z1) (by go_simp) ?_
                simp only [Act.put, List.setIfInBounds_toArray, List.set_cons_zero, List.set_cons_succ]
                refine WL.val (by kernel_rfl) (.int .i64 Z2) (by go_simp) ?_
                simp only [Act.put, List.setIfInBounds_toArray, List.set_cons_zero, List.set_cons_succ]
                refine WL.val (by kernel_rfl) (.int .i64 Z1) (by go_simp) ?_
                simp only [Act.put, List.setIfInBounds_toArray, List.set_cons_zero, List.set_cons_succ]
                refine WL.val (by kernel_rfl) (.int .i64 Z2) (by go_simp) ?_
                simp only [Act.put, List.setIfInBounds_toArray, List.set_cons_zero, List.set_cons_succ]
                refine WL.nil ?_
                refine hK21 _ _ ?_
                refine wp_seq_k fun K22 hK22 => ?_
                refine wp_region_list (WL.out ?_)
                refine WL.val (by kernel_rfl) (.int .i64 Z1) (by go_simp) ?_
                simp only [Act.put, List.setIfInBounds_toArray, List.set_cons_zero, List.set_cons_succ]
                refine WL.val (by kernel_rfl) (.int .i64 Z1) (by go_simp) ?_
                simp only [Act.put, List.setIfInBounds_toArray, List.set_cons_zero, List.set_cons_succ]
                refine WL.nil ?_
                refine hK22 _ _ ?_
                refine wp_ret ?_
                go_ret
                refine ⟨?_, B1.out.trans ((JB.out.trans (B9.out.mono JB.out.size)).mono B1x.out)⟩
                rw [chk_0 HK1.out HK2.out HK3.out ((Sh.risesB_iff N.ps).2 (fun i hi => JE.out i (by omega))), hz1]; rfl
            · have h3_15i : ¬ (N.ps.length : Int) = 0 := by omega
              refine WL.val (by kernel_rfl) (.bool false) (by go_simp) ?_
              simp only [Act.put, List.setIfInBounds_toArray, List.set_cons_zero, List.set_cons_succ]
              refine WL.val (by kernel_rfl) (.bool true) (by go_simp) ?_
              simp only [Act.put, List.setIfInBounds_toArray, List.set_cons_zero, List.set_cons_succ]
              refine WL.val (by kernel_rfl) (.bool true) (by go_simp) ?_
              simp only [Act.put, List.setIfInBounds_toArray, List.set_cons_zero, List.set_cons_succ]
              refine WL.nil ?_
              refine hK7 _ _ ?_
              refine wp_cond_true rfl ?_
              refine wp_seq_k fun K23 hK23 => ?_
              refine wp_region_list (WL.out ?_)
              refine WL.val (by kernel_rfl) (.int .i64 51) (by go_simp) ?_
              simp only [Act.put, List.setIfInBounds_toArray, List.set_cons_zero, List.set_cons_succ]
              refine WL.nil ?_
              refine hK23 _ _ ?_
              refine wp_ret ?_
              go_ret
              refine ⟨?_, B1.out⟩
              rw [chk_51 (by omega) (.inr (.inr (by rw [beq_iff_eq.2 h3_11, beq_eq_false_iff_ne.2 h3_15i]; rfl)))]; rfl
          · skip
            refine WL.val (by kernel_rfl) (.bool false) (by go_simp) ?_
            simp only [Act.put, List.setIfInBounds_toArray, List.set_cons_zero, List.set_cons_succ]
            refine WL.val (by kernel_rfl) (.pointer (some ⟨g, 2, none⟩)) (by go_simp) ?_
            simp only [Act.put, List.setIfInBounds_toArray, List.set_cons_zero, List.set_cons_succ]
            refine WL.val (by kernel_rfl) (.slice pa N.ps.length pc) (by go_simp) ?_
            simp only [Act.put, List.setIfInBounds_toArray, List.set_cons_zero, List.set_cons_succ]
            refine WL.val (by kernel_rfl) (.int .i64 (N.ps.length : Int)) (by go_simp) ?_
            simp only [Act.put, List.setIfInBounds_toArray, List.set_cons_zero, List.set_cons_succ]
            by_cases h3_15 : N.ps.length = 0
            · have h3_15i : (N.ps.length : Int) = 0 := by omega
              refine WL.val (by kernel_rfl) (.bool true) (by go_simp) ?_
              simp only [Act.put, List.setIfInBounds_toArray, List.set_cons_zero, List.set_cons_succ]
              refine WL.val (by kernel_rfl) (.bool true) (by go_simp) ?_
              simp only [Act.put, List.setIfInBounds_toArray, List.set_cons_zero, List.set_cons_succ]
              refine WL.val (by kernel_rfl) (.bool true) (by go_simp) ?_
              simp only [Act.put, List.setIfInBounds_toArray, List.set_cons_zero, List.set_cons_succ]
              refine WL.nil ?_
              refine hK7 _ _ ?_
              refine wp_cond_true rfl ?_
              refine wp_seq_k fun K24 hK24 => ?_
              refine wp_region_list (WL.out ?_)
              refine WL.val (by kernel_rfl) (.int .i64 51) (by go_simp) ?_
              simp only [Act.put, List.setIfInBounds_toArray, List.set_cons_zero, List.set_cons_succ]
              refine WL.nil ?_
              refine hK24 _ _ ?_
              refine wp_ret ?_
              go_ret
              refine ⟨?_, B1.out⟩
              rw [chk_51 (by omega) (.inr (.inr (by rw [beq_eq_false_iff_ne.2 h3_11, beq_iff_eq.2 h3_15i]; rfl)))]; rfl
            · have h3_15i : ¬ (N.ps.length : Int) = 0 := by omega
              refine WL.val (by kernel_rfl) (.bool false) (by go_simp) ?_
              simp only [Act.put, List.setIfInBounds_toArray, List.set_cons_zero, List.set_cons_succ]
              refine WL.val (by kernel_rfl) (.bool false) (by go_simp) ?_
              simp only [Act.put, List.setIfInBounds_toArray, List.set_cons_zero, List.set_cons_succ]
              refine WL.val (by kernel_rfl) (.bool false) (by go_simp) ?_
              simp only [Act.put, List.setIfInBounds_toArray, List.set_cons_zero, List.set_cons_succ]
              refine WL.nil ?_
              refine hK7 _ _ ?_
              refine wp_cond_false rfl ?_
              refine wp_skip ?_
              refine hK6 _ _ ?_
              refine wp_seq_k fun K25 hK25 => ?_
              refine wp_seq_k fun K26 hK26 => ?_
              refine wp_region_list (WL.out ?_)
              refine WL.val (by kernel_rfl) (.pointer (some ⟨g, 2, none⟩)) (by go_simp) ?_
              simp only [Act.put, List.setIfInBounds_toArray, List.set_cons_zero, List.set_cons_succ]
              refine WL.val (by kernel_rfl) (.slice pa N.ps.length pc) (by go_simp) ?_
              simp only [Act.put, List.setIfInBounds_toArray, List.set_cons_zero, List.set_cons_succ]
              refine WL.val (by kernel_rfl) (.int .i64 (N.ps.length : Int)) (by go_simp) ?_
              simp only [Act.put, List.setIfInBounds_toArray, List.set_cons_zero, List.set_cons_succ]
              by_cases h5_3 : 64 < N.ps.length
              · have h5_3i : 64 < (N.ps.length : Int) := by omega
                refine WL.val (by kernel_rfl) (.bool true) (by go_simp) ?_
                simp only [Act.put, List.setIfInBounds_toArray, List.set_cons_zero, List.set_cons_succ]
                refine WL.nil ?_
                refine hK26 _ _ ?_
                refine wp_cond_true rfl ?_
                refine wp_seq_k fun K27 hK27 => ?_
                refine wp_region_list (WL.out ?_)
                refine WL.val (by kernel_rfl) (.int .i64 52) (by go_simp) ?_
                simp only [Act.put, List.setIfInBounds_toArray, List.set_cons_zero, List.set_cons_succ]
                refine WL.nil ?_
                refine hK27 _ _ ?_
                refine wp_ret ?_
                go_ret
                refine ⟨?_, B1.out⟩
                rw [chk_52 (by omega) (fun h => by
                  rcases h with h | h | h
                  · omega
                  · omega
                  · rw [beq_eq_false_iff_ne.2 h3_11, beq_eq_false_iff_ne.2 h3_15i] at h; cases h) (.inl (by omega))]; rfl
              · have h5_3i : ¬ 64 < (N.ps.length : Int) := by omega
                refine WL.val (by kernel_rfl) (.bool false) (by go_simp) ?_
                simp only [Act.put, List.setIfInBounds_toArray, List.set_cons_zero, List.set_cons_succ]
                refine WL.nil ?_
                refine hK26 _ _ ?_
                refine wp_cond_false rfl ?_
                refine wp_skip ?_
                refine hK25 _ _ ?_
                refine wp_seq_k fun K28 hK28 => ?_
                refine wp_seq_k fun K29 hK29 => ?_
                have HK1 : Keep (1 ≤ N.au ∧ N.au ≤ 8) := ⟨by omega⟩
                have HK2 : Keep (¬ (N.ck < 1 ∨ 4096 < N.ck ∨ ((N.ck == 1) == ((N.ps.length : Int) == 0)) = false)) := ⟨fun h => by
                  rcases h with h | h | h
                  · omega
                  · omega
                  · rw [beq_eq_false_iff_ne.2 h3_11, beq_eq_false_iff_ne.2 h3_15i] at h; cases h⟩
                have HK3 : Keep (¬ 64 < N.ps.length) := ⟨by omega⟩
                try clear h1_2i
                try clear h1_2
                try clear h1_6i
                try clear h1_6
                try clear h3_2i
                try clear h3_2
                try clear h3_6i
                try clear h3_6
                try clear h3_11i
                try clear h3_11
                try clear h3_15i
                try clear h3_15
                try clear h5_3i
                try clear h5_3
                try clear h5_3
                refine wp_region_list (WL.out ?_)
                refine WL.val (by kernel_rfl) (.int .i64 1) (by go_simp) ?_
                simp only [Act.put, List.setIfInBounds_toArray, List.set_cons_zero, List.set_cons_succ]
                refine WL.nil ?_
                refine hK29 _ _ ?_
                refine wp_block ?_
                refine wp_loop (fun ac wr => ∃ (t : Nat) (u2 u36 u37 u38 u39 u40 u41 u42 u43 u44 u45 u46 u47 u48 u49 u50 u51 u52 u53 u54 u55 : Value), ac = { tmps := #[.agg (ndA N.au N.ck (.slice pa N.ps.length pc) vo), .pointer (some ⟨g, 0, none⟩), u2, .int .i64 ((t : Int) + 1), undef, undef, .pointer (some ⟨g, 0, none⟩), .int .i64 N.au, .bool false, .bool false, .pointer (some ⟨g, 0, none⟩), .int .i64 N.au, .bool false, .bool false, .pointer (some ⟨g, 1, none⟩), .int .i64 N.ck, .bool false, .bool false, .pointer (some ⟨g, 1, none⟩), .int .i64 N.ck, .bool false, .bool false, .bool false, .pointer (some ⟨g, 1, none⟩), .int .i64 N.ck, .bool false, .pointer (some ⟨g, 2, none⟩), .slice pa N.ps.length pc, .int .i64 (N.ps.length : Int), .bool false, .bool false, .bool false, .pointer (some ⟨g, 2, none⟩), .slice pa N.ps.length pc, .int .i64 (N.ps.length : Int), .bool false, u36, u37, u38, u39, u40, u41, u42, u43, u44, u45, u46, u47, u48, u49, u50, u51, u52, u53, u54, u55, undef, undef, undef, undef, undef, undef, undef], defers := [] } ∧ (∀ i, i < t → Sh.cf (N.ps.getD i default) (N.ps.getD (i + 1) default) < 0) ∧ Below w1.heap.size w1 wr) (fun a _ => N.ps.length - (intOf (a.tmps.getD 3 undef)).toNat) ⟨0, .int .i64 0, undef, undef, undef, undef, undef, undef, undef, undef, undef, undef, undef, undef, undef, undef, undef, undef, undef, undef, undef, undef, rfl, (fun i hi => by omega), Below.refl _ _⟩ ?_
                rintro ac wr ⟨t, u2, u36, u37, u38, u39, u40, u41, u42, u43, u44, u45, u46, u47, u48, u49, u50, u51, u52, u53, u54, u55, rfl, hE, hB⟩
                have JB := Keep.mk hB
                have JE := Keep.mk hE
                clear hB hE
                have e2 := (HX1.out.below JB.out HX1.out.lt).c 2 (nd_2 _ _ _ _)
                have e3 := (HX1.out.below JB.out HX1.out.lt).c 3 (nd_3 _ _ _ _)
                by_cases htl : t + 1 < N.ps.length
                · have htl' : (t : Int) + 1 < (N.ps.length : Int) := by omega
                  have htt : t < N.ps.length := by omega
                  have htt' : (t : Int) < (N.ps.length : Int) := by omega
                  have htn : ¬ (t : Int) + 1 < 0 := by omega
                  have hwm : IntKind.i64.wrap ((t : Int) + 1 - 1) = (t : Int) := by rw [IntKind.wrap_i64]; have := HN.out.lp; omega
                  have hwm' : IntKind.i64.wrap (t : Int) = (t : Int) := by rw [IntKind.wrap_i64]; have := HN.out.lp; omega
                  have hwr1 : IntKind.i64.wrap ((t : Int) + 1 + 1) = (t : Int) + 1 + 1 := by rw [IntKind.wrap_i64]; have := HN.out.lp; omega
                  obtain ⟨ga, fa, hpa, hea⟩ := HRow.elem (HN1.out.below JB.out).ps htt
                  obtain ⟨gb, fb, hpb, heb⟩ := HRow.elem (HN1.out.below JB.out).ps htl
                  rw [hpa] at hpb
                  cases hpb
                  subst hpa
                  obtain ⟨x, hx⟩ : ∃ x, x = N.ps.getD t default := ⟨_, rfl⟩
                  obtain ⟨y, hy⟩ : ∃ y, y = N.ps.getD (t + 1) default := ⟨_, rfl⟩
                  rw [← hx] at hea
                  rw [← hy] at heb
                  have HS0 : Keep (∀ wx, Below wr.heap.size wr wx → wx.cell? ⟨g, 2, none⟩ = some (.slice (some ⟨ga, fa, none⟩) N.ps.length pc) ∧ wx.rangeAt ga (fa + t * 32) (Sh.encH x) ∧ wx.rangeAt ga (fa + (t + 1) * 32) (Sh.encH y)) := ⟨fun wx hb => ⟨((HX1.out.below JB.out HX1.out.lt).below hb (HX1.out.below JB.out HX1.out.lt).lt).c 2 (nd_2 _ _ _ _), hea wx hb, heb wx hb⟩⟩
                  have Jx := Keep.mk hx
                  have Jy := Keep.mk hy
                  clear hea heb hx hy
                  refine wp_seq_k fun K30 hK30 => ?_
                  refine wp_seq_k fun K31 hK31 => ?_
                  refine wp_region_list (WL.out ?_)
                  refine WL.val (by kernel_rfl) (.int .i64 ((t : Int) + 1)) (by go_simp) ?_
                  simp only [Act.put, List.setIfInBounds_toArray, List.set_cons_zero, List.set_cons_succ]
                  refine WL.val (by kernel_rfl) (.pointer (some ⟨g, 2, none⟩)) (by go_simp) ?_
                  simp only [Act.put, List.setIfInBounds_toArray, List.set_cons_zero, List.set_cons_succ]
                  refine WL.val (by kernel_rfl) (.slice (some ⟨ga, fa, none⟩) N.ps.length pc) (by go_simp) ?_
                  simp only [Act.put, List.setIfInBounds_toArray, List.set_cons_zero, List.set_cons_succ]
                  refine WL.val (by kernel_rfl) (.int .i64 (N.ps.length : Int)) (by go_simp) ?_
                  simp only [Act.put, List.setIfInBounds_toArray, List.set_cons_zero, List.set_cons_succ]
                  refine WL.val (by kernel_rfl) (.bool true) (by go_simp) ?_
                  simp only [Act.put, List.setIfInBounds_toArray, List.set_cons_zero, List.set_cons_succ]
                  refine WL.nil ?_
                  refine hK31 _ _ ?_
                  refine wp_cond_true rfl ?_
                  refine wp_skip ?_
                  refine hK30 _ _ ?_
                  refine wp_seq_k fun K32 hK32 => ?_
                  refine wp_block ?_
                  refine wp_seq_k fun K33 hK33 => ?_
                  have hD0 : Below wr.heap.size wr wr.drew := (Below.refl _ _).drew
                  obtain ⟨C, hC⟩ : ∃ C, Keep (C = Sh.cf x y) := ⟨_, ⟨rfl⟩⟩
                  by_cases hC0 : 0 ≤ C
                  · skip
                    refine wp_region_held_drew (S := fun wx => wx.cell? ⟨g, 2, none⟩ = some (.slice (some ⟨ga, fa, none⟩) N.ps.length pc) ∧ wx.rangeAt ga (fa + t * 32) (Sh.encH x) ∧ wx.rangeAt ga (fa + (t + 1) * 32) (Sh.encH y)) (by kernel_rfl) (HS0.out _ hD0) (fun hHeld => ?_)
                    refine wpAnyH_take (i := 0) (oi := ⟨some 43, Op.fieldAddr 27 (Operand.tmp 1) 2, 0, _, _, none⟩) (v := .pointer (some ⟨g, 2, none⟩)) rfl (by kernel_rfl) (by kernel_rfl) (by kernel_rfl) (fun _ _ _ h => h) (Or.inl ⟨by rfl, fun w hS => by obtain ⟨hs1, hs2, hs3⟩ := hS; go_simp⟩) hHeld ?_
                    simp only [Act.put, List.setIfInBounds_toArray, List.set_cons_zero, List.set_cons_succ]
                    refine wpAnyH_take (i := 1) (oi := ⟨some 44, Op.load 24 (Operand.tmp 43), 24, _, _, none⟩) (v := .slice (some ⟨ga, fa, none⟩) N.ps.length pc) rfl (by kernel_rfl) (by kernel_rfl) (by kernel_rfl) (fun _ _ _ h => h) (Or.inl ⟨by rfl, fun w hS => by obtain ⟨hs1, hs2, hs3⟩ := hS; go_simp⟩) hHeld ?_
                    simp only [Act.put, List.setIfInBounds_toArray, List.set_cons_zero, List.set_cons_succ]
                    refine wpAnyH_take (i := 2) (oi := ⟨some 45, Op.move (Operand.tmp 3), 3, _, _, none⟩) (v := .int .i64 ((t : Int) + 1)) rfl (by kernel_rfl) (by kernel_rfl) (by kernel_rfl) (fun _ _ _ h => h) (Or.inl ⟨by rfl, fun w hS => by obtain ⟨hs1, hs2, hs3⟩ := hS; go_simp⟩) hHeld ?_
                    simp only [Act.put, List.setIfInBounds_toArray, List.set_cons_zero, List.set_cons_succ]
                    refine wpAnyH_take (i := 3) (oi := ⟨some 46, Op.binOp BinOp.sub 3 (Operand.tmp 45) (Operand.const (Value.int IntKind.i64 1)) 3, 3, _, _, none⟩) (v := .int .i64 (t : Int)) rfl (by kernel_rfl) (by kernel_rfl) (by kernel_rfl) (fun _ _ _ h => h) (Or.inl ⟨by rfl, fun w hS => by obtain ⟨hs1, hs2, hs3⟩ := hS; go_simp⟩) hHeld ?_
                    simp only [Act.put, List.setIfInBounds_toArray, List.set_cons_zero, List.set_cons_succ]
                    refine wpAnyH_take (i := 4) (oi := ⟨some 47, Op.indexAddr 24 (Operand.tmp 44) (Operand.tmp 46), 0, _, _, none⟩) (v := .pointer (some ⟨ga, fa + t * 32, none⟩)) rfl (by kernel_rfl) (by kernel_rfl) (by kernel_rfl) (fun _ _ _ h => h) (Or.inl ⟨by rfl, fun w hS => by obtain ⟨hs1, hs2, hs3⟩ := hS; go_simp⟩) hHeld ?_
                    simp only [Act.put, List.setIfInBounds_toArray, List.set_cons_zero, List.set_cons_succ]
                    refine wpAnyH_take (i := 5) (oi := ⟨some 48, Op.load 40 (Operand.tmp 47), 40, _, _, none⟩) (v := .agg (Sh.encH x).toArray) rfl (by kernel_rfl) (by kernel_rfl) (by kernel_rfl) (fun _ _ _ h => h) (yieldsIf_load_mid (by rfl) 40 (Operand.tmp 47) rfl ga (fa + t * 32) rfl (Sh.encH x) _ (fun w hS => hS.2.1) Try.underlying40 rfl (Try.sizeHL x)) hHeld ?_
                    simp only [Act.put, List.setIfInBounds_toArray, List.set_cons_zero, List.set_cons_succ]
                    refine wpAnyH_take (i := 6) (oi := ⟨some 49, Op.fieldAddr 27 (Operand.tmp 1) 2, 0, _, _, none⟩) (v := .pointer (some ⟨g, 2, none⟩)) rfl (by kernel_rfl) (by kernel_rfl) (by kernel_rfl) (fun _ _ _ h => h) (Or.inl ⟨by rfl, fun w hS => by obtain ⟨hs1, hs2, hs3⟩ := hS; go_simp⟩) hHeld ?_
                    simp only [Act.put, List.setIfInBounds_toArray, List.set_cons_zero, List.set_cons_succ]
                    refine wpAnyH_take (i := 7) (oi := ⟨some 50, Op.load 24 (Operand.tmp 49), 24, _, _, none⟩) (v := .slice (some ⟨ga, fa, none⟩) N.ps.length pc) rfl (by kernel_rfl) (by kernel_rfl) (by kernel_rfl) (fun _ _ _ h => h) (Or.inl ⟨by rfl, fun w hS => by obtain ⟨hs1, hs2, hs3⟩ := hS; go_simp⟩) hHeld ?_
                    simp only [Act.put, List.setIfInBounds_toArray, List.set_cons_zero, List.set_cons_succ]
                    refine wpAnyH_take (i := 8) (oi := ⟨some 51, Op.move (Operand.tmp 3), 3, _, _, none⟩) (v := .int .i64 ((t : Int) + 1)) rfl (by kernel_rfl) (by kernel_rfl) (by kernel_rfl) (fun _ _ _ h => h) (Or.inl ⟨by rfl, fun w hS => by obtain ⟨hs1, hs2, hs3⟩ := hS; go_simp⟩) hHeld ?_
                    simp only [Act.put, List.setIfInBounds_toArray, List.set_cons_zero, List.set_cons_succ]
                    refine wpAnyH_take (i := 9) (oi := ⟨some 52, Op.indexAddr 24 (Operand.tmp 50) (Operand.tmp 51), 0, _, _, none⟩) (v := .pointer (some ⟨ga, fa + (t + 1) * 32, none⟩)) rfl (by kernel_rfl) (by kernel_rfl) (by kernel_rfl) (fun _ _ _ h => h) (Or.inl ⟨by rfl, fun w hS => by obtain ⟨hs1, hs2, hs3⟩ := hS; go_simp⟩) hHeld ?_
                    simp only [Act.put, List.setIfInBounds_toArray, List.set_cons_zero, List.set_cons_succ]
                    refine wpAnyH_take (i := 10) (oi := ⟨some 53, Op.load 40 (Operand.tmp 52), 40, _, _, none⟩) (v := .agg (Sh.encH y).toArray) rfl (by kernel_rfl) (by kernel_rfl) (by kernel_rfl) (fun _ _ _ h => h) (yieldsIf_load_mid (by rfl) 40 (Operand.tmp 52) rfl ga (fa + (t + 1) * 32) rfl (Sh.encH y) _ (fun w hS => hS.2.2) Try.underlying40 rfl (Try.sizeHL y)) hHeld ?_
                    simp only [Act.put, List.setIfInBounds_toArray, List.set_cons_zero, List.set_cons_succ]
                    refine wpAnyH_ready (rs := [11]) (by kernel_rfl) (by simp) ?_
                    refine AllReadyH.cons (o := ⟨some 54, Op.call { callee := Callee.value (Operand.func 31), args := #[Operand.tmp 48, Operand.tmp 53], argTypes := #[40, 40] }, 3, _, _, none⟩) rfl (fun K hK => ?_) AllReadyH.nil
                    rw [if_pos (by rfl)]
                    refine wp_callF 31 _ _ rfl Try.in31 #[.agg (Sh.bytesA 32 x.f), .agg (Sh.bytesA 32 y.f)] (by simp [Act.eval, Sh.encH_arr]) (fun vz wz => vz = .int .i64 C ∧ Below wr.heap.size wr wz) ?_ ?_
                    · refine (Sh.refCompare_any x y wr.drew).mono ?_
                      rintro e wz ⟨rfl, q9, os9, h⟩
                      exact ⟨_, rfl, by rw [hC.out], by rw [h]; exact hD0.trans ((Sh.grown_below wr.drew q9 os9).mono hD0.size)⟩
                    rintro vz w7 ⟨rfl, h7⟩
                    have HB7 := Keep.mk h7
                    clear h7
                    refine hK.out _ _ (HS0.out _ HB7.out) fun hHeld2 => ?_
                    clear hK
                    simp only [Act.put, List.setIfInBounds_toArray, List.set_cons_zero, List.set_cons_succ]
                    refine wpAnyH_take (i := 12) (oi := ⟨some 55, Op.binOp BinOp.geq 3 (Operand.tmp 54) (Operand.const (Value.int IntKind.i64 0)) 3, 4, _, _, none⟩) (v := .bool true) rfl (by kernel_rfl) (by kernel_rfl) (by kernel_rfl) (fun _ _ _ h => h) (Or.inl ⟨by rfl, fun w hS => by obtain ⟨hs1, hs2, hs3⟩ := hS; go_simp⟩) hHeld2 ?_
                    simp only [Act.put, List.setIfInBounds_toArray, List.set_cons_zero, List.set_cons_succ]
                    refine wpAnyH_done (by kernel_rfl) ?_ _
                    refine hK33 _ _ ?_
                    refine wp_cond_true rfl ?_
                    refine wp_seq_k fun K34 hK34 => ?_
                    refine wp_region_list (WL.out ?_)
                    refine WL.val (by kernel_rfl) (.int .i64 52) (by go_simp) ?_
                    simp only [Act.put, List.setIfInBounds_toArray, List.set_cons_zero, List.set_cons_succ]
                    refine WL.nil ?_
                    refine hK34 _ _ ?_
                    refine wp_ret ?_
                    go_ret
                    refine ⟨?_, B1.out.trans ((JB.out.trans (HB7.out.mono JB.out.size)).mono B1x.out)⟩
                    rw [show chkN N = 52 from chk_52 HK1.out HK2.out (.inr (rises_no htl (by rw [← Jx.out, ← Jy.out, ← hC.out]; exact hC0)))]; rfl
                  · skip
                    refine wp_region_held_drew (S := fun wx => wx.cell? ⟨g, 2, none⟩ = some (.slice (some ⟨ga, fa, none⟩) N.ps.length pc) ∧ wx.rangeAt ga (fa + t * 32) (Sh.encH x) ∧ wx.rangeAt ga (fa + (t + 1) * 32) (Sh.encH y)) (by kernel_rfl) (HS0.out _ hD0) (fun hHeld => ?_)
                    refine wpAnyH_take (i := 0) (oi := ⟨some 43, Op.fieldAddr 27 (Operand.tmp 1) 2, 0, _, _, none⟩) (v := .pointer (some ⟨g, 2, none⟩)) rfl (by kernel_rfl) (by kernel_rfl) (by kernel_rfl) (fun _ _ _ h => h) (Or.inl ⟨by rfl, fun w hS => by obtain ⟨hs1, hs2, hs3⟩ := hS; go_simp⟩) hHeld ?_
                    simp only [Act.put, List.setIfInBounds_toArray, List.set_cons_zero, List.set_cons_succ]
                    refine wpAnyH_take (i := 1) (oi := ⟨some 44, Op.load 24 (Operand.tmp 43), 24, _, _, none⟩) (v := .slice (some ⟨ga, fa, none⟩) N.ps.length pc) rfl (by kernel_rfl) (by kernel_rfl) (by kernel_rfl) (fun _ _ _ h => h) (Or.inl ⟨by rfl, fun w hS => by obtain ⟨hs1, hs2, hs3⟩ := hS; go_simp⟩) hHeld ?_
                    simp only [Act.put, List.setIfInBounds_toArray, List.set_cons_zero, List.set_cons_succ]
                    refine wpAnyH_take (i := 2) (oi := ⟨some 45, Op.move (Operand.tmp 3), 3, _, _, none⟩) (v := .int .i64 ((t : Int) + 1)) rfl (by kernel_rfl) (by kernel_rfl) (by kernel_rfl) (fun _ _ _ h => h) (Or.inl ⟨by rfl, fun w hS => by obtain ⟨hs1, hs2, hs3⟩ := hS; go_simp⟩) hHeld ?_
                    simp only [Act.put, List.setIfInBounds_toArray, List.set_cons_zero, List.set_cons_succ]
                    refine wpAnyH_take (i := 3) (oi := ⟨some 46, Op.binOp BinOp.sub 3 (Operand.tmp 45) (Operand.const (Value.int IntKind.i64 1)) 3, 3, _, _, none⟩) (v := .int .i64 (t : Int)) rfl (by kernel_rfl) (by kernel_rfl) (by kernel_rfl) (fun _ _ _ h => h) (Or.inl ⟨by rfl, fun w hS => by obtain ⟨hs1, hs2, hs3⟩ := hS; go_simp⟩) hHeld ?_
                    simp only [Act.put, List.setIfInBounds_toArray, List.set_cons_zero, List.set_cons_succ]
                    refine wpAnyH_take (i := 4) (oi := ⟨some 47, Op.indexAddr 24 (Operand.tmp 44) (Operand.tmp 46), 0, _, _, none⟩) (v := .pointer (some ⟨ga, fa + t * 32, none⟩)) rfl (by kernel_rfl) (by kernel_rfl) (by kernel_rfl) (fun _ _ _ h => h) (Or.inl ⟨by rfl, fun w hS => by obtain ⟨hs1, hs2, hs3⟩ := hS; go_simp⟩) hHeld ?_
                    simp only [Act.put, List.setIfInBounds_toArray, List.set_cons_zero, List.set_cons_succ]
                    refine wpAnyH_take (i := 5) (oi := ⟨some 48, Op.load 40 (Operand.tmp 47), 40, _, _, none⟩) (v := .agg (Sh.encH x).toArray) rfl (by kernel_rfl) (by kernel_rfl) (by kernel_rfl) (fun _ _ _ h => h) (yieldsIf_load_mid (by rfl) 40 (Operand.tmp 47) rfl ga (fa + t * 32) rfl (Sh.encH x) _ (fun w hS => hS.2.1) Try.underlying40 rfl (Try.sizeHL x)) hHeld ?_
                    simp only [Act.put, List.setIfInBounds_toArray, List.set_cons_zero, List.set_cons_succ]
                    refine wpAnyH_take (i := 6) (oi := ⟨some 49, Op.fieldAddr 27 (Operand.tmp 1) 2, 0, _, _, none⟩) (v := .pointer (some ⟨g, 2, none⟩)) rfl (by kernel_rfl) (by kernel_rfl) (by kernel_rfl) (fun _ _ _ h => h) (Or.inl ⟨by rfl, fun w hS => by obtain ⟨hs1, hs2, hs3⟩ := hS; go_simp⟩) hHeld ?_
                    simp only [Act.put, List.setIfInBounds_toArray, List.set_cons_zero, List.set_cons_succ]
                    refine wpAnyH_take (i := 7) (oi := ⟨some 50, Op.load 24 (Operand.tmp 49), 24, _, _, none⟩) (v := .slice (some ⟨ga, fa, none⟩) N.ps.length pc) rfl (by kernel_rfl) (by kernel_rfl) (by kernel_rfl) (fun _ _ _ h => h) (Or.inl ⟨by rfl, fun w hS => by obtain ⟨hs1, hs2, hs3⟩ := hS; go_simp⟩) hHeld ?_
                    simp only [Act.put, List.setIfInBounds_toArray, List.set_cons_zero, List.set_cons_succ]
                    refine wpAnyH_take (i := 8) (oi := ⟨some 51, Op.move (Operand.tmp 3), 3, _, _, none⟩) (v := .int .i64 ((t : Int) + 1)) rfl (by kernel_rfl) (by kernel_rfl) (by kernel_rfl) (fun _ _ _ h => h) (Or.inl ⟨by rfl, fun w hS => by obtain ⟨hs1, hs2, hs3⟩ := hS; go_simp⟩) hHeld ?_
                    simp only [Act.put, List.setIfInBounds_toArray, List.set_cons_zero, List.set_cons_succ]
                    refine wpAnyH_take (i := 9) (oi := ⟨some 52, Op.indexAddr 24 (Operand.tmp 50) (Operand.tmp 51), 0, _, _, none⟩) (v := .pointer (some ⟨ga, fa + (t + 1) * 32, none⟩)) rfl (by kernel_rfl) (by kernel_rfl) (by kernel_rfl) (fun _ _ _ h => h) (Or.inl ⟨by rfl, fun w hS => by obtain ⟨hs1, hs2, hs3⟩ := hS; go_simp⟩) hHeld ?_
                    simp only [Act.put, List.setIfInBounds_toArray, List.set_cons_zero, List.set_cons_succ]
                    refine wpAnyH_take (i := 10) (oi := ⟨some 53, Op.load 40 (Operand.tmp 52), 40, _, _, none⟩) (v := .agg (Sh.encH y).toArray) rfl (by kernel_rfl) (by kernel_rfl) (by kernel_rfl) (fun _ _ _ h => h) (yieldsIf_load_mid (by rfl) 40 (Operand.tmp 52) rfl ga (fa + (t + 1) * 32) rfl (Sh.encH y) _ (fun w hS => hS.2.2) Try.underlying40 rfl (Try.sizeHL y)) hHeld ?_
                    simp only [Act.put, List.setIfInBounds_toArray, List.set_cons_zero, List.set_cons_succ]
                    refine wpAnyH_ready (rs := [11]) (by kernel_rfl) (by simp) ?_
                    refine AllReadyH.cons (o := ⟨some 54, Op.call { callee := Callee.value (Operand.func 31), args := #[Operand.tmp 48, Operand.tmp 53], argTypes := #[40, 40] }, 3, _, _, none⟩) rfl (fun K hK => ?_) AllReadyH.nil
                    rw [if_pos (by rfl)]
                    refine wp_callF 31 _ _ rfl Try.in31 #[.agg (Sh.bytesA 32 x.f), .agg (Sh.bytesA 32 y.f)] (by simp [Act.eval, Sh.encH_arr]) (fun vz wz => vz = .int .i64 C ∧ Below wr.heap.size wr wz) ?_ ?_
                    · refine (Sh.refCompare_any x y wr.drew).mono ?_
                      rintro e wz ⟨rfl, q9, os9, h⟩
                      exact ⟨_, rfl, by rw [hC.out], by rw [h]; exact hD0.trans ((Sh.grown_below wr.drew q9 os9).mono hD0.size)⟩
                    rintro vz w7 ⟨rfl, h7⟩
                    have HB7 := Keep.mk h7
                    clear h7
                    refine hK.out _ _ (HS0.out _ HB7.out) fun hHeld2 => ?_
                    clear hK
                    simp only [Act.put, List.setIfInBounds_toArray, List.set_cons_zero, List.set_cons_succ]
                    refine wpAnyH_take (i := 12) (oi := ⟨some 55, Op.binOp BinOp.geq 3 (Operand.tmp 54) (Operand.const (Value.int IntKind.i64 0)) 3, 4, _, _, none⟩) (v := .bool false) rfl (by kernel_rfl) (by kernel_rfl) (by kernel_rfl) (fun _ _ _ h => h) (Or.inl ⟨by rfl, fun w hS => by obtain ⟨hs1, hs2, hs3⟩ := hS; go_simp⟩) hHeld2 ?_
                    simp only [Act.put, List.setIfInBounds_toArray, List.set_cons_zero, List.set_cons_succ]
                    refine wpAnyH_done (by kernel_rfl) ?_ _
                    refine hK33 _ _ ?_
                    refine wp_cond_false rfl ?_
                    refine wp_skip ?_
                    refine hK32 _ _ ?_
                    refine wp_region_list (WL.out ?_)
                    refine WL.val (by kernel_rfl) (.int .i64 ((t : Int) + 1)) (by go_simp) ?_
                    simp only [Act.put, List.setIfInBounds_toArray, List.set_cons_zero, List.set_cons_succ]
                    refine WL.val (by kernel_rfl) (.int .i64 ((t : Int) + 1 + 1)) (by go_simp) ?_
                    simp only [Act.put, List.setIfInBounds_toArray, List.set_cons_zero, List.set_cons_succ]
                    refine WL.val (by kernel_rfl) (.int .i64 ((t : Int) + 1 + 1)) (by go_simp) ?_
                    simp only [Act.put, List.setIfInBounds_toArray, List.set_cons_zero, List.set_cons_succ]
                    refine WL.nil ?_
                    refine ⟨⟨t + 1, u2, .int .i64 ((t : Int) + 1), .pointer (some ⟨g, 2, none⟩), .slice (some ⟨ga, fa, none⟩) N.ps.length pc, .int .i64 (N.ps.length : Int), .bool true, .int .i64 ((t : Int) + 1), .int .i64 ((t : Int) + 1 + 1), .pointer (some ⟨g, 2, none⟩), .slice (some ⟨ga, fa, none⟩) N.ps.length pc, .int .i64 ((t : Int) + 1), .int .i64 (t : Int), .pointer (some ⟨ga, fa + t * 32, none⟩), .agg (Sh.encH x).toArray, .pointer (some ⟨g, 2, none⟩), .slice (some ⟨ga, fa, none⟩) N.ps.length pc, .int .i64 ((t : Int) + 1), .pointer (some ⟨ga, fa + (t + 1) * 32, none⟩), .agg (Sh.encH y).toArray, .int .i64 C, .bool false, rfl, fun i hi => ?_, JB.out.trans (HB7.out.mono JB.out.size)⟩, ?_⟩
                    · by_cases hit2 : i < t
                      · exact JE.out i hit2
                      · rw [show i = t by omega, ← Jx.out, ← Jy.out, ← hC.out]; omega
                    · simp only [intOf]; show N.ps.length - ((t : Int) + 1 + 1).toNat < N.ps.length - ((t : Int) + 1).toNat; omega
                · have htl' : ¬ (t : Int) + 1 < (N.ps.length : Int) := by omega
                  refine wp_seq_k fun K35 hK35 => ?_
                  refine wp_seq_k fun K36 hK36 => ?_
                  refine wp_region_list (WL.out ?_)
                  refine WL.val (by kernel_rfl) (.int .i64 ((t : Int) + 1)) (by go_simp) ?_
                  simp only [Act.put, List.setIfInBounds_toArray, List.set_cons_zero, List.set_cons_succ]
                  refine WL.val (by kernel_rfl) (.pointer (some ⟨g, 2, none⟩)) (by go_simp) ?_
                  simp only [Act.put, List.setIfInBounds_toArray, List.set_cons_zero, List.set_cons_succ]
                  refine WL.val (by kernel_rfl) (.slice pa N.ps.length pc) (by go_simp) ?_
                  simp only [Act.put, List.setIfInBounds_toArray, List.set_cons_zero, List.set_cons_succ]
                  refine WL.val (by kernel_rfl) (.int .i64 (N.ps.length : Int)) (by go_simp) ?_
                  simp only [Act.put, List.setIfInBounds_toArray, List.set_cons_zero, List.set_cons_succ]
                  refine WL.val (by kernel_rfl) (.bool false) (by go_simp) ?_
                  simp only [Act.put, List.setIfInBounds_toArray, List.set_cons_zero, List.set_cons_succ]
                  refine WL.nil ?_
                  refine hK36 _ _ ?_
                  refine wp_cond_false rfl ?_
                  refine wp_exit ?_
                  refine hK28 _ _ ?_
                  refine wp_seq_k fun K37 hK37 => ?_
                  refine wp_region_list (WL.out ?_)
                  refine WL.val (by kernel_rfl) (.pointer (some ⟨g, 3, none⟩)) (by go_simp) ?_
                  simp only [Act.put, List.setIfInBounds_toArray, List.set_cons_zero, List.set_cons_succ]
                  refine WL.val (by kernel_rfl) (vo) (by go_simp) ?_
                  simp only [Act.put, List.setIfInBounds_toArray, List.set_cons_zero, List.set_cons_succ]
                  refine WL.callF (by kernel_rfl) 32 _ _ rfl Try.in32 #[vo] (by simp [Act.eval]) ?_
                  refine (rcheck_any vo N.ops wr (HN1.out.below JB.out).ops HN.out.ok HN.out.lo).mono ?_
                  rintro e w9 ⟨rfl, hb9⟩
                  refine ⟨_, rfl, ?_⟩
                  have B9 := Keep.mk hb9
                  clear hb9
                  generalize hz1 : (chk N.ops).1 = Z1 at *
                  generalize ((chk N.ops).2 : Int) = Z2 at *
                  simp only [Act.put, List.setIfInBounds_toArray, List.set_cons_zero, List.set_cons_succ]
                  refine WL.val (by kernel_rfl) (.tuple #[.int .i64 Z1, .int .i64 Z2]) (by go_simp) ?_
                  simp only [Act.put, List.setIfInBounds_toArray, List.set_cons_zero, List.set_cons_succ]
                  refine WL.val (by kernel_rfl) (.int .i64 Z1) (by go_simp) ?_
                  simp only [Act.put, List.setIfInBounds_toArray, List.set_cons_zero, List.set_cons_succ]
                  refine WL.val (by kernel_rfl) (.int .i64 Z2) (by go_simp) ?_
                  simp only [Act.put, List.setIfInBounds_toArray, List.set_cons_zero, List.set_cons_succ]
                  refine WL.val (by kernel_rfl) (.int .i64 Z1) (by go_simp) ?_
                  simp only [Act.put, List.setIfInBounds_toArray, List.set_cons_zero, List.set_cons_succ]
                  refine WL.val (by kernel_rfl) (.int .i64 Z2) (by go_simp) ?_
                  simp only [Act.put, List.setIfInBounds_toArray, List.set_cons_zero, List.set_cons_succ]
                  refine WL.nil ?_
                  refine hK37 _ _ ?_
                  refine wp_seq_k fun K38 hK38 => ?_
                  refine wp_region_list (WL.out ?_)
                  refine WL.val (by kernel_rfl) (.int .i64 Z1) (by go_simp) ?_
                  simp only [Act.put, List.setIfInBounds_toArray, List.set_cons_zero, List.set_cons_succ]
                  refine WL.val (by kernel_rfl) (.int .i64 Z1) (by go_simp) ?_
                  simp only [Act.put, List.setIfInBounds_toArray, List.set_cons_zero, List.set_cons_succ]
                  refine WL.nil ?_
                  refine hK38 _ _ ?_
                  refine wp_ret ?_
                  go_ret
                  refine ⟨?_, B1.out.trans ((JB.out.trans (B9.out.mono JB.out.size)).mono B1x.out)⟩
                  rw [chk_0 HK1.out HK2.out HK3.out ((Sh.risesB_iff N.ps).2 (fun i hi => JE.out i (by omega))), hz1]; rfl
end Go.Proofs.Ytgpgnldcdimmbaa
