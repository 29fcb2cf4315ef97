import Derived.Test.YthlohkgdmfkpeaaGreatB02
namespace Go.Proofs.YthlohkgdmfkpeaaGreat.Nd
open Go.RowKit
set_option linter.unusedSimpArgs false
set_option linter.unusedVariables false

structure NdAt (w : World) (N : NodeV) (vp vo : Value) : Prop where
 ps : Sh.HRow w vp N.ps
 ops : OpsAt w vo N.ops
 ok : ∀ x ∈ N.ops, OpOk x
 lp : N.ps.length ≤ 4398046511104
 lo : N.ops.length ≤ 4398046511104
 bo : N.ops ≠ [] → ∀ k, vo.ownBlock = some k → k < w.heap.size
 a1 : -9223372036854775808 ≤ N.au
 a2 : N.au ≤ 9223372036854775807
 c1 : -9223372036854775808 ≤ N.ck
 c2 : N.ck ≤ 9223372036854775807
theorem NdAt.below {w w' : World} {N : NodeV} {vp vo : Value} (h : NdAt w N vp vo) (hb : Below w.heap.size w w') : NdAt w' N vp vo :=
 { h with ps := h.ps.below hb, ops := h.ops.below hb, bo := fun hne k hk => Nat.lt_of_lt_of_le (h.bo hne k hk) hb.size }
def headE (N : NodeV) : Int :=
 if ¬ (1 ≤ N.au ∧ N.au ≤ 8) then 50
 else if N.ck < 1 ∨ 4096 < N.ck ∨ ((N.ck == 1) == ((N.ps.length : Int) == 0)) = false then 51
 else if 64 < N.ps.length ∨ Sh.risesB N.ps = false then 52 else 0
def chkN (N : NodeV) : Int := if headE N ≠ 0 then headE N else (chk N.ops).1
theorem rising_any (v : Value) (L : List Hs) (w : World) (h : Sh.HRow w v L) (hn : L.length ≤ 4398046511104) (b : Bool) (hb : Sh.risesB L = b) : Calls Tryz.prog 90 #[v] w fun e w' => e = .returned (.bool b) ∧ Below w.heap.size w w' := by
 subst hb
 exact Sh.rising_any v L w h (by omega)
theorem Tryz.in72 (w : World) (vs : Array Value) : (callFunc 72 vs).run Tryz.prog w = .ok (.enter 72 vs) w := by kernel_rfl
theorem Tryz.in90 (w : World) (vs : Array Value) : (callFunc 90 vs).run Tryz.prog w = .ok (.enter 90 vs) w := by kernel_rfl
set_option maxRecDepth 8000 in
set_option maxHeartbeats 1000000 in
theorem wrongHead_any (N : NodeV) (vp vo : Value) (w : World) (hN : NdAt w N vp vo) : Calls Tryz.prog 72 #[.agg (ndA N.au N.ck vp vo)] w fun e w' => e = .returned (.int .i64 (headE N)) ∧ Below w.heap.size w w' := by
 obtain ⟨pa, pc, rfl⟩ := hN.ps.form
 have HN := Keep.mk hN
 clear hN
 go_enter Tryz.func72, Tryz.ntmps72
 refine wp_seq_k fun K1 hK1 => rgn ?_
 refine WL.box (by kernel_rfl) 50 (.tmp 0) rfl _ rfl ?_
 have HX1 := Keep.mk (Blk.new w 50 (ndA N.au N.ck (.slice pa N.ps.length pc) vo))
 have B1 := Keep.mk (below_new w (.cells (ndA N.au N.ck (.slice pa N.ps.length pc) vo) 50))
 generalize w.alloc (.cells (ndA N.au N.ck (.slice pa N.ps.length pc) vo) 50) = w1 at *
 have HN1 := Keep.mk (HN.out.below B1.out)
 have Hs1 : Keep (w.heap.size < w1.heap.size) := ⟨HX1.out.lt⟩
 have B1x : Keep (w.heap.size ≤ w1.heap.size) := ⟨B1.out.size⟩
 generalize hgg : w.heap.size = g at *
 have d0 := HX1.out.c 0 (nd_0 _ _ _ _)
 have d1 := HX1.out.c 1 (nd_1 _ _ _ _)
 have d2 := HX1.out.c 2 (nd_2 _ _ _ _)
 have d3 := HX1.out.c 3 (nd_3 _ _ _ _)
 simp only [Act.put, pqA, pqB, pqC]
 refine VlS (.int .i64 0) ?_
 refine WL.nil (hK1 _ _ ?_)
 refine wp_seq_k fun K2 hK2 => ?_
 refine wp_block ?_
 refine wp_seq_k fun K3 hK3 => ?_
 by_cases hA : 1 ≤ N.au ∧ N.au ≤ 8
 ·skip
  refine rgn ?_
  refine VlS (.pointer (some ⟨g, 0, none⟩)) ?_
  refine VlS (.int .i64 N.au) ?_
  refine WL.callF (by kernel_rfl) 88 _ _ rfl Tryz.in88 #[.int .i64 N.au] (by simp [Act.eval]) ?_
  refine (isAuthor_yes N.au w1 hA).mono ?_
  rintro e w0 ⟨rfl, hw0⟩
  rw [hw0]
  clear hw0 w0
  refine ⟨_, rfl, ?_⟩
  simp only [Act.put, pqA, pqB, pqC]
  refine VbF ?_
  refine VbF ?_
  refine WL.nil (hK3 _ _ ?_)
  refine wp_cond_false rfl ?_
  refine wp_seq_k fun K4 hK4 => ?_
  rcases Bool.eq_false_or_eq_true ((N.ck == 1) == ((N.ps.length : Int) == 0)) with hF | hF
  ·skip
   refine rgn ?_
   refine VlS (.pointer (some ⟨g, 1, none⟩)) ?_
   refine VlS (.int .i64 N.ck) ?_
   by_cases h3_2 : N.ck < 1
   ·skip
    refine VbT ?_
    refine VbT ?_
    refine SkS ?_
    refine SkS ?_
    refine SkS ?_
    refine VbT ?_
    refine VbT ?_
    refine SkS ?_
    refine SkS ?_
    refine SkS ?_
    refine SkS ?_
    refine SkS ?_
    refine SkS ?_
    refine SkS ?_
    refine VbT ?_
    refine VbT ?_
    refine WL.nil (hK4 _ _ ?_)
    refine wp_cond_true rfl ?_
    refine wp_seq_k fun K5 hK5 => rgn ?_
    refine VlS (.int .i64 51) ?_
    refine WL.nil (hK5 _ _ ?_)
    refine wp_ret ?_
    try simp only [Exit.inBlock, Exit.then]
    refine bodyPost_ret (results_tmp rfl _ _ _) rfl ?_
    exact ⟨by rw [show headE N = 51 from (if_neg (fun h => h hA)).trans (if_pos (.inl h3_2))]; rfl, B1.out⟩
   ·skip
    refine VbF ?_
    refine VbF ?_
    refine VlS (.pointer (some ⟨g, 1, none⟩)) ?_
    refine VlS (.int .i64 N.ck) ?_
    by_cases h3_6 : 4096 < N.ck
    ·skip
     refine VbT ?_
     refine VbT ?_
     refine VbT ?_
     refine SkS ?_
     refine SkS ?_
     refine SkS ?_
     refine SkS ?_
     refine SkS ?_
     refine SkS ?_
     refine SkS ?_
     refine VbT ?_
     refine VbT ?_
     refine WL.nil (hK4 _ _ ?_)
     refine wp_cond_true rfl ?_
     refine wp_seq_k fun K6 hK6 => rgn ?_
     refine VlS (.int .i64 51) ?_
     refine WL.nil (hK6 _ _ ?_)
     refine wp_ret ?_
     try simp only [Exit.inBlock, Exit.then]
     refine bodyPost_ret (results_tmp rfl _ _ _) rfl ?_
     exact ⟨by rw [show headE N = 51 from (if_neg (fun h => h hA)).trans (if_pos (.inr (.inl h3_6)))]; rfl, B1.out⟩
    ·skip
     refine VbF ?_
     refine VbF ?_
     refine VbF ?_
     refine VlS (.pointer (some ⟨g, 1, none⟩)) ?_
     refine VlS (.int .i64 N.ck) ?_
     refine VlS (.pointer (some ⟨g, 2, none⟩)) ?_
     refine VlS (.slice pa N.ps.length pc) ?_
     refine VlS (.int .i64 (N.ps.length : Int)) ?_
     refine WL.callF (by kernel_rfl) 89 _ _ rfl Tryz.in89 #[.int .i64 N.ck, .int .i64 (N.ps.length : Int)] (by simp [Act.eval]) ?_
     refine (clockFits_is N.ck (N.ps.length : Int) w1 _ hF).mono ?_
     rintro e w0 ⟨rfl, hw0⟩
     rw [hw0]
     clear hw0 w0
     refine ⟨_, rfl, ?_⟩
     simp only [Act.put, pqA, pqB, pqC]
     refine VbF ?_
     refine VbF ?_
     refine VbF ?_
     refine WL.nil (hK4 _ _ ?_)
     refine wp_cond_false rfl ?_
     refine wp_seq_k fun K7 hK7 => ?_
     rcases Bool.eq_false_or_eq_true (Sh.risesB N.ps) with hU | hU
     ·skip
      refine rgn ?_
      refine VlS (.pointer (some ⟨g, 2, none⟩)) ?_
      refine VlS (.slice pa N.ps.length pc) ?_
      refine VlS (.int .i64 (N.ps.length : Int)) ?_
      by_cases h5_3 : 64 < N.ps.length
      ·have h5_3i : (64 : Int) < (N.ps.length : Int) := by omega
       refine VbT ?_
       refine VbT ?_
       refine SkS ?_
       refine SkS ?_
       refine SkS ?_
       refine SkS ?_
       refine VbT ?_
       refine VbT ?_
       refine WL.nil (hK7 _ _ ?_)
       refine wp_cond_true rfl ?_
       refine wp_seq_k fun K8 hK8 => rgn ?_
       refine VlS (.int .i64 52) ?_
       refine WL.nil (hK8 _ _ ?_)
       refine wp_ret ?_
       try simp only [Exit.inBlock, Exit.then]
       refine bodyPost_ret (results_tmp rfl _ _ _) rfl ?_
       exact ⟨by rw [show headE N = 52 from (if_neg (fun h => h hA)).trans ((if_neg (fun h => by rcases h with h | h | h; exact h3_2 h; exact h3_6 h; rw [hF] at h; cases h)).trans (if_pos (.inl h5_3)))]; rfl, B1.out⟩
      ·have h5_3i : ¬ (64 : Int) < (N.ps.length : Int) := by omega
       refine VbF ?_
       refine VbF ?_
       refine VlS (.pointer (some ⟨g, 2, none⟩)) ?_
       refine VlS (.slice pa N.ps.length pc) ?_
       refine WL.callF (by kernel_rfl) 90 _ _ rfl Tryz.in90 #[.slice pa N.ps.length pc] (by simp [Act.eval]) ?_
       refine (rising_any _ N.ps w1 HN1.out.ps HN1.out.lp _ hU).mono ?_
       rintro e w2 ⟨rfl, hb2⟩
       refine ⟨_, rfl, ?_⟩
       have B2 := Keep.mk hb2
       clear hb2
       simp only [Act.put, pqA, pqB, pqC]
       refine VbF ?_
       refine VbF ?_
       refine VbF ?_
       refine WL.nil (hK7 _ _ ?_)
       refine wp_cond_false rfl ?_
       refine wp_skip ?_
       refine hK2 _ _ ?_
       refine wp_seq_k fun K9 hK9 => rgn ?_
       refine VlS (.int .i64 0) ?_
       refine WL.nil (hK9 _ _ ?_)
       refine wp_ret ?_
       try simp only [Exit.inBlock, Exit.then]
       refine bodyPost_ret (results_tmp rfl _ _ _) rfl ?_
       exact ⟨by rw [show headE N = 0 from (if_neg (fun h => h hA)).trans ((if_neg (fun h => by rcases h with h | h | h; exact h3_2 h; exact h3_6 h; rw [hF] at h; cases h)).trans (if_neg (fun h => by rcases h with h | h; exact h5_3 h; rw [hU] at h; cases h)))]; rfl, B1.out.trans (B2.out.mono B1x.out)⟩
     ·skip
      refine rgn ?_
      refine VlS (.pointer (some ⟨g, 2, none⟩)) ?_
      refine VlS (.slice pa N.ps.length pc) ?_
      refine VlS (.int .i64 (N.ps.length : Int)) ?_
      by_cases h5_3 : 64 < N.ps.length
      ·have h5_3i : (64 : Int) < (N.ps.length : Int) := by omega
       refine VbT ?_
       refine VbT ?_
       refine SkS ?_
       refine SkS ?_
       refine SkS ?_
       refine SkS ?_
       refine VbT ?_
       refine VbT ?_
       refine WL.nil (hK7 _ _ ?_)
       refine wp_cond_true rfl ?_
       refine wp_seq_k fun K10 hK10 => rgn ?_
       refine VlS (.int .i64 52) ?_
       refine WL.nil (hK10 _ _ ?_)
       refine wp_ret ?_
       try simp only [Exit.inBlock, Exit.then]
       refine bodyPost_ret (results_tmp rfl _ _ _) rfl ?_
       exact ⟨by rw [show headE N = 52 from (if_neg (fun h => h hA)).trans ((if_neg (fun h => by rcases h with h | h | h; exact h3_2 h; exact h3_6 h; rw [hF] at h; cases h)).trans (if_pos (.inl h5_3)))]; rfl, B1.out⟩
      ·have h5_3i : ¬ (64 : Int) < (N.ps.length : Int) := by omega
       refine VbF ?_
       refine VbF ?_
       refine VlS (.pointer (some ⟨g, 2, none⟩)) ?_
       refine VlS (.slice pa N.ps.length pc) ?_
       refine WL.callF (by kernel_rfl) 90 _ _ rfl Tryz.in90 #[.slice pa N.ps.length pc] (by simp [Act.eval]) ?_
       refine (rising_any _ N.ps w1 HN1.out.ps HN1.out.lp _ hU).mono ?_
       rintro e w2 ⟨rfl, hb2⟩
       refine ⟨_, rfl, ?_⟩
       have B2 := Keep.mk hb2
       clear hb2
       simp only [Act.put, pqA, pqB, pqC]
       refine VbT ?_
       refine VbT ?_
       refine VbT ?_
       refine WL.nil (hK7 _ _ ?_)
       refine wp_cond_true rfl ?_
       refine wp_seq_k fun K11 hK11 => rgn ?_
       refine VlS (.int .i64 52) ?_
       refine WL.nil (hK11 _ _ ?_)
       refine wp_ret ?_
       try simp only [Exit.inBlock, Exit.then]
       refine bodyPost_ret (results_tmp rfl _ _ _) rfl ?_
       exact ⟨by rw [show headE N = 52 from (if_neg (fun h => h hA)).trans ((if_neg (fun h => by rcases h with h | h | h; exact h3_2 h; exact h3_6 h; rw [hF] at h; cases h)).trans (if_pos (.inr hU)))]; rfl, B1.out.trans (B2.out.mono B1x.out)⟩
  ·skip
   refine rgn ?_
   refine VlS (.pointer (some ⟨g, 1, none⟩)) ?_
   refine VlS (.int .i64 N.ck) ?_
   by_cases h3_2 : N.ck < 1
   ·skip
    refine VbT ?_
    refine VbT ?_
    refine SkS ?_
    refine SkS ?_
    refine SkS ?_
    refine VbT ?_
    refine VbT ?_
    refine SkS ?_
    refine SkS ?_
    refine SkS ?_
    refine SkS ?_
    refine SkS ?_
    refine SkS ?_
    refine SkS ?_
    refine VbT ?_
    refine VbT ?_
    refine WL.nil (hK4 _ _ ?_)
    refine wp_cond_true rfl ?_
    refine wp_seq_k fun K12 hK12 => rgn ?_
    refine VlS (.int .i64 51) ?_
    refine WL.nil (hK12 _ _ ?_)
    refine wp_ret ?_
    try simp only [Exit.inBlock, Exit.then]
    refine bodyPost_ret (results_tmp rfl _ _ _) rfl ?_
    exact ⟨by rw [show headE N = 51 from (if_neg (fun h => h hA)).trans (if_pos (.inl h3_2))]; rfl, B1.out⟩
   ·skip
    refine VbF ?_
    refine VbF ?_
    refine VlS (.pointer (some ⟨g, 1, none⟩)) ?_
    refine VlS (.int .i64 N.ck) ?_
    by_cases h3_6 : 4096 < N.ck
    ·skip
     refine VbT ?_
     refine VbT ?_
     refine VbT ?_
     refine SkS ?_
     refine SkS ?_
     refine SkS ?_
     refine SkS ?_
     refine SkS ?_
     refine SkS ?_
     refine SkS ?_
     refine VbT ?_
     refine VbT ?_
     refine WL.nil (hK4 _ _ ?_)
     refine wp_cond_true rfl ?_
     refine wp_seq_k fun K13 hK13 => rgn ?_
     refine VlS (.int .i64 51) ?_
     refine WL.nil (hK13 _ _ ?_)
     refine wp_ret ?_
     try simp only [Exit.inBlock, Exit.then]
     refine bodyPost_ret (results_tmp rfl _ _ _) rfl ?_
     exact ⟨by rw [show headE N = 51 from (if_neg (fun h => h hA)).trans (if_pos (.inr (.inl h3_6)))]; rfl, B1.out⟩
    ·skip
     refine VbF ?_
     refine VbF ?_
     refine VbF ?_
     refine VlS (.pointer (some ⟨g, 1, none⟩)) ?_
     refine VlS (.int .i64 N.ck) ?_
     refine VlS (.pointer (some ⟨g, 2, none⟩)) ?_
     refine VlS (.slice pa N.ps.length pc) ?_
     refine VlS (.int .i64 (N.ps.length : Int)) ?_
     refine WL.callF (by kernel_rfl) 89 _ _ rfl Tryz.in89 #[.int .i64 N.ck, .int .i64 (N.ps.length : Int)] (by simp [Act.eval]) ?_
     refine (clockFits_is N.ck (N.ps.length : Int) w1 _ hF).mono ?_
     rintro e w0 ⟨rfl, hw0⟩
     rw [hw0]
     clear hw0 w0
     refine ⟨_, rfl, ?_⟩
     simp only [Act.put, pqA, pqB, pqC]
     refine VbT ?_
     refine VbT ?_
     refine VbT ?_
     refine WL.nil (hK4 _ _ ?_)
     refine wp_cond_true rfl ?_
     refine wp_seq_k fun K14 hK14 => rgn ?_
     refine VlS (.int .i64 51) ?_
     refine WL.nil (hK14 _ _ ?_)
     refine wp_ret ?_
     try simp only [Exit.inBlock, Exit.then]
     refine bodyPost_ret (results_tmp rfl _ _ _) rfl ?_
     exact ⟨by rw [show headE N = 51 from (if_neg (fun h => h hA)).trans (if_pos (.inr (.inr hF)))]; rfl, B1.out⟩
 ·skip
  refine rgn ?_
  refine VlS (.pointer (some ⟨g, 0, none⟩)) ?_
  refine VlS (.int .i64 N.au) ?_
  refine WL.callF (by kernel_rfl) 88 _ _ rfl Tryz.in88 #[.int .i64 N.au] (by simp [Act.eval]) ?_
  refine (isAuthor_no N.au w1 hA).mono ?_
  rintro e w0 ⟨rfl, hw0⟩
  rw [hw0]
  clear hw0 w0
  refine ⟨_, rfl, ?_⟩
  simp only [Act.put, pqA, pqB, pqC]
  refine VbT ?_
  refine VbT ?_
  refine WL.nil (hK3 _ _ ?_)
  refine wp_cond_true rfl ?_
  refine wp_seq_k fun K15 hK15 => rgn ?_
  refine VlS (.int .i64 50) ?_
  refine WL.nil (hK15 _ _ ?_)
  refine wp_ret ?_
  try simp only [Exit.inBlock, Exit.then]
  refine bodyPost_ret (results_tmp rfl _ _ _) rfl ?_
  exact ⟨by rw [show headE N = 50 from if_pos hA]; rfl, B1.out⟩
set_option maxRecDepth 8000 in
theorem check_node (N : NodeV) (vp vo : Value) (w : World) (hN : NdAt w N vp vo) : Calls Tryz.prog 56 #[.agg (ndA N.au N.ck vp vo)] w fun e w' => e = .returned (.int .i64 (chkN N)) ∧ Below w.heap.size w w' := by
 obtain ⟨pa, pc, rfl⟩ := hN.ps.form
 have HN := Keep.mk hN
 clear hN
 go_enter Tryz.func56, Tryz.ntmps56
 refine wp_seq_k fun K1 hK1 => rgn ?_
 refine WL.box (by kernel_rfl) 50 (.tmp 0) rfl _ rfl ?_
 have HX1 := Keep.mk (Blk.new w 50 (ndA N.au N.ck (.slice pa N.ps.length pc) vo))
 have B1 := Keep.mk (below_new w (.cells (ndA N.au N.ck (.slice pa N.ps.length pc) vo) 50))
 generalize w.alloc (.cells (ndA N.au N.ck (.slice pa N.ps.length pc) vo) 50) = w1 at *
 have HN1 := Keep.mk (HN.out.below B1.out)
 have Hs1 : Keep (w.heap.size < w1.heap.size) := ⟨HX1.out.lt⟩
 have B1x : Keep (w.heap.size ≤ w1.heap.size) := ⟨B1.out.size⟩
 generalize hgg : w.heap.size = g at *
 have d0 := HX1.out.c 0 (nd_0 _ _ _ _)
 have d1 := HX1.out.c 1 (nd_1 _ _ _ _)
 have d2 := HX1.out.c 2 (nd_2 _ _ _ _)
 have d3 := HX1.out.c 3 (nd_3 _ _ _ _)
 simp only [Act.put, pqA, pqB, pqC]
 refine VlS (.int .i64 0) ?_
 refine WL.nil (hK1 _ _ ?_)
 refine wp_seq_k fun K2 hK2 => ?_
 refine wp_seq_k fun K3 hK3 => rgn ?_
 refine WL.row (by kernel_rfl) 50 (.tmp 1) rfl g rfl 50 (ndA N.au N.ck (.slice pa N.ps.length pc) vo) _ HX1.out Tryz.underlying50 rfl (Tryz.size50B _ _ _ _) ?_
 simp only [Act.put, pqA, pqB, pqC]
 refine WL.callF (by kernel_rfl) 72 _ _ rfl Tryz.in72 #[.agg (ndA N.au N.ck (.slice pa N.ps.length pc) vo)] (by simp [Act.eval]) ?_
 refine (wrongHead_any N _ vo w1 HN1.out).mono ?_
 rintro e w2 ⟨rfl, hb2⟩
 refine ⟨_, rfl, ?_⟩
 have B2 := Keep.mk hb2
 have e3 := (HX1.out.below hb2 HX1.out.lt).c 3 (nd_3 _ _ _ _)
 clear hb2 d0 d1 d2 d3
 simp only [Act.put, pqA, pqB, pqC]
 refine VlS (.int .i64 (headE N)) ?_
 refine WL.nil (hK3 _ _ ?_)
 refine wp_seq_k fun K4 hK4 => rgn ?_
 refine VlS (.int .i64 (headE N)) ?_
 by_cases h2_1 : headE N = 0
 ·skip
  refine VbF ?_
  refine WL.nil (hK4 _ _ ?_)
  refine wp_cond_false rfl ?_
  refine wp_skip ?_
  refine hK2 _ _ ?_
  refine wp_seq_k fun K5 hK5 => rgn ?_
  refine VlS (.pointer (some ⟨g, 3, none⟩)) ?_
  refine VlS (vo) ?_
  refine WL.callF (by kernel_rfl) 73 _ _ rfl Tryz.in73 #[vo] (by simp [Act.eval]) ?_
  refine (check_any vo N.ops w2 (HN1.out.below B2.out).ops HN1.out.ok HN1.out.lo).mono ?_
  rintro e w3 ⟨rfl, hb3⟩
  refine ⟨_, rfl, ?_⟩
  have B3 := Keep.mk hb3
  clear hb3
  simp only [Act.put, pqA, pqB, pqC]
  refine VlS (.tuple #[.int .i64 (chk N.ops).1, .int .i64 ((chk N.ops).2 : Int)]) ?_
  refine VlS (.int .i64 (chk N.ops).1) ?_
  refine VlS (.int .i64 ((chk N.ops).2 : Int)) ?_
  refine VlS (.int .i64 (chk N.ops).1) ?_
  refine VlS (.int .i64 ((chk N.ops).2 : Int)) ?_
  refine WL.nil (hK5 _ _ ?_)
  refine wp_seq_k fun K6 hK6 => rgn ?_
  refine VlS (.int .i64 (chk N.ops).1) ?_
  refine VlS (.int .i64 (chk N.ops).1) ?_
  refine WL.nil (hK6 _ _ ?_)
  refine wp_ret ?_
  go_ret
  exact ⟨by rw [show chkN N = (chk N.ops).1 from if_neg (fun h => h h2_1)]; rfl, B1.out.trans ((B2.out.mono B1x.out).trans (B3.out.mono (Nat.le_trans B1x.out B2.out.size)))⟩
 ·skip
  refine VbT ?_
  refine WL.nil (hK4 _ _ ?_)
  refine wp_cond_true rfl ?_
  refine wp_seq_k fun K7 hK7 => rgn ?_
  refine VlS (.int .i64 (headE N)) ?_
  refine VlS (.int .i64 (headE N)) ?_
  refine WL.nil (hK7 _ _ ?_)
  refine wp_ret ?_
  go_ret
  exact ⟨by rw [show chkN N = headE N from if_pos h2_1]; rfl, B1.out.trans (B2.out.mono B1x.out)⟩
end Go.Proofs.YthlohkgdmfkpeaaGreat.Nd
