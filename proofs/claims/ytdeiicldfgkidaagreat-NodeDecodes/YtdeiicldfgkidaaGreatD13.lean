import Derived.Test.YtdeiicldfgkidaaGreatD12
import Derived.Test.YtdeiicldfgkidaaGreatD08
namespace Go.Proofs.YtdeiicldfgkidaaGreat
open Go.RowKit
set_option linter.unusedSimpArgs false
set_option linter.unusedVariables false

structure NdAt (w : World) (N : NodeV) (vp vo : Value) : Prop where
 ps : Sh.HRow w vp N.ps
 ops : OpsAt w vo N.ops
 ok : ∀ x ∈ N.ops, OpOk x
 lp : N.ps.length ≤ 4398046511104
 lo : N.ops.length ≤ 4398046511104
 bo : N.ops ≠ [] → ∀ k, vo.ownBlock = some k → k < w.heap.size
 a1 : -9223372036854775808 ≤ N.au
 a2 : N.au ≤ 9223372036854775807
 c1 : -9223372036854775808 ≤ N.ck
 c2 : N.ck ≤ 9223372036854775807
theorem NdAt.below {w w' : World} {N : NodeV} {vp vo : Value} (h : NdAt w N vp vo) (hb : Below w.heap.size w w') : NdAt w' N vp vo :=
 { h with ps := h.ps.below hb, ops := h.ops.below hb, bo := fun hne k hk => Nat.lt_of_lt_of_le (h.bo hne k hk) hb.size }
def headE (N : NodeV) : Int :=
 if ¬ (1 ≤ N.au ∧ N.au ≤ 8) then 50
 else if N.ck < 1 ∨ 4096 < N.ck ∨ ((N.ck == 1) == ((N.ps.length : Int) == 0)) = false then 51
 else if 64 < N.ps.length ∨ Sh.risesB N.ps = false then 52 else 0
def chkN (N : NodeV) : Int := if headE N ≠ 0 then headE N else (chk N.ops).1
def headL (N : NodeV) : List Int := [1, N.au] ++ numL N.ck.toNat ++ numL N.ps.length
def blkL (N : NodeV) : List Int := headL N ++ N.ps.flatMap hB ++ formL N.ops
theorem headE_ok {N : NodeV} (h : headE N = 0) : (1 ≤ N.au ∧ N.au ≤ 8) ∧ 1 ≤ N.ck ∧ N.ck ≤ 4096 ∧ ((N.ck == 1) == ((N.ps.length : Int) == 0)) = true ∧ N.ps.length ≤ 64 ∧ Sh.risesB N.ps = true := by
 unfold headE at h
 by_cases h1 : 1 ≤ N.au ∧ N.au ≤ 8
 ·rw [if_neg (by simpa using h1)] at h
  by_cases h2 : N.ck < 1 ∨ 4096 < N.ck ∨ ((N.ck == 1) == ((N.ps.length : Int) == 0)) = false
  ·rw [if_pos h2] at h; cases h
  ·rw [if_neg h2] at h
   by_cases h3 : 64 < N.ps.length ∨ Sh.risesB N.ps = false
   ·rw [if_pos h3] at h; cases h
   ·simp only [not_or, Bool.not_eq_false] at h2 h3
    exact ⟨h1, by omega, by omega, h2.2.2, by omega, h3.2⟩
 ·rw [if_pos h1] at h; cases h
theorem rising_any (v : Value) (L : List Hs) (w : World) (h : Sh.HRow w v L) (hn : L.length ≤ 4398046511104) (b : Bool) (hb : Sh.risesB L = b) : Calls Tryz.prog 78 #[v] w fun e w' => e = .returned (.bool b) ∧ Below w.heap.size w w' := by
 subst hb
 exact Sh.rising_any v L w h (by omega)
theorem Tryz.in41 (w : World) (vs : Array Value) : (callFunc 41 vs).run Tryz.prog w = .ok (.enter 41 vs) w := by kernel_rfl
theorem Tryz.in24 (w : World) (vs : Array Value) : (callFunc 24 vs).run Tryz.prog w = .ok (.enter 24 vs) w := by kernel_rfl
theorem Tryz.in37 (w : World) (vs : Array Value) : (callFunc 37 vs).run Tryz.prog w = .ok (.enter 37 vs) w := by kernel_rfl
theorem Tryz.in16 (w : World) (vs : Array Value) : (callFunc 16 vs).run Tryz.prog w = .ok (.enter 16 vs) w := by kernel_rfl
theorem Tryz.in78 (w : World) (vs : Array Value) : (callFunc 78 vs).run Tryz.prog w = .ok (.enter 78 vs) w := by kernel_rfl
set_option maxRecDepth 8000 in
set_option maxHeartbeats 1000000 in
theorem wrongHead_any (N : NodeV) (vp vo : Value) (w : World) (hN : NdAt w N vp vo) : Calls Tryz.prog 41 #[.agg (ndA N.au N.ck vp vo)] w fun e w' => e = .returned (.int .i64 (headE N)) ∧ Below w.heap.size w w' := by
 obtain ⟨pa, pc, rfl⟩ := hN.ps.form
 have HN := Keep.mk hN
 clear hN
 go_enter Tryz.func41, Tryz.ntmps41
 refine wp_seq_k fun K1 hK1 => rgn ?_
 refine WL.box (by kernel_rfl) 28 (.tmp 0) rfl _ rfl ?_
 have HX1 := Keep.mk (Blk.new w 28 (ndA N.au N.ck (.slice pa N.ps.length pc) vo))
 have B1 := Keep.mk (below_new w (.cells (ndA N.au N.ck (.slice pa N.ps.length pc) vo) 28))
 generalize w.alloc (.cells (ndA N.au N.ck (.slice pa N.ps.length pc) vo) 28) = w1 at *
 have HN1 := Keep.mk (HN.out.below B1.out)
 have Hs1 : Keep (w.heap.size < w1.heap.size) := ⟨HX1.out.lt⟩
 have B1x : Keep (w.heap.size ≤ w1.heap.size) := ⟨B1.out.size⟩
 generalize hgg : w.heap.size = g at *
 have d0 := HX1.out.c 0 (nd_0 _ _ _ _)
 have d1 := HX1.out.c 1 (nd_1 _ _ _ _)
 have d2 := HX1.out.c 2 (nd_2 _ _ _ _)
 have d3 := HX1.out.c 3 (nd_3 _ _ _ _)
 simp only [Act.put, pqA, pqB, pqC]
 refine VlS (.int .i64 0) ?_
 refine WL.nil (hK1 _ _ ?_)
 refine wp_seq_k fun K2 hK2 => ?_
 refine wp_block ?_
 refine wp_seq_k fun K3 hK3 => ?_
 by_cases hA : 1 ≤ N.au ∧ N.au ≤ 8
 ·skip
  refine rgn ?_
  refine VlS (.pointer (some ⟨g, 0, none⟩)) ?_
  refine VlS (.int .i64 N.au) ?_
  refine WL.callF (by kernel_rfl) 77 _ _ rfl Tryz.in77 #[.int .i64 N.au] (by simp [Act.eval]) ?_
  refine (isAuthor_yes N.au w1 hA).mono ?_
  rintro e w0 ⟨rfl, hw0⟩
  rw [hw0]
  clear hw0 w0
  refine ⟨_, rfl, ?_⟩
  simp only [Act.put, pqA, pqB, pqC]
  refine VlS (.bool false) ?_
  refine VlS (.bool false) ?_
  refine WL.nil (hK3 _ _ ?_)
  refine wp_cond_false rfl ?_
  refine wp_seq_k fun K4 hK4 => ?_
  rcases Bool.eq_false_or_eq_true ((N.ck == 1) == ((N.ps.length : Int) == 0)) with hF | hF
  ·skip
   refine rgn ?_
   refine VlS (.pointer (some ⟨g, 1, none⟩)) ?_
   refine VlS (.int .i64 N.ck) ?_
   by_cases h3_2 : N.ck < 1
   ·skip
    refine VlS (.bool true) ?_
    refine VlS (.bool true) ?_
    refine SkS ?_
    refine SkS ?_
    refine SkS ?_
    refine VlS (.bool true) ?_
    refine VlS (.bool true) ?_
    refine SkS ?_
    refine SkS ?_
    refine SkS ?_
    refine SkS ?_
    refine SkS ?_
    refine SkS ?_
    refine SkS ?_
    refine VlS (.bool true) ?_
    refine VlS (.bool true) ?_
    refine WL.nil (hK4 _ _ ?_)
    refine wp_cond_true rfl ?_
    refine wp_seq_k fun K5 hK5 => rgn ?_
    refine VlS (.int .i64 51) ?_
    refine WL.nil (hK5 _ _ ?_)
    refine wp_ret ?_
    try simp only [Exit.inBlock, Exit.then]
    refine bodyPost_ret (results_tmp rfl _ _ _) rfl ?_
    exact ⟨by rw [show headE N = 51 from (if_neg (fun h => h hA)).trans (if_pos (.inl h3_2))]; rfl, B1.out⟩
   ·skip
    refine VlS (.bool false) ?_
    refine VlS (.bool false) ?_
    refine VlS (.pointer (some ⟨g, 1, none⟩)) ?_
    refine VlS (.int .i64 N.ck) ?_
    by_cases h3_6 : 4096 < N.ck
    ·skip
     refine VlS (.bool true) ?_
     refine VlS (.bool true) ?_
     refine VlS (.bool true) ?_
     refine SkS ?_
     refine SkS ?_
     refine SkS ?_
     refine SkS ?_
     refine SkS ?_
     refine SkS ?_
     refine SkS ?_
     refine VlS (.bool true) ?_
     refine VlS (.bool true) ?_
     refine WL.nil (hK4 _ _ ?_)
     refine wp_cond_true rfl ?_
     refine wp_seq_k fun K6 hK6 => rgn ?_
     refine VlS (.int .i64 51) ?_
     refine WL.nil (hK6 _ _ ?_)
     refine wp_ret ?_
     try simp only [Exit.inBlock, Exit.then]
     refine bodyPost_ret (results_tmp rfl _ _ _) rfl ?_
     exact ⟨by rw [show headE N = 51 from (if_neg (fun h => h hA)).trans (if_pos (.inr (.inl h3_6)))]; rfl, B1.out⟩
    ·skip
     refine VlS (.bool false) ?_
     refine VlS (.bool false) ?_
     refine VlS (.bool false) ?_
     refine VlS (.pointer (some ⟨g, 1, none⟩)) ?_
     refine VlS (.int .i64 N.ck) ?_
     refine VlS (.pointer (some ⟨g, 2, none⟩)) ?_
     refine VlS (.slice pa N.ps.length pc) ?_
     refine VlS (.int .i64 (N.ps.length : Int)) ?_
     refine WL.callF (by kernel_rfl) 49 _ _ rfl Tryz.in49 #[.int .i64 N.ck, .int .i64 (N.ps.length : Int)] (by simp [Act.eval]) ?_
     refine (clockFits_is N.ck (N.ps.length : Int) w1 _ hF).mono ?_
     rintro e w0 ⟨rfl, hw0⟩
     rw [hw0]
     clear hw0 w0
     refine ⟨_, rfl, ?_⟩
     simp only [Act.put, pqA, pqB, pqC]
     refine VlS (.bool false) ?_
     refine VlS (.bool false) ?_
     refine VlS (.bool false) ?_
     refine WL.nil (hK4 _ _ ?_)
     refine wp_cond_false rfl ?_
     refine wp_seq_k fun K7 hK7 => ?_
     rcases Bool.eq_false_or_eq_true (Sh.risesB N.ps) with hU | hU
     ·skip
      refine rgn ?_
      refine VlS (.pointer (some ⟨g, 2, none⟩)) ?_
      refine VlS (.slice pa N.ps.length pc) ?_
      refine VlS (.int .i64 (N.ps.length : Int)) ?_
      by_cases h5_3 : 64 < N.ps.length
      ·have h5_3i : (64 : Int) < (N.ps.length : Int) := by omega
       refine VlS (.bool true) ?_
       refine VlS (.bool true) ?_
       refine SkS ?_
       refine SkS ?_
       refine SkS ?_
       refine SkS ?_
       refine VlS (.bool true) ?_
       refine VlS (.bool true) ?_
       refine WL.nil (hK7 _ _ ?_)
       refine wp_cond_true rfl ?_
       refine wp_seq_k fun K8 hK8 => rgn ?_
       refine VlS (.int .i64 52) ?_
       refine WL.nil (hK8 _ _ ?_)
       refine wp_ret ?_
       try simp only [Exit.inBlock, Exit.then]
       refine bodyPost_ret (results_tmp rfl _ _ _) rfl ?_
       exact ⟨by rw [show headE N = 52 from (if_neg (fun h => h hA)).trans ((if_neg (fun h => by rcases h with h | h | h; exact h3_2 h; exact h3_6 h; rw [hF] at h; cases h)).trans (if_pos (.inl h5_3)))]; rfl, B1.out⟩
      ·have h5_3i : ¬ (64 : Int) < (N.ps.length : Int) := by omega
       refine VlS (.bool false) ?_
       refine VlS (.bool false) ?_
       refine VlS (.pointer (some ⟨g, 2, none⟩)) ?_
       refine VlS (.slice pa N.ps.length pc) ?_
       refine WL.callF (by kernel_rfl) 78 _ _ rfl Tryz.in78 #[.slice pa N.ps.length pc] (by simp [Act.eval]) ?_
       refine (rising_any _ N.ps w1 HN1.out.ps HN1.out.lp _ hU).mono ?_
       rintro e w2 ⟨rfl, hb2⟩
       refine ⟨_, rfl, ?_⟩
       have B2 := Keep.mk hb2
       clear hb2
       simp only [Act.put, pqA, pqB, pqC]
       refine VlS (.bool false) ?_
       refine VlS (.bool false) ?_
       refine VlS (.bool false) ?_
       refine WL.nil (hK7 _ _ ?_)
       refine wp_cond_false rfl ?_
       refine wp_skip ?_
       refine hK2 _ _ ?_
       refine wp_seq_k fun K9 hK9 => rgn ?_
       refine VlS (.int .i64 0) ?_
       refine WL.nil (hK9 _ _ ?_)
       refine wp_ret ?_
       try simp only [Exit.inBlock, Exit.then]
       refine bodyPost_ret (results_tmp rfl _ _ _) rfl ?_
       exact ⟨by rw [show headE N = 0 from (if_neg (fun h => h hA)).trans ((if_neg (fun h => by rcases h with h | h | h; exact h3_2 h; exact h3_6 h; rw [hF] at h; cases h)).trans (if_neg (fun h => by rcases h with h | h; exact h5_3 h; rw [hU] at h; cases h)))]; rfl, B1.out.trans (B2.out.mono B1x.out)⟩
     ·skip
      refine rgn ?_
      refine VlS (.pointer (some ⟨g, 2, none⟩)) ?_
      refine VlS (.slice pa N.ps.length pc) ?_
      refine VlS (.int .i64 (N.ps.length : Int)) ?_
      by_cases h5_3 : 64 < N.ps.length
      ·have h5_3i : (64 : Int) < (N.ps.length : Int) := by omega
       refine VlS (.bool true) ?_
       refine VlS (.bool true) ?_
       refine SkS ?_
       refine SkS ?_
       refine SkS ?_
       refine SkS ?_
       refine VlS (.bool true) ?_
       refine VlS (.bool true) ?_
       refine WL.nil (hK7 _ _ ?_)
       refine wp_cond_true rfl ?_
       refine wp_seq_k fun K10 hK10 => rgn ?_
       refine VlS (.int .i64 52) ?_
       refine WL.nil (hK10 _ _ ?_)
       refine wp_ret ?_
       try simp only [Exit.inBlock, Exit.then]
       refine bodyPost_ret (results_tmp rfl _ _ _) rfl ?_
       exact ⟨by rw [show headE N = 52 from (if_neg (fun h => h hA)).trans ((if_neg (fun h => by rcases h with h | h | h; exact h3_2 h; exact h3_6 h; rw [hF] at h; cases h)).trans (if_pos (.inl h5_3)))]; rfl, B1.out⟩
      ·have h5_3i : ¬ (64 : Int) < (N.ps.length : Int) := by omega
       refine VlS (.bool false) ?_
       refine VlS (.bool false) ?_
       refine VlS (.pointer (some ⟨g, 2, none⟩)) ?_
       refine VlS (.slice pa N.ps.length pc) ?_
       refine WL.callF (by kernel_rfl) 78 _ _ rfl Tryz.in78 #[.slice pa N.ps.length pc] (by simp [Act.eval]) ?_
       refine (rising_any _ N.ps w1 HN1.out.ps HN1.out.lp _ hU).mono ?_
       rintro e w2 ⟨rfl, hb2⟩
       refine ⟨_, rfl, ?_⟩
       have B2 := Keep.mk hb2
       clear hb2
       simp only [Act.put, pqA, pqB, pqC]
       refine VlS (.bool true) ?_
       refine VlS (.bool true) ?_
       refine VlS (.bool true) ?_
       refine WL.nil (hK7 _ _ ?_)
       refine wp_cond_true rfl ?_
       refine wp_seq_k fun K11 hK11 => rgn ?_
       refine VlS (.int .i64 52) ?_
       refine WL.nil (hK11 _ _ ?_)
       refine wp_ret ?_
       try simp only [Exit.inBlock, Exit.then]
       refine bodyPost_ret (results_tmp rfl _ _ _) rfl ?_
       exact ⟨by rw [show headE N = 52 from (if_neg (fun h => h hA)).trans ((if_neg (fun h => by rcases h with h | h | h; exact h3_2 h; exact h3_6 h; rw [hF] at h; cases h)).trans (if_pos (.inr hU)))]; rfl, B1.out.trans (B2.out.mono B1x.out)⟩
  ·skip
   refine rgn ?_
   refine VlS (.pointer (some ⟨g, 1, none⟩)) ?_
   refine VlS (.int .i64 N.ck) ?_
   by_cases h3_2 : N.ck < 1
   ·skip
    refine VlS (.bool true) ?_
    refine VlS (.bool true) ?_
    refine SkS ?_
    refine SkS ?_
    refine SkS ?_
    refine VlS (.bool true) ?_
    refine VlS (.bool true) ?_
    refine SkS ?_
    refine SkS ?_
    refine SkS ?_
    refine SkS ?_
    refine SkS ?_
    refine SkS ?_
    refine SkS ?_
    refine VlS (.bool true) ?_
    refine VlS (.bool true) ?_
    refine WL.nil (hK4 _ _ ?_)
    refine wp_cond_true rfl ?_
    refine wp_seq_k fun K12 hK12 => rgn ?_
    refine VlS (.int .i64 51) ?_
    refine WL.nil (hK12 _ _ ?_)
    refine wp_ret ?_
    try simp only [Exit.inBlock, Exit.then]
    refine bodyPost_ret (results_tmp rfl _ _ _) rfl ?_
    exact ⟨by rw [show headE N = 51 from (if_neg (fun h => h hA)).trans (if_pos (.inl h3_2))]; rfl, B1.out⟩
   ·skip
    refine VlS (.bool false) ?_
    refine VlS (.bool false) ?_
    refine VlS (.pointer (some ⟨g, 1, none⟩)) ?_
    refine VlS (.int .i64 N.ck) ?_
    by_cases h3_6 : 4096 < N.ck
    ·skip
     refine VlS (.bool true) ?_
     refine VlS (.bool true) ?_
     refine VlS (.bool true) ?_
     refine SkS ?_
     refine SkS ?_
     refine SkS ?_
     refine SkS ?_
     refine SkS ?_
     refine SkS ?_
     refine SkS ?_
     refine VlS (.bool true) ?_
     refine VlS (.bool true) ?_
     refine WL.nil (hK4 _ _ ?_)
     refine wp_cond_true rfl ?_
     refine wp_seq_k fun K13 hK13 => rgn ?_
     refine VlS (.int .i64 51) ?_
     refine WL.nil (hK13 _ _ ?_)
     refine wp_ret ?_
     try simp only [Exit.inBlock, Exit.then]
     refine bodyPost_ret (results_tmp rfl _ _ _) rfl ?_
     exact ⟨by rw [show headE N = 51 from (if_neg (fun h => h hA)).trans (if_pos (.inr (.inl h3_6)))]; rfl, B1.out⟩
    ·skip
     refine VlS (.bool false) ?_
     refine VlS (.bool false) ?_
     refine VlS (.bool false) ?_
     refine VlS (.pointer (some ⟨g, 1, none⟩)) ?_
     refine VlS (.int .i64 N.ck) ?_
     refine VlS (.pointer (some ⟨g, 2, none⟩)) ?_
     refine VlS (.slice pa N.ps.length pc) ?_
     refine VlS (.int .i64 (N.ps.length : Int)) ?_
     refine WL.callF (by kernel_rfl) 49 _ _ rfl Tryz.in49 #[.int .i64 N.ck, .int .i64 (N.ps.length : Int)] (by simp [Act.eval]) ?_
     refine (clockFits_is N.ck (N.ps.length : Int) w1 _ hF).mono ?_
     rintro e w0 ⟨rfl, hw0⟩
     rw [hw0]
     clear hw0 w0
     refine ⟨_, rfl, ?_⟩
     simp only [Act.put, pqA, pqB, pqC]
     refine VlS (.bool true) ?_
     refine VlS (.bool true) ?_
     refine VlS (.bool true) ?_
     refine WL.nil (hK4 _ _ ?_)
     refine wp_cond_true rfl ?_
     refine wp_seq_k fun K14 hK14 => rgn ?_
     refine VlS (.int .i64 51) ?_
     refine WL.nil (hK14 _ _ ?_)
     refine wp_ret ?_
     try simp only [Exit.inBlock, Exit.then]
     refine bodyPost_ret (results_tmp rfl _ _ _) rfl ?_
     exact ⟨by rw [show headE N = 51 from (if_neg (fun h => h hA)).trans (if_pos (.inr (.inr hF)))]; rfl, B1.out⟩
 ·skip
  refine rgn ?_
  refine VlS (.pointer (some ⟨g, 0, none⟩)) ?_
  refine VlS (.int .i64 N.au) ?_
  refine WL.callF (by kernel_rfl) 77 _ _ rfl Tryz.in77 #[.int .i64 N.au] (by simp [Act.eval]) ?_
  refine (isAuthor_no N.au w1 hA).mono ?_
  rintro e w0 ⟨rfl, hw0⟩
  rw [hw0]
  clear hw0 w0
  refine ⟨_, rfl, ?_⟩
  simp only [Act.put, pqA, pqB, pqC]
  refine VlS (.bool true) ?_
  refine VlS (.bool true) ?_
  refine WL.nil (hK3 _ _ ?_)
  refine wp_cond_true rfl ?_
  refine wp_seq_k fun K15 hK15 => rgn ?_
  refine VlS (.int .i64 50) ?_
  refine WL.nil (hK15 _ _ ?_)
  refine wp_ret ?_
  try simp only [Exit.inBlock, Exit.then]
  refine bodyPost_ret (results_tmp rfl _ _ _) rfl ?_
  exact ⟨by rw [show headE N = 50 from if_pos hA]; rfl, B1.out⟩
set_option maxRecDepth 8000 in
theorem check_node (N : NodeV) (vp vo : Value) (w : World) (hN : NdAt w N vp vo) : Calls Tryz.prog 24 #[.agg (ndA N.au N.ck vp vo)] w fun e w' => e = .returned (.int .i64 (chkN N)) ∧ Below w.heap.size w w' := by
 obtain ⟨pa, pc, rfl⟩ := hN.ps.form
 have HN := Keep.mk hN
 clear hN
 go_enter Tryz.func24, Tryz.ntmps24
 refine wp_seq_k fun K1 hK1 => rgn ?_
 refine WL.box (by kernel_rfl) 28 (.tmp 0) rfl _ rfl ?_
 have HX1 := Keep.mk (Blk.new w 28 (ndA N.au N.ck (.slice pa N.ps.length pc) vo))
 have B1 := Keep.mk (below_new w (.cells (ndA N.au N.ck (.slice pa N.ps.length pc) vo) 28))
 generalize w.alloc (.cells (ndA N.au N.ck (.slice pa N.ps.length pc) vo) 28) = w1 at *
 have HN1 := Keep.mk (HN.out.below B1.out)
 have Hs1 : Keep (w.heap.size < w1.heap.size) := ⟨HX1.out.lt⟩
 have B1x : Keep (w.heap.size ≤ w1.heap.size) := ⟨B1.out.size⟩
 generalize hgg : w.heap.size = g at *
 have d0 := HX1.out.c 0 (nd_0 _ _ _ _)
 have d1 := HX1.out.c 1 (nd_1 _ _ _ _)
 have d2 := HX1.out.c 2 (nd_2 _ _ _ _)
 have d3 := HX1.out.c 3 (nd_3 _ _ _ _)
 simp only [Act.put, pqA, pqB, pqC]
 refine VlS (.int .i64 0) ?_
 refine WL.nil (hK1 _ _ ?_)
 refine wp_seq_k fun K2 hK2 => ?_
 refine wp_seq_k fun K3 hK3 => rgn ?_
 refine WL.row (by kernel_rfl) 28 (.tmp 1) rfl g rfl 28 (ndA N.au N.ck (.slice pa N.ps.length pc) vo) _ HX1.out Tryz.underlying28 rfl (Tryz.size28B _ _ _ _) ?_
 simp only [Act.put, pqA, pqB, pqC]
 refine WL.callF (by kernel_rfl) 41 _ _ rfl Tryz.in41 #[.agg (ndA N.au N.ck (.slice pa N.ps.length pc) vo)] (by simp [Act.eval]) ?_
 refine (wrongHead_any N _ vo w1 HN1.out).mono ?_
 rintro e w2 ⟨rfl, hb2⟩
 refine ⟨_, rfl, ?_⟩
 have B2 := Keep.mk hb2
 have e3 := (HX1.out.below hb2 HX1.out.lt).c 3 (nd_3 _ _ _ _)
 clear hb2 d0 d1 d2 d3
 simp only [Act.put, pqA, pqB, pqC]
 refine VlS (.int .i64 (headE N)) ?_
 refine WL.nil (hK3 _ _ ?_)
 refine wp_seq_k fun K4 hK4 => rgn ?_
 refine VlS (.int .i64 (headE N)) ?_
 by_cases h2_1 : headE N = 0
 ·skip
  refine VlS (.bool false) ?_
  refine WL.nil (hK4 _ _ ?_)
  refine wp_cond_false rfl ?_
  refine wp_skip ?_
  refine hK2 _ _ ?_
  refine wp_seq_k fun K5 hK5 => rgn ?_
  refine VlS (.pointer (some ⟨g, 3, none⟩)) ?_
  refine VlS (vo) ?_
  refine WL.callF (by kernel_rfl) 42 _ _ rfl Tryz.in42 #[vo] (by simp [Act.eval]) ?_
  refine (check_any vo N.ops w2 (HN1.out.below B2.out).ops HN1.out.ok HN1.out.lo).mono ?_
  rintro e w3 ⟨rfl, hb3⟩
  refine ⟨_, rfl, ?_⟩
  have B3 := Keep.mk hb3
  clear hb3
  simp only [Act.put, pqA, pqB, pqC]
  refine VlS (.tuple #[.int .i64 (chk N.ops).1, .int .i64 ((chk N.ops).2 : Int)]) ?_
  refine VlS (.int .i64 (chk N.ops).1) ?_
  refine VlS (.int .i64 ((chk N.ops).2 : Int)) ?_
  refine VlS (.int .i64 (chk N.ops).1) ?_
  refine VlS (.int .i64 ((chk N.ops).2 : Int)) ?_
  refine WL.nil (hK5 _ _ ?_)
  refine wp_seq_k fun K6 hK6 => rgn ?_
  refine VlS (.int .i64 (chk N.ops).1) ?_
  refine VlS (.int .i64 (chk N.ops).1) ?_
  refine WL.nil (hK6 _ _ ?_)
  refine wp_ret ?_
  go_ret
  exact ⟨by rw [show chkN N = (chk N.ops).1 from if_neg (fun h => h h2_1)]; rfl, B1.out.trans ((B2.out.mono B1x.out).trans (B3.out.mono (Nat.le_trans B1x.out B2.out.size)))⟩
 ·skip
  refine VlS (.bool true) ?_
  refine WL.nil (hK4 _ _ ?_)
  refine wp_cond_true rfl ?_
  refine wp_seq_k fun K7 hK7 => rgn ?_
  refine VlS (.int .i64 (headE N)) ?_
  refine VlS (.int .i64 (headE N)) ?_
  refine WL.nil (hK7 _ _ ?_)
  refine wp_ret ?_
  go_ret
  exact ⟨by rw [show chkN N = headE N from if_pos h2_1]; rfl, B1.out.trans (B2.out.mono B1x.out)⟩
structure OL (w0 : World) (p : Nat) (v : Value) (l : List Int) (w : World) : Prop where
 out : OutAt w p v l
 new : w0.heap.size ≤ p
 own : ∀ k, v.ownBlock = some k → w0.heap.size ≤ k
 bel : Below w0.heap.size w0 w
theorem OL.step {w0 w w' : World} {p : Nat} {v v' : Value} {l l' : List Int} (h : OL w0 p v l w) (h1 : OutAt w' p v' l') (h2 : Moved w v v') (h3 : Grown w w' (OF p v)) : OL w0 p v' l' w' where
 out := h1
 new := h.new
 own := fun k hk => by
  rcases h2 with e | ⟨j, e, hj⟩
  ·rw [e] at hk; exact h.own k hk
  ·rw [e] at hk; injection hk with hk; have := h.bel.size; omega
 bel := h.bel.trans (h3.to_below (fun k hk e => by rcases e with rfl | e; have := h.new; omega; have := h.own k e; omega) h.bel.size)
theorem OL.below {w0 w w' : World} {p : Nat} {v : Value} {l : List Int} (h : OL w0 p v l w) (hb : Below w.heap.size w w') : OL w0 p v l w' := ⟨h.out.below hb, h.new, h.own, h.bel.trans (hb.mono h.bel.size)⟩
theorem OL.off {w0 w : World} {p : Nat} {v : Value} {l : List Int} (h : OL w0 p v l w) {k : Nat} (hk : k < w0.heap.size) : ¬ OF p v k := fun e => by
 rcases e with rfl | e
 ·have := h.new; omega
 ·have := h.own k e; omega
theorem hB_flat (l : List Hs) : (l.flatMap hB).length = l.length * 32 := by
 induction l with
 | nil => rfl
 | cons x l ih => rw [List.flatMap_cons, List.length_append, hB_len, ih, List.length_cons]; omega
def LayP (N : NodeV) (w : World) (e : Ending) (w' : World) : Prop :=
 Below w.heap.size w w' ∧ ((headE N ≠ 0 ∧ e = .returned (.tuple #[.pointer none, .int .i64 (chkN N)])) ∨ (headE N = 0 ∧ ∃ p v, e = .returned (.tuple #[ptr p, .int .i64 (chkN N)]) ∧ OutAt w' p v (if (chk N.ops).1 = 0 then blkL N else headL N ++ N.ps.flatMap hB)))
theorem headL_len (N : NodeV) : (headL N).length ≤ 22 := by
 have h1 := numL_len N.ck.toNat
 have h2 := numL_len N.ps.length
 simp only [headL, List.length_append, List.length_cons, List.length_nil]; omega
theorem new_out (w : World) : OutAt (w.alloc (.cells #[.slice none 0 0] 144)) w.heap.size (.slice none 0 0) [] := ⟨Blk.new w 144 _, rfl, .inl ⟨rfl, rfl⟩⟩
theorem HObel {w0 w : World} {p : Nat} {v : Value} {l : List Int} (h : OL w0 p v l w) : Below w0.heap.size w0 w := h.bel
set_option maxRecDepth 8000 in
set_option maxHeartbeats 2000000 in
theorem lay_any (N : NodeV) (vp vo : Value) (w : World) (hN : NdAt w N vp vo) : Calls Tryz.prog 37 #[.agg (ndA N.au N.ck vp vo)] w (LayP N w) := by
 obtain ⟨pa, pc, rfl⟩ := hN.ps.form
 have HN := Keep.mk hN
 clear hN
 go_enter Tryz.func37, Tryz.ntmps37
 refine wp_seq_k fun K1 hK1 => rgn ?_
 refine WL.box (by kernel_rfl) 28 (.tmp 0) rfl _ rfl ?_
 have HX1 := Keep.mk (Blk.new w 28 (ndA N.au N.ck (.slice pa N.ps.length pc) vo))
 have B1 := Keep.mk (below_new w (.cells (ndA N.au N.ck (.slice pa N.ps.length pc) vo) 28))
 generalize w.alloc (.cells (ndA N.au N.ck (.slice pa N.ps.length pc) vo) 28) = w1 at *
 have HN1 := Keep.mk (HN.out.below B1.out)
 have Hs1 : Keep (w.heap.size < w1.heap.size) := ⟨HX1.out.lt⟩
 have B1x : Keep (w.heap.size ≤ w1.heap.size) := ⟨B1.out.size⟩
 generalize hgg : w.heap.size = g at *
 have d0 := HX1.out.c 0 (nd_0 _ _ _ _)
 have d1 := HX1.out.c 1 (nd_1 _ _ _ _)
 have d2 := HX1.out.c 2 (nd_2 _ _ _ _)
 have d3 := HX1.out.c 3 (nd_3 _ _ _ _)
 simp only [Act.put, pqA, pqB, pqC]
 refine VlS (.pointer none) ?_
 refine VlS (.int .i64 0) ?_
 refine WL.nil (hK1 _ _ ?_)
 refine wp_seq_k fun K2 hK2 => ?_
 refine wp_seq_k fun K3 hK3 => rgn ?_
 refine WL.row (by kernel_rfl) 28 (.tmp 1) rfl g rfl 28 (ndA N.au N.ck (.slice pa N.ps.length pc) vo) _ HX1.out Tryz.underlying28 rfl (Tryz.size28B _ _ _ _) ?_
 simp only [Act.put, pqA, pqB, pqC]
 refine WL.callF (by kernel_rfl) 41 _ _ rfl Tryz.in41 #[.agg (ndA N.au N.ck (.slice pa N.ps.length pc) vo)] (by simp [Act.eval]) ?_
 refine (wrongHead_any N _ vo w1 HN1.out).mono ?_
 rintro e w2 ⟨rfl, hb2⟩
 refine ⟨_, rfl, ?_⟩
 have B2 := Keep.mk hb2
 have HX2 := Keep.mk (HX1.out.below hb2 HX1.out.lt)
 have HN2 := Keep.mk (HN1.out.below hb2)
 clear hb2 d0 d1 d2 d3
 simp only [Act.put, pqA, pqB, pqC]
 refine VlS (.int .i64 (headE N)) ?_
 refine WL.nil (hK3 _ _ ?_)
 refine wp_seq_k fun K4 hK4 => rgn ?_
 refine VlS (.int .i64 (headE N)) ?_
 by_cases h2_1 : headE N = 0
 ·skip
  refine VlS (.bool false) ?_
  refine WL.nil (hK4 _ _ ?_)
  refine wp_cond_false rfl ?_
  refine wp_skip ?_
  refine hK2 _ _ ?_
  refine wp_seq_k fun K5 hK5 => rgn ?_
  refine WL.callF (by kernel_rfl) 72 _ _ rfl Tryz.in72 #[] (by simp) ?_
  refine (newOut_any w2).mono ?_
  rintro e w3 ⟨rfl, hw3⟩
  refine ⟨_, rfl, ?_⟩
  rw [hw3]
  clear hw3 w3
  have HO3 : Keep (OL w2 w2.heap.size (.slice none 0 0) [] (w2.alloc (.cells #[.slice none 0 0] 144))) := ⟨⟨new_out w2, Nat.le_refl _, fun k hk => by simp [Value.ownBlock] at hk, below_new w2 _⟩⟩
  generalize w2.alloc (.cells #[.slice none 0 0] 144) = w3 at *
  generalize hp : w2.heap.size = p at *
  have Hh := Keep.mk (headE_ok h2_1)
  simp only [Act.put, pqA, pqB, pqC]
  refine VlS (.pointer (some ⟨p, 0, none⟩)) ?_
  refine WL.nil (hK5 _ _ ?_)
  refine wp_seq_k fun K6 hK6 => rgn ?_
  refine VlS (.pointer (some ⟨p, 0, none⟩)) ?_
  refine WL.callF (by kernel_rfl) 73 _ _ rfl Tryz.in73 #[ptr p, .int .u8 1] (by simp [Act.eval]) ?_
  refine (obyte_any p _ [] 1 w3 HO3.out.out (by decide)).mono ?_
  rintro e w4 ⟨rfl, v4, h1, h2, h3⟩
  refine ⟨_, rfl, ?_⟩
  have HO4 := Keep.mk (HO3.out.step h1 h2 h3)
  have HX4 := Keep.mk (HX2.out.below HO4.out.bel HX2.out.lt)
  clear h1 h2 h3
  have d0 := HX4.out.c 0 (nd_0 _ _ _ _)
  have hw8 : IntKind.u8.wrap N.au = N.au := by rw [IntKind.wrap_u8]; have := Hh.out.1; omega
  simp only [Act.put, pqA, pqB, pqC]
  refine WL.nil (hK6 _ _ ?_)
  refine wp_seq_k fun K7 hK7 => rgn ?_
  refine VlS (.pointer (some ⟨p, 0, none⟩)) ?_
  refine VlS (.pointer (some ⟨g, 0, none⟩)) ?_
  refine VlS (.int .i64 N.au) ?_
  refine VlS (.int .u8 N.au) ?_
  refine WL.callF (by kernel_rfl) 73 _ _ rfl Tryz.in73 #[ptr p, .int .u8 N.au] (by simp [Act.eval]) ?_
  refine (obyte_any p _ ([] ++ [1]) N.au w4 HO4.out.out (by simp)).mono ?_
  rintro e w5 ⟨rfl, v5, h1, h2, h3⟩
  refine ⟨_, rfl, ?_⟩
  have HO5 := Keep.mk (HO4.out.step h1 h2 h3)
  have HX5 := Keep.mk (HX2.out.below HO5.out.bel HX2.out.lt)
  clear h1 h2 h3
  clear d0 hw8
  have d1 := HX5.out.c 1 (nd_1 _ _ _ _)
  obtain ⟨ckn, hck⟩ : ∃ ckn : Nat, N.ck = (ckn : Int) := ⟨N.ck.toNat, by have := Hh.out.2.1; omega⟩
  have Hck := Keep.mk hck
  have hw6 : IntKind.u64.wrap N.ck = (ckn : Int) := by rw [hck, IntKind.wrap_u64]; have := Hh.out.2.2.1; omega
  have Hckb : Keep (ckn ≤ 4096) := ⟨by have := Hh.out.2.2.1; omega⟩
  clear hck
  simp only [Act.put, pqA, pqB, pqC]
  refine WL.nil (hK7 _ _ ?_)
  refine wp_seq_k fun K8 hK8 => rgn ?_
  refine VlS (.pointer (some ⟨p, 0, none⟩)) ?_
  refine VlS (.pointer (some ⟨g, 1, none⟩)) ?_
  refine VlS (.int .i64 N.ck) ?_
  refine VlS (.int .u64 (ckn : Int)) ?_
  refine WL.callF (by kernel_rfl) 74 _ _ rfl Tryz.in74 #[ptr p, .int .u64 (ckn : Int)] (by simp [Act.eval]) ?_
  refine (onum_any p _ (([] ++ [1]) ++ [N.au]) ckn w5 HO5.out.out (by have := Hckb.out; omega) (by have := numL_len ckn; simp only [List.length_append, List.length_cons, List.length_nil]; omega)).mono ?_
  rintro e w6 ⟨rfl, v6, h1, h2, h3⟩
  refine ⟨_, rfl, ?_⟩
  have HO6 := Keep.mk (HO5.out.step h1 h2 h3)
  have HX6 := Keep.mk (HX2.out.below HO6.out.bel HX2.out.lt)
  clear h1 h2 h3
  clear d1 hw6
  have d2 := HX6.out.c 2 (nd_2 _ _ _ _)
  have hw7 : IntKind.u64.wrap (N.ps.length : Int) = (N.ps.length : Int) := by rw [IntKind.wrap_u64]; have := HN.out.lp; omega
  simp only [Act.put, pqA, pqB, pqC]
  refine WL.nil (hK8 _ _ ?_)
  refine wp_seq_k fun K9 hK9 => rgn ?_
  refine VlS (.pointer (some ⟨p, 0, none⟩)) ?_
  refine VlS (.pointer (some ⟨g, 2, none⟩)) ?_
  refine VlS (.slice pa N.ps.length pc) ?_
  refine VlS (.int .i64 (N.ps.length : Int)) ?_
  refine VlS (.int .u64 (N.ps.length : Int)) ?_
  refine WL.callF (by kernel_rfl) 74 _ _ rfl Tryz.in74 #[ptr p, .int .u64 (N.ps.length : Int)] (by simp [Act.eval]) ?_
  refine (onum_any p _ ((([] ++ [1]) ++ [N.au]) ++ numL ckn) N.ps.length w6 HO6.out.out (by have := HN.out.lp; omega) (by have := numL_len ckn; have := numL_len N.ps.length; simp only [List.length_append, List.length_cons, List.length_nil]; omega)).mono ?_
  rintro e w7 ⟨rfl, v7, h1, h2, h3⟩
  refine ⟨_, rfl, ?_⟩
  have HO7 := Keep.mk (HO6.out.step h1 h2 h3)
  have HX7 := Keep.mk (HX2.out.below HO7.out.bel HX2.out.lt)
  clear h1 h2 h3
  clear d2 hw7
  have HO7' : Keep (OL w2 p v7 (headL N) w7) := ⟨by have := HO7.out; simp only [List.nil_append] at this; unfold headL; rw [show N.ck.toNat = ckn by rw [Hck.out]; rfl]; exact this⟩
  have d2 := HX7.out.c 2 (nd_2 _ _ _ _)
  simp only [Act.put, pqA, pqB, pqC]
  refine WL.nil (hK9 _ _ ?_)
  refine wp_seq_k fun K10 hK10 => ?_
  refine wp_seq_k fun K11 hK11 => rgn ?_
  refine VlS (.pointer (some ⟨g, 2, none⟩)) ?_
  refine VlS (.slice pa N.ps.length pc) ?_
  refine VlS (.int .i64 (N.ps.length : Int)) ?_
  refine VlS (.int .i64 0) ?_
  refine WL.nil (hK11 _ _ ?_)
  refine wp_block ?_
  refine wp_loop (fun ac wr => ∃ (t : Nat) (u7 u36 u37 u38 u39 u40 u41 u42 : Value), ac = { tmps := #[.agg (ndA N.au N.ck (.slice pa N.ps.length pc) vo), .pointer (some ⟨g, 0, none⟩), .pointer none, .int .i64 0, .int .i64 (headE N), .pointer (some ⟨p, 0, none⟩), undef, u7, .agg (ndA N.au N.ck (.slice pa N.ps.length pc) vo), .int .i64 (headE N), .int .i64 (headE N), .bool false, undef, .pointer (some ⟨p, 0, none⟩), .pointer (some ⟨p, 0, none⟩), .tuple #[], .pointer (some ⟨p, 0, none⟩), .pointer (some ⟨g, 0, none⟩), .int .i64 N.au, .int .u8 N.au, .tuple #[], .pointer (some ⟨p, 0, none⟩), .pointer (some ⟨g, 1, none⟩), .int .i64 N.ck, .int .u64 (ckn : Int), .tuple #[], .pointer (some ⟨p, 0, none⟩), .pointer (some ⟨g, 2, none⟩), .slice pa N.ps.length pc, .int .i64 (N.ps.length : Int), .int .u64 (N.ps.length : Int), .tuple #[], .pointer (some ⟨g, 2, none⟩), .slice pa N.ps.length pc, .int .i64 (N.ps.length : Int), .int .i64 (t : Int), u36, u37, u38, u39, u40, u41, u42, undef, undef, undef, undef, undef], defers := [] } ∧ t ≤ N.ps.length ∧ ∃ vx, OL w2 p vx (headL N ++ (N.ps.take t).flatMap hB) wr) (fun a _ => N.ps.length - (intOf (a.tmps.getD 35 undef)).toNat) ⟨0, undef, undef, undef, undef, undef, undef, undef, undef, rfl, by omega, v7, by simpa using HO7'.out⟩ ?_
  rintro ac wr ⟨t, u7, u36, u37, u38, u39, u40, u41, u42, rfl, ht, vx, hO⟩
  by_cases htl : t < N.ps.length
  ·have htl' : (t : Int) < (N.ps.length : Int) := by omega
   have hwr1 : IntKind.i64.wrap ((t : Int) + 1) = (t : Int) + 1 := by rw [IntKind.wrap_i64]; have := HN.out.lp; omega
   obtain ⟨gp, op, hpa, hlen, hcap, hrg⟩ := ((HN2.out.below (HObel hO)).ps).at (by omega)
   have hel := Sh.rangeAt_elem hrg t htl
   obtain ⟨hh, hhh⟩ : ∃ hh, hh = N.ps[t] := ⟨_, rfl⟩
   rw [← hhh] at hel
   have JO := Keep.mk hO
   have Jhh := Keep.mk hhh
   clear hO hlen hcap hrg hhh
   refine wp_seq_k fun K12 hK12 => rgn ?_
   refine VlS (.bool true) ?_
   refine WL.nil (hK12 _ _ ?_)
   refine wp_seq_k fun K13 hK13 => ?_
   refine wp_cond_true rfl ?_
   refine wp_skip ?_
   refine hK13 _ _ ?_
   refine wp_seq_k fun K14 hK14 => ?_
   refine wp_block ?_
   refine wp_seq_k fun K15 hK15 => rgn ?_
   refine VlS (.pointer (some ⟨gp, op + t * 32, none⟩)) ?_
   refine WL.mid (by kernel_rfl) 41 (.tmp 37) rfl gp (op + t * 32) rfl (Sh.encH hh) _ hel Tryz.underlying41 rfl (Tryz.sizeHL hh) ?_
   rw [enc_load]
   simp only [Act.put, pqA, pqB, pqC]
   refine WL.new (by kernel_rfl) 41 rfl _ Tryz.new41 ?_
   simp only [Act.put, pqA, pqB, pqC]
   refine WL.storeR (by kernel_rfl) 41 (.tmp 7) (.tmp 38) rfl wr.heap.size (bytesA 32 hh.f) rfl rfl 41 (bytesA 32 fun _ => 0) (Blk.new wr 41 _) (Tryz.size41B _) (bytesA_sizes _ _ _) (bytesA_one _ _) ?_
   have HY := Keep.mk ((Blk.new wr 41 (bytesA 32 fun _ => 0)).setRow (bytesA 32 hh.f))
   have BY : Keep (Below wr.heap.size wr ((wr.alloc (.cells (bytesA 32 fun _ => 0) 41)).setRow wr.heap.size (bytesA 32 hh.f))) := ⟨below_setRow (below_new wr _) (Nat.le_refl _) _⟩
   generalize (wr.alloc (.cells (bytesA 32 fun _ => 0) 41)).setRow wr.heap.size (bytesA 32 hh.f) = wq at *
   have JO1 := Keep.mk (JO.out.below BY.out)
   simp only [Act.put]
   refine WL.nil (hK15 _ _ ?_)
   refine rgn ?_
   refine VlS (.pointer (some ⟨p, 0, none⟩)) ?_
   refine WL.row (by kernel_rfl) 41 (.tmp 7) rfl wr.heap.size rfl 41 (bytesA 32 hh.f) _ HY.out Tryz.underlying41 rfl (Tryz.size41B _) ?_
   simp only [Act.put, pqA, pqB, pqC]
   refine WL.callF (by kernel_rfl) 75 _ _ rfl Tryz.in75 #[ptr p, .agg (bytesA 32 hh.f)] (by simp [Act.eval]) ?_
   refine (ohash_any p _ _ hh.f wq JO1.out.out (by have h1 := headL_len N; have h2 := HN.out.lp; have h3 := hB_flat (N.ps.take t); have h4 := List.length_take_le t N.ps; rw [List.length_append]; omega)).mono ?_
   rintro e wz ⟨rfl, vz, h1, h2, h3⟩
   refine ⟨_, rfl, ?_⟩
   have JO2 := Keep.mk (JO1.out.step h1 h2 h3)
   clear h1 h2 h3
   simp only [Act.put, pqA, pqB, pqC]
   refine WL.nil (hK14 _ _ ?_)
   refine rgn ?_
   refine VlS (.int .i64 ((t : Int) + 1)) ?_
   refine VlS (.int .i64 ((t : Int) + 1)) ?_
   refine WL.nil ?_
   have hnx : headL N ++ (N.ps.take (t + 1)).flatMap hB = headL N ++ (N.ps.take t).flatMap hB ++ hl 32 hh.f := by rw [List.take_succ_eq_append_getElem htl, List.flatMap_append, ← Jhh.out, List.append_assoc]; simp [hB]
   refine ⟨⟨t + 1, .pointer (some ⟨wr.heap.size, 0, none⟩), .bool true, .pointer (some ⟨gp, op + t * 32, none⟩), .agg (bytesA 32 hh.f), .pointer (some ⟨p, 0, none⟩), .agg (bytesA 32 hh.f), .tuple #[], .int .i64 ((t : Int) + 1), rfl, by omega, vz, by rw [hnx]; exact JO2.out⟩, ?_⟩
   simp only [intOf]; show N.ps.length - ((t : Int) + 1).toNat < N.ps.length - ((t : Int)).toNat; omega
  ·have hte : t = N.ps.length := by omega
   have htl' : ¬ (t : Int) < (N.ps.length : Int) := by omega
   rw [hte, List.take_length] at hO
   have JO := Keep.mk hO
   clear hO
   have d3 := (HX2.out.below (HObel JO.out) HX2.out.lt).c 3 (nd_3 _ _ _ _)
   refine wp_seq_k fun K16 hK16 => rgn ?_
   refine VlS (.bool false) ?_
   refine WL.nil (hK16 _ _ ?_)
   refine wp_seq_k fun K17 hK17 => ?_
   refine wp_cond_false rfl ?_
   refine wp_exit ?_
   refine hK10 _ _ ?_
   refine wp_seq_k fun K18 hK18 => rgn ?_
   refine VlS (.pointer (some ⟨p, 0, none⟩)) ?_
   refine VlS (.pointer (some ⟨p, 0, none⟩)) ?_
   refine VlS (.pointer (some ⟨g, 3, none⟩)) ?_
   refine VlS (vo) ?_
   refine WL.callF (by kernel_rfl) 76 _ _ rfl Tryz.in76 #[ptr p, vo] (by simp [Act.eval]) ?_
   refine (put_anyE p vx _ vo N.ops wr JO.out.out ((HN2.out.below (HObel JO.out)).ops) HN.out.ok HN.out.lo (fun hne k hk => JO.out.off (HN2.out.bo hne k hk)) (fun hc => by have h1 := headL_len N; have h2 := HN.out.lp; have h3 := hB_flat N.ps; have h4 := form_small N.ops hc; rw [List.length_append]; omega)).mono ?_
   rintro e wz ⟨rfl, vz, h1, h2, h3⟩
   refine ⟨_, rfl, ?_⟩
   have JO2 := Keep.mk (JO.out.step h1 h2 h3)
   clear h1 h2 h3
   simp only [Act.put, pqA, pqB, pqC]
   refine VlS (.pointer (some ⟨p, 0, none⟩)) ?_
   refine VlS (.int .i64 (chk N.ops).1) ?_
   refine WL.nil (hK18 _ _ ?_)
   refine wp_ret ?_
   go_ret2
   exact ⟨by rw [hgg]; exact B1.out.trans ((B2.out.mono B1x.out).trans ((HObel JO2.out).mono (by have := B2.out.size; have := B1x.out; omega))), .inr ⟨h2_1, p, vz, by rw [show chkN N = (chk N.ops).1 from if_neg (fun h => h h2_1)]; rfl, JO2.out.out⟩⟩
 ·skip
  refine VlS (.bool true) ?_
  refine WL.nil (hK4 _ _ ?_)
  refine wp_cond_true rfl ?_
  refine wp_seq_k fun K19 hK19 => rgn ?_
  refine VlS (.int .i64 (headE N)) ?_
  refine VlS (.pointer none) ?_
  refine VlS (.int .i64 (headE N)) ?_
  refine WL.nil (hK19 _ _ ?_)
  refine wp_ret ?_
  go_ret2
  exact ⟨by rw [hgg]; exact B1.out.trans (B2.out.mono B1x.out), .inl ⟨h2_1, by rw [show chkN N = headE N from if_pos h2_1]; rfl⟩⟩
theorem chkN_ok {N : NodeV} (h : chkN N = 0) : headE N = 0 ∧ (chk N.ops).1 = 0 := by
 unfold chkN at h
 by_cases h0 : headE N = 0
 ·rw [if_neg (fun e => e h0)] at h; exact ⟨h0, h⟩
 ·rw [if_pos h0] at h; exact absurd h h0
theorem chkN_is {N : NodeV} (h : headE N = 0) : chkN N = (chk N.ops).1 := if_neg (fun e => e h)
theorem chkN_no {N : NodeV} (h : headE N ≠ 0) : chkN N ≠ 0 := by unfold chkN; rw [if_pos h]; exact h
def EncP (N : NodeV) (w : World) (e : Ending) (w' : World) : Prop :=
 Below w.heap.size w w' ∧ ((chkN N ≠ 0 ∧ e = .returned (.tuple #[.slice none 0 0, .int .i64 (chkN N)])) ∨ (chkN N = 0 ∧ 1048576 < (blkL N).length ∧ e = .returned (.tuple #[.slice none 0 0, .int .i64 4])) ∨
  (chkN N = 0 ∧ (blkL N).length ≤ 1048576 ∧ ∃ g, w.heap.size ≤ g ∧ e = .returned (.tuple #[.slice (some ⟨g, 0, none⟩) (blkL N).length (blkL N).length, .int .i64 0]) ∧ Blk w' g 5 (bv (blkL N)).toArray))
theorem blkL_len {N : NodeV} (h : (chk N.ops).1 = 0) (hp : N.ps.length ≤ 4398046511104) : (blkL N).length ≤ 200000000000000 := by
 have h1 := headL_len N
 have h3 := hB_flat N.ps
 have h4 := form_small N.ops h
 simp only [blkL, List.length_append]; omega
set_option maxRecDepth 8000 in
theorem encode_any (N : NodeV) (vp vo : Value) (w : World) (hN : NdAt w N vp vo) : Calls Tryz.prog 16 #[.agg (ndA N.au N.ck vp vo)] w (EncP N w) := by
 obtain ⟨pa, pc, rfl⟩ := hN.ps.form
 have HN := Keep.mk hN
 clear hN
 go_enter Tryz.func16, Tryz.ntmps16
 refine wp_seq_k fun K1 hK1 => rgn ?_
 refine WL.box (by kernel_rfl) 28 (.tmp 0) rfl _ rfl ?_
 have HX1 := Keep.mk (Blk.new w 28 (ndA N.au N.ck (.slice pa N.ps.length pc) vo))
 have B1 := Keep.mk (below_new w (.cells (ndA N.au N.ck (.slice pa N.ps.length pc) vo) 28))
 generalize w.alloc (.cells (ndA N.au N.ck (.slice pa N.ps.length pc) vo) 28) = w1 at *
 have HN1 := Keep.mk (HN.out.below B1.out)
 have Hs1 : Keep (w.heap.size < w1.heap.size) := ⟨HX1.out.lt⟩
 have B1x : Keep (w.heap.size ≤ w1.heap.size) := ⟨B1.out.size⟩
 generalize hgg : w.heap.size = g at *
 simp only [Act.put, pqA, pqB, pqC]
 refine VlS (.slice none 0 0) ?_
 refine VlS (.int .i64 0) ?_
 refine WL.nil (hK1 _ _ ?_)
 refine wp_seq_k fun K2 hK2 => rgn ?_
 refine WL.row (by kernel_rfl) 28 (.tmp 1) rfl g rfl 28 (ndA N.au N.ck (.slice pa N.ps.length pc) vo) _ HX1.out Tryz.underlying28 rfl (Tryz.size28B _ _ _ _) ?_
 simp only [Act.put, pqA, pqB, pqC]
 refine WL.callF (by kernel_rfl) 37 _ _ rfl Tryz.in37 #[.agg (ndA N.au N.ck (.slice pa N.ps.length pc) vo)] (by simp [Act.eval]) ?_
 refine (lay_any N _ vo w1 HN1.out).mono ?_
 rintro e w2 ⟨hb2, (⟨hh, rfl⟩ | ⟨hh, p, v, rfl, hO⟩)⟩
 ·refine ⟨_, rfl, ?_⟩
  have B2 := Keep.mk hb2
  have Hh := Keep.mk (chkN_no hh)
  have hch := chkN_no hh
  clear hb2
  simp only [Act.put, pqA, pqB, pqC]
  refine VlS (.tuple #[.pointer none, .int .i64 (chkN N)]) ?_
  refine VlS (.pointer none) ?_
  refine VlS (.int .i64 (chkN N)) ?_
  refine VlS (.pointer none) ?_
  refine VlS (.int .i64 (chkN N)) ?_
  refine WL.nil (hK2 _ _ ?_)
  refine wp_seq_k fun K3 hK3 => ?_
  refine wp_seq_k fun K4 hK4 => rgn ?_
  refine VlS (.int .i64 (chkN N)) ?_
  refine VlS (.bool true) ?_
  refine WL.nil (hK4 _ _ ?_)
  refine wp_cond_true rfl ?_
  refine wp_seq_k fun K5 hK5 => rgn ?_
  refine VlS (.int .i64 (chkN N)) ?_
  refine VlS (.slice none 0 0) ?_
  refine VlS (.int .i64 (chkN N)) ?_
  refine WL.nil (hK5 _ _ ?_)
  refine wp_ret ?_
  go_ret2
  have BB : Below w.heap.size w w2 := by rw [hgg]; exact B1.out.trans (B2.out.mono B1x.out)
  exact ⟨BB, .inl ⟨Hh.out, rfl⟩⟩
 ·refine ⟨_, rfl, ?_⟩
  have B2 := Keep.mk hb2
  have Hh := Keep.mk hh
  have HO := Keep.mk hO
  clear hb2 hO
  simp only [Act.put, pqA, pqB, pqC]
  refine VlS (.tuple #[.pointer (some ⟨p, 0, none⟩), .int .i64 (chkN N)]) ?_
  refine VlS (.pointer (some ⟨p, 0, none⟩)) ?_
  refine VlS (.int .i64 (chkN N)) ?_
  refine VlS (.pointer (some ⟨p, 0, none⟩)) ?_
  refine VlS (.int .i64 (chkN N)) ?_
  refine WL.nil (hK2 _ _ ?_)
  refine wp_seq_k fun K6 hK6 => ?_
  refine wp_seq_k fun K7 hK7 => rgn ?_
  refine VlS (.int .i64 (chkN N)) ?_
  by_cases h2_1 : chkN N = 0
  ·skip
   refine VlS (.bool false) ?_
   refine WL.nil (hK7 _ _ ?_)
   refine wp_cond_false rfl ?_
   refine wp_skip ?_
   refine hK6 _ _ ?_
   refine wp_seq_k fun K8 hK8 => ?_
   refine wp_seq_k fun K9 hK9 => ?_
   have hc := (chkN_ok h2_1).2
   have HL := Keep.mk (blkL_len hc HN.out.lp)
   rw [if_pos hc] at HO
   clear hc
   refine rgn ?_
   refine VlS (.pointer (some ⟨p, 0, none⟩)) ?_
   refine WL.callF (by kernel_rfl) 38 _ _ rfl Tryz.in38 #[ptr p] (by simp [Act.eval]) ?_
   refine (olen_any p v _ w2 HO.out).mono ?_
   rintro e w0 ⟨rfl, hw0⟩
   rw [hw0]
   clear hw0 w0
   refine ⟨_, rfl, ?_⟩
   simp only [Act.put, pqA, pqB, pqC]
   by_cases h4_2 : 1048576 < (blkL N).length
   ·have h4_2i : (1048576 : Int) < ((blkL N).length : Int) := by omega
    refine VlS (.bool true) ?_
    refine WL.nil (hK9 _ _ ?_)
    refine wp_cond_true rfl ?_
    refine wp_seq_k fun K10 hK10 => rgn ?_
    refine VlS (.slice none 0 0) ?_
    refine VlS (.int .i64 4) ?_
    refine WL.nil (hK10 _ _ ?_)
    refine wp_ret ?_
    go_ret2
    have BB : Below w.heap.size w w2 := by rw [hgg]; exact B1.out.trans (B2.out.mono B1x.out)
    exact ⟨BB, .inr (.inl ⟨h2_1, h4_2, rfl⟩)⟩
   ·have h4_2i : ¬ (1048576 : Int) < ((blkL N).length : Int) := by omega
    refine VlS (.bool false) ?_
    refine WL.nil (hK9 _ _ ?_)
    refine wp_cond_false rfl ?_
    refine wp_skip ?_
    refine hK8 _ _ ?_
    refine wp_seq_k fun K11 hK11 => rgn ?_
    refine VlS (.pointer (some ⟨p, 0, none⟩)) ?_
    refine WL.callF (by kernel_rfl) 39 _ _ rfl Tryz.in39 #[ptr p] (by simp [Act.eval]) ?_
    refine (odone_any p v _ w2 HO.out HL.out).mono ?_
    rintro e w3 ⟨rfl, hw3⟩
    refine ⟨_, rfl, ?_⟩
    rw [hw3]
    clear hw3 w3
    simp only [Act.put, pqA, pqB, pqC]
    refine VlS (.slice (some ⟨w2.heap.size, 0, none⟩) (blkL N).length (blkL N).length) ?_
    refine VlS (.int .i64 0) ?_
    refine WL.nil (hK11 _ _ ?_)
    refine wp_ret ?_
    go_ret2
    have BB : Below w.heap.size w w2 := by rw [hgg]; exact B1.out.trans (B2.out.mono B1x.out)
    exact ⟨BB.trans ((below_new w2 _).mono BB.size), .inr (.inr ⟨h2_1, by omega, w2.heap.size, BB.size, rfl, Blk.new w2 5 _⟩)⟩
  ·skip
   refine VlS (.bool true) ?_
   refine WL.nil (hK7 _ _ ?_)
   refine wp_cond_true rfl ?_
   refine wp_seq_k fun K12 hK12 => rgn ?_
   refine VlS (.int .i64 (chkN N)) ?_
   refine VlS (.slice none 0 0) ?_
   refine VlS (.int .i64 (chkN N)) ?_
   refine WL.nil (hK12 _ _ ?_)
   refine wp_ret ?_
   go_ret2
   have BB : Below w.heap.size w w2 := by rw [hgg]; exact B1.out.trans (B2.out.mono B1x.out)
   exact ⟨BB, .inl ⟨h2_1, rfl⟩⟩
theorem er_built : Tryz.prog.built 34 [] = some (erA 0 0) := by kernel_rfl
theorem Tryz.in8 (w : World) (vs : Array Value) : (callFunc 8 vs).run Tryz.prog w = .ok (.enter 8 vs) w := by kernel_rfl
set_option maxRecDepth 8000 in
theorem told_nil (w : World) : Calls Tryz.prog 8 #[.nilIface] w fun e w' => e = .returned (.tuple #[.agg (erA 0 0), .bool true]) ∧ Below w.heap.size w w' := by
 go_enter Tryz.func8, Tryz.ntmps8
 refine wp_seq_k fun K1 hK1 => rgn ?_
 refine WL.new (by kernel_rfl) 34 rfl _ Tryz.new34E ?_
 have HZ := Keep.mk (Blk.new w 34 (erA 0 0))
 have HB := Keep.mk (below_new w (.cells (erA 0 0) 34))
 generalize w.alloc (.cells (erA 0 0) 34) = w1 at *
 simp only [Act.put, pqA, pqB, pqC]
 refine VlS (.bool false) ?_
 refine WL.nil (hK1 _ _ ?_)
 refine wp_seq_k fun K2 hK2 => ?_
 refine wp_seq_k fun K3 hK3 => rgn ?_
 refine VlS (.nilIface) ?_
 refine VlS (.bool true) ?_
 refine WL.nil (hK3 _ _ ?_)
 refine wp_cond_true rfl ?_
 refine wp_seq_k fun K4 hK4 => rgn ?_
 refine WL.bld (by kernel_rfl) 34 _ rfl [] (by simp) _ er_built ?_
 simp only [Act.put, pqA, pqB, pqC]
 refine WL.storeR (by kernel_rfl) 34 (.tmp 2) (.tmp 8) rfl w.heap.size (erA 0 0) rfl rfl 34 (erA 0 0) HZ.out (Tryz.size34B _ _) (erA_sizes _ _ _ _) (erA_one _ _) ?_
 simp only [Act.put]
 refine VlS (.bool true) ?_
 refine WL.nil (hK4 _ _ ?_)
 refine wp_ret ?_
 try simp only [Exit.then]
 refine bodyPost_ret (v := .tuple #[.agg (erA 0 0), .bool true]) (results_cell_row2 Tryz.results8 _ _ w.heap.size 34 _ (0, 0) _ _ rfl rfl (HZ.out.setRow _) Tryz.underlying34 rfl (Tryz.size34B _ _)) rfl ?_
 exact ⟨rfl, below_setRow HB.out (Nat.le_refl _) _⟩
set_option maxRecDepth 8000 in
theorem told_err (q : Nat) (why : Int) (a : Nat) (w : World) (hq : BadAt w q why a) (hw : why ≠ 0) : Calls Tryz.prog 8 #[err q] w fun e w' => e = .returned (.tuple #[.agg (erA why (a : Int)), .bool true]) ∧ Below w.heap.size w w' := by
 have HQ : Keep (Blk w q 71 #[.int .i64 why, .int .i64 (a : Int)]) := ⟨hq⟩
 have has := assertBad (ptr q)
 clear hq
 unfold err
 go_enter Tryz.func8, Tryz.ntmps8
 refine wp_seq_k fun K1 hK1 => rgn ?_
 refine WL.new (by kernel_rfl) 34 rfl _ Tryz.new34E ?_
 have HZ := Keep.mk (Blk.new w 34 (erA 0 0))
 have HB := Keep.mk (below_new w (.cells (erA 0 0) 34))
 have HQ1 := Keep.mk (HQ.out.alloc (.cells (erA 0 0) 34))
 generalize w.alloc (.cells (erA 0 0) 34) = w1 at *
 have c0 := HQ1.out.c 0 rfl
 simp only [Act.put, pqA, pqB, pqC]
 refine VlS (.bool false) ?_
 refine WL.nil (hK1 _ _ ?_)
 refine wp_seq_k fun K2 hK2 => ?_
 refine wp_seq_k fun K3 hK3 => rgn ?_
 refine VlS (.iface 69 (ptr q)) ?_
 refine VlS (.bool false) ?_
 refine WL.nil (hK3 _ _ ?_)
 refine wp_cond_false rfl ?_
 refine wp_skip ?_
 refine hK2 _ _ ?_
 refine wp_seq_k fun K4 hK4 => rgn ?_
 refine VlS (.iface 69 (ptr q)) ?_
 refine VlS (.tuple #[ptr q, .bool true]) ?_
 refine VlS (.tuple #[ptr q, .bool true]) ?_
 refine VlS (ptr q) ?_
 refine VlS (.bool true) ?_
 refine VlS (ptr q) ?_
 refine VlS (.bool true) ?_
 refine WL.nil (hK4 _ _ ?_)
 refine wp_seq_k fun K5 hK5 => ?_
 refine wp_seq_k fun K6 hK6 => rgn ?_
 refine VlS (.bool true) ?_
 refine VlS (.bool false) ?_
 refine VlS (.bool false) ?_
 refine VlS (ptr q) ?_
 refine VlS (.bool false) ?_
 refine VlS (.bool false) ?_
 refine VlS (.bool false) ?_
 refine VlS (ptr q) ?_
 refine VlS (.pointer (some ⟨q, 0, none⟩)) ?_
 refine VlS (.pointer (some ⟨q, 0, none⟩)) ?_
 refine VlS (.int .i64 why) ?_
 refine VlS (.bool false) ?_
 refine VlS (.bool false) ?_
 refine WL.nil (hK6 _ _ ?_)
 refine wp_cond_false rfl ?_
 refine wp_skip ?_
 refine hK5 _ _ ?_
 refine wp_seq_k fun K7 hK7 => ?_
 clear c0
 have HS : Keep (∀ wx, Blk wx q 71 #[.int .i64 why, .int .i64 (a : Int)] → wx.cell? ⟨q, 0, none⟩ = some (.int .i64 why) ∧ wx.cell? ⟨q, 1, none⟩ = some (.int .i64 (a : Int))) := ⟨fun wx h => ⟨h.c 0 rfl, h.c 1 rfl⟩⟩
 refine wp_region_held_drew (S := fun wx => wx.cell? ⟨q, 0, none⟩ = some (.int .i64 why) ∧ wx.cell? ⟨q, 1, none⟩ = some (.int .i64 (a : Int))) (by kernel_rfl) (HS.out _ HQ1.out.drew) (fun hHeld => ?_)
 refine tkS (i := 0) (oi := ⟨some 28, Op.move (Operand.tmp 4), 69, _, _, none⟩) (v := .pointer (some ⟨q, 0, none⟩)) rfl (Or.inl ⟨by rfl, fun w hS => by obtain ⟨hs1, hs2⟩ := hS; go_simp⟩) hHeld ?_
 refine tkS (i := 1) (oi := ⟨some 29, Op.nilCheck (Operand.tmp 28), 0, _, _, none⟩) (v := .pointer (some ⟨q, 0, none⟩)) rfl (Or.inl ⟨by rfl, fun w hS => by obtain ⟨hs1, hs2⟩ := hS; go_simp⟩) hHeld ?_
 refine tkS (i := 2) (oi := ⟨some 30, Op.fieldAddr 71 (Operand.tmp 29) 0, 0, _, _, none⟩) (v := .pointer (some ⟨q, 0, none⟩)) rfl (Or.inl ⟨by rfl, fun w hS => by obtain ⟨hs1, hs2⟩ := hS; go_simp⟩) hHeld ?_
 refine tkS (i := 3) (oi := ⟨some 31, Op.load 55 (Operand.tmp 30), 55, _, _, none⟩) (v := .int .i64 why) rfl (Or.inl ⟨by rfl, fun w hS => by obtain ⟨hs1, hs2⟩ := hS; go_simp⟩) hHeld ?_
 refine tkS (i := 4) (oi := ⟨some 32, Op.move (Operand.tmp 4), 69, _, _, none⟩) (v := .pointer (some ⟨q, 0, none⟩)) rfl (Or.inl ⟨by rfl, fun w hS => by obtain ⟨hs1, hs2⟩ := hS; go_simp⟩) hHeld ?_
 refine tkS (i := 5) (oi := ⟨some 33, Op.nilCheck (Operand.tmp 32), 0, _, _, none⟩) (v := .pointer (some ⟨q, 0, none⟩)) rfl (Or.inl ⟨by rfl, fun w hS => by obtain ⟨hs1, hs2⟩ := hS; go_simp⟩) hHeld ?_
 refine tkS (i := 6) (oi := ⟨some 34, Op.fieldAddr 71 (Operand.tmp 33) 1, 0, _, _, none⟩) (v := .pointer (some ⟨q, 1, none⟩)) rfl (Or.inl ⟨by rfl, fun w hS => by obtain ⟨hs1, hs2⟩ := hS; go_simp⟩) hHeld ?_
 refine tkS (i := 7) (oi := ⟨some 35, Op.load 3 (Operand.tmp 34), 3, _, _, none⟩) (v := .int .i64 (a : Int)) rfl (Or.inl ⟨by rfl, fun w hS => by obtain ⟨hs1, hs2⟩ := hS; go_simp⟩) hHeld ?_
 refine tkS (i := 8) (oi := ⟨some 36, Op.build 34 #[(0, Operand.tmp 31), (1, Operand.tmp 35)], 34, _, _, none⟩) (v := .agg #[.int .i64 why, .int .i64 (a : Int)]) rfl (Or.inl ⟨by rfl, fun w hS => by go_simp⟩) hHeld ?_
 refine wpAnyH_ready (rs := [9]) (by kernel_rfl) (by simp) ?_
 refine AllReadyH.cons (o := ⟨none, Op.store 34 (Operand.tmp 2) (Operand.tmp 36), 0, _, _, none⟩) rfl (fun K hK => ?_) AllReadyH.nil
 rw [if_pos (by rfl)]
 refine wp_store_row 34 (.tmp 2) (.tmp 36) rfl w.heap.size (erA why (a : Int)) rfl rfl 34 (erA 0 0) HZ.out.drew (Tryz.size34B _ _) (erA_sizes _ _ _ _) (erA_one _ _) ?_
 refine hK.out _ _ (HS.out _ (HQ1.out.drew.setRow_ne (blk_ne HQ1.out HZ.out (by decide)) _)) fun hH2 => ?_
 clear hK
 simp only [Act.put, pqA, pqB, pqC]
 refine tkS (i := 10) (oi := ⟨some 3, Op.assign (Operand.const (Value.bool true)), 4, _, _, none⟩) (v := .bool true) rfl (Or.inl ⟨by rfl, fun w hS => by obtain ⟨hs1, hs2⟩ := hS; go_simp⟩) hH2 ?_
 refine wpAnyH_done (by kernel_rfl) ?_ _
 refine hK7 _ _ ?_
 refine wp_ret ?_
 try simp only [Exit.then]
 refine bodyPost_ret (v := .tuple #[.agg (erA why (a : Int)), .bool true]) (results_cell_row2 Tryz.results8 _ _ w.heap.size 34 _ (0, 0) _ _ rfl rfl (HZ.out.drew.setRow _) Tryz.underlying34 rfl (Tryz.size34B _ _)) rfl ?_
 exact ⟨rfl, below_setRow HB.out.drew (Nat.le_refl _) _⟩
theorem nA_built : Tryz.prog.built 28 [(0, .int .i64 1), (1, .int .i64 1)] = some (ndA 1 1 noS noS) := by kernel_rfl
def nA : NodeV := ⟨1, 1, [], []⟩
def nB : NodeV := ⟨2, 1, [], []⟩
theorem nA_chk : chkN nA = 0 := by decide
theorem nB_chk : chkN nB = 0 := by decide
theorem nA_blk : blkL nA = [1, 1, 1, 0, 0] := by decide
theorem nA_str : strOfNums [1, 1, 1, 0, 0] = { data := #[1, 1, 1, 0, 0] } := by kernel_rfl
theorem dB : decR [1, 2, 1, 0, 0] = (0, 5, nB) := by kernel_rfl
theorem byB : Byts [1, 2, 1, 0, 0] := fun c hc => by simp at hc; omega
theorem byC : Byts [1, 9] := fun c hc => by simp at hc; omega
theorem dC : badR [1, 9] = (50, 1) := by decide
theorem bsB5 (w : World) : (Instr.buildSlice 24 5 #[(0, .int .u8 1), (1, .int .u8 2), (2, .int .u8 1), (3, .int .u8 0), (4, .int .u8 0)]).run Tryz.prog w = .ok (.slice (some ⟨w.heap.size, 0, none⟩) 5 5) (w.alloc (.cells (bv [1, 2, 1, 0, 0]).toArray 5)) := by kernel_rfl
theorem bsB2 (w : World) : (Instr.buildSlice 24 2 #[(0, .int .u8 1), (1, .int .u8 9)]).run Tryz.prog w = .ok (.slice (some ⟨w.heap.size, 0, none⟩) 2 2) (w.alloc (.cells (bv [1, 9]).toArray 5)) := by kernel_rfl
theorem row_of {w : World} {g : Nat} {T : TypeId} {l : List Int} {n : Nat} (h : Blk w g T (bv l).toArray) (hn : n = l.length) : RowAt w (.slice (some ⟨g, 0, none⟩) n n) l := by
 subst hn
 refine .inr (.inr ⟨g, 0, l.length, rfl, Nat.le_refl _, fun i hi => ?_⟩)
 rw [Nat.zero_add, h.cell, List.getElem?_toArray]
 exact bv_get l i hi
theorem ndAt_empty (w : World) (N : NodeV) (hp : N.ps = []) (ho : N.ops = []) (h1 : -9223372036854775808 ≤ N.au ∧ N.au ≤ 9223372036854775807) (h2 : -9223372036854775808 ≤ N.ck ∧ N.ck ≤ 9223372036854775807) : NdAt w N noS noS :=
 ⟨.inl ⟨none, 0, rfl, hp, fun _ => rfl⟩, .inl ⟨none, 0, rfl, ho⟩, by rw [ho]; simp, by rw [hp]; decide, by rw [ho]; decide, fun _ k hk => by simp [noS, Value.ownBlock] at hk, h1.1, h1.2, h2.1, h2.2⟩
theorem ndAt_own {w : World} {N : NodeV} {vp vo : Value} (hp : OwnH w vp N.ps) (ho : OwnO w vo N.ops) (hk : ∀ x ∈ N.ops, OpOk x) (h1 : -9223372036854775808 ≤ N.au ∧ N.au ≤ 9223372036854775807) (h2 : -9223372036854775808 ≤ N.ck ∧ N.ck ≤ 9223372036854775807) (h3 : N.ps.length ≤ 4398046511104) (h4 : N.ops.length ≤ 4398046511104) : NdAt w N vp vo :=
 ⟨hp.row, ho.ops, hk, h3, h4, fun _ => ho.lt, h1.1, h1.2, h2.1, h2.2⟩
theorem Tryz.in5 (w : World) (vs : Array Value) : (callFunc 5 vs).run Tryz.prog w = .ok (.enter 5 vs) w := by kernel_rfl
theorem Tryz.in6 (w : World) (vs : Array Value) : (callFunc 6 vs).run Tryz.prog w = .ok (.enter 6 vs) w := by kernel_rfl
set_option maxRecDepth 8000 in
set_option maxHeartbeats 2000000 in
theorem awake_any (w : World) : Calls Tryz.prog 5 #[] w fun e w' => e = .returned (.bool true) ∧ Below w.heap.size w w' := by
 go_enter Tryz.func5, Tryz.ntmps5
 refine wp_seq_k fun K1 hK1 => rgn ?_
 refine VlS (.bool false) ?_
 refine WL.nil (hK1 _ _ ?_)
 refine wp_seq_k fun K2 hK2 => rgn ?_
 refine WL.bld (by kernel_rfl) 28 _ rfl [(0, .int .i64 1), (1, .int .i64 1)] (by simp [Act.eval]) _ nA_built ?_
 simp only [Act.put, pqA, pqB, pqC]
 refine WL.callF (by kernel_rfl) 16 _ _ rfl Tryz.in16 #[.agg (ndA 1 1 noS noS)] (by simp [Act.eval]) ?_
 refine (encode_any nA noS noS w (ndAt_empty w nA rfl rfl (by decide) (by decide))).mono ?_
 rintro e w1 ⟨hb1, h1⟩
 obtain ⟨ga, hga, rfl, hbl⟩ : ∃ g, w.heap.size ≤ g ∧ e = .returned (.tuple #[.slice (some ⟨g, 0, none⟩) (blkL nA).length (blkL nA).length, .int .i64 0]) ∧ Blk w1 g 5 (bv (blkL nA)).toArray := by
  rcases h1 with ⟨h, _⟩ | ⟨_, h, _⟩ | ⟨_, _, h⟩
  ·exact absurd nA_chk h
  ·rw [nA_blk] at h; exact absurd h (by decide)
  ·exact h
 refine ⟨_, rfl, ?_⟩
 clear h1
 rw [nA_blk] at hbl ⊢
 rw [show ([1, 1, 1, 0, 0] : List Int).length = 5 from rfl]
 have HA := Keep.mk hbl
 have B1 := Keep.mk hb1
 clear hbl hb1
 simp only [Act.put, pqA, pqB, pqC]
 refine VlS (.tuple #[.slice (some ⟨ga, 0, none⟩) 5 5, .int .i64 0]) ?_
 refine VlS (.slice (some ⟨ga, 0, none⟩) 5 5) ?_
 refine VlS (.int .i64 0) ?_
 refine VlS (.slice (some ⟨ga, 0, none⟩) 5 5) ?_
 refine VlS (.int .i64 0) ?_
 refine WL.nil (hK2 _ _ ?_)
 refine wp_seq_k fun K3 hK3 => rgn ?_
 refine WL.bs (by kernel_rfl) 24 5 _ rfl _ (by simp [Act.eval]) _ _ (bsB5 w1) ?_
 have HR2 := Keep.mk (row_of (Blk.new w1 5 (bv [1, 2, 1, 0, 0]).toArray) (n := 5) rfl)
 have B2 : Keep (Below w.heap.size w (w1.alloc (.cells (bv [1, 2, 1, 0, 0]).toArray 5))) := ⟨B1.out.trans ((below_new w1 _).mono B1.out.size)⟩
 have Bz2 : Keep (Below w1.heap.size w1 (w1.alloc (.cells (bv [1, 2, 1, 0, 0]).toArray 5))) := ⟨below_new w1 _⟩
 generalize w1.alloc (.cells (bv [1, 2, 1, 0, 0]).toArray 5) = w2 at *
 have HA2 := Keep.mk (HA.out.below Bz2.out HA.out.lt)
 simp only [Act.put, pqA, pqB, pqC]
 refine WL.callF (by kernel_rfl) 6 _ _ rfl Tryz.in6 #[.slice (some ⟨w1.heap.size, 0, none⟩) 5 5] (by simp [Act.eval]) ?_
 refine (decode_any _ [1, 2, 1, 0, 0] w2 HR2.out byB).mono ?_
 rintro e w3 h1
 obtain ⟨vp, vo, rfl, h2, h3, h4, hb3⟩ : ∃ vp vo, e = .returned (.tuple #[.agg (ndA 2 1 vp vo), .nilIface]) ∧ OwnH w3 vp [] ∧ OwnO w3 vo [] ∧ (∀ k, vp.ownBlock = some k → w2.heap.size ≤ k) ∧ Below w2.heap.size w2 w3 := by
  unfold DecPost at h1
  rw [dB] at h1
  rcases h1 with ⟨_, _, vp, vo, h1, h2, h3, h4, _, _, _, h5⟩ | ⟨h1, _⟩
  ·exact ⟨vp, vo, h1, h2, h3, h4, h5⟩
  ·exfalso; revert h1; decide
 refine ⟨_, rfl, ?_⟩
 clear h1 h4
 obtain ⟨pa, pc, rfl⟩ := h2.sl
 obtain ⟨qa, qc, rfl⟩ := h3.sl
 have HP := Keep.mk h2
 have HQ := Keep.mk h3
 have Bz3 := Keep.mk hb3
 have B3 : Keep (Below w.heap.size w w3) := ⟨B2.out.trans (hb3.mono B2.out.size)⟩
 have HA3 := Keep.mk (HA2.out.below hb3 HA2.out.lt)
 clear h2 h3 hb3
 simp only [Act.put, pqA, pqB, pqC]
 refine VlS (.tuple #[.agg (ndA 2 1 (.slice pa ([] : List Hs).length pc) (.slice qa ([] : List OpV).length qc)), .nilIface]) ?_
 refine VlS (.agg (ndA 2 1 (.slice pa ([] : List Hs).length pc) (.slice qa ([] : List OpV).length qc))) ?_
 refine VlS (.nilIface) ?_
 refine WL.new (by kernel_rfl) 28 rfl _ Tryz.new28N ?_
 simp only [Act.put, pqA, pqB, pqC]
 refine WL.storeR (by kernel_rfl) 28 (.tmp 3) (.tmp 17) rfl w3.heap.size (ndA 2 1 (.slice pa ([] : List Hs).length pc) (.slice qa ([] : List OpV).length qc)) rfl rfl 28 (ndA 0 0 noS noS) (Blk.new w3 28 _) (Tryz.size28B _ _ _ _) rfl (nd_one _ _ _ _ _ _ _ _) ?_
 have HN4 := Keep.mk ((Blk.new w3 28 (ndA 0 0 noS noS)).setRow (ndA 2 1 (.slice pa ([] : List Hs).length pc) (.slice qa ([] : List OpV).length qc)))
 have Bz4 : Keep (Below w3.heap.size w3 ((w3.alloc (.cells (ndA 0 0 noS noS) 28)).setRow w3.heap.size (ndA 2 1 (.slice pa ([] : List Hs).length pc) (.slice qa ([] : List OpV).length qc)))) := ⟨below_setRow (below_new w3 _) (Nat.le_refl _) _⟩
 generalize (w3.alloc (.cells (ndA 0 0 noS noS) 28)).setRow w3.heap.size (ndA 2 1 (.slice pa ([] : List Hs).length pc) (.slice qa ([] : List OpV).length qc)) = w4 at *
 have B4 : Keep (Below w.heap.size w w4) := ⟨B3.out.trans (Bz4.out.mono B3.out.size)⟩
 have HA4 := Keep.mk (HA3.out.below Bz4.out HA3.out.lt)
 have HP4 := Keep.mk (HP.out.below Bz4.out)
 have HQ4 := Keep.mk (HQ.out.below Bz4.out)
 simp only [Act.put]
 refine VlS (.nilIface) ?_
 refine WL.nil (hK3 _ _ ?_)
 refine wp_seq_k fun K4 hK4 => rgn ?_
 refine WL.bs (by kernel_rfl) 24 2 _ rfl _ (by simp [Act.eval]) _ _ (bsB2 w4) ?_
 have HR5 := Keep.mk (row_of (Blk.new w4 5 (bv [1, 9]).toArray) (n := 2) rfl)
 have B5 : Keep (Below w.heap.size w (w4.alloc (.cells (bv [1, 9]).toArray 5))) := ⟨B4.out.trans ((below_new w4 _).mono B4.out.size)⟩
 have Bz5 : Keep (Below w4.heap.size w4 (w4.alloc (.cells (bv [1, 9]).toArray 5))) := ⟨below_new w4 _⟩
 generalize w4.alloc (.cells (bv [1, 9]).toArray 5) = w5 at *
 have HA5 := Keep.mk (HA4.out.below Bz5.out HA4.out.lt)
 have HP5 := Keep.mk (HP4.out.below Bz5.out)
 have HQ5 := Keep.mk (HQ4.out.below Bz5.out)
 have HN5 := Keep.mk (HN4.out.below Bz5.out HN4.out.lt)
 simp only [Act.put, pqA, pqB, pqC]
 refine WL.callF (by kernel_rfl) 6 _ _ rfl Tryz.in6 #[.slice (some ⟨w4.heap.size, 0, none⟩) 2 2] (by simp [Act.eval]) ?_
 refine (decode_any _ [1, 9] w5 HR5.out byC).mono ?_
 rintro e w6 h1
 obtain ⟨q, hq, rfl, hbad, hb6⟩ : ∃ q, w5.heap.size ≤ q ∧ e = .returned (.tuple #[.agg (ndA 0 0 noS noS), err q]) ∧ BadAt w6 q 50 1 ∧ Below w5.heap.size w5 w6 := by
  unfold DecPost at h1
  rw [dC] at h1
  rcases h1 with ⟨_, h1, _⟩ | ⟨_, h1⟩
  ·exact absurd h1 (by decide)
  ·exact h1
 refine ⟨_, rfl, ?_⟩
 clear h1
 unfold err
 have HBd := Keep.mk hbad
 have Bz6 := Keep.mk hb6
 have B6 : Keep (Below w.heap.size w w6) := ⟨B5.out.trans (hb6.mono B5.out.size)⟩
 have HA6 := Keep.mk (HA5.out.below hb6 HA5.out.lt)
 have HP6 := Keep.mk (HP5.out.below hb6)
 have HQ6 := Keep.mk (HQ5.out.below hb6)
 have HN6 := Keep.mk (HN5.out.below hb6 HN5.out.lt)
 clear hbad hb6
 simp only [Act.put, pqA, pqB, pqC]
 refine VlS (.tuple #[.agg (ndA 0 0 noS noS), .iface 69 (ptr q)]) ?_
 refine VlS (.agg (ndA 0 0 noS noS)) ?_
 refine VlS (.iface 69 (ptr q)) ?_
 refine WL.new (by kernel_rfl) 28 rfl _ Tryz.new28N ?_
 simp only [Act.put, pqA, pqB, pqC]
 refine WL.storeR (by kernel_rfl) 28 (.tmp 5) (.tmp 22) rfl w6.heap.size (ndA 0 0 noS noS) rfl rfl 28 (ndA 0 0 noS noS) (Blk.new w6 28 _) (Tryz.size28B _ _ _ _) rfl (nd_one 0 0 none 0 0 none 0 0) ?_
 have HZ7 := Keep.mk ((Blk.new w6 28 (ndA 0 0 noS noS)).setRow (ndA 0 0 noS noS))
 have Bz7 : Keep (Below w6.heap.size w6 ((w6.alloc (.cells (ndA 0 0 noS noS) 28)).setRow w6.heap.size (ndA 0 0 noS noS))) := ⟨below_setRow (below_new w6 _) (Nat.le_refl _) _⟩
 generalize (w6.alloc (.cells (ndA 0 0 noS noS) 28)).setRow w6.heap.size (ndA 0 0 noS noS) = w7 at *
 have B7 : Keep (Below w.heap.size w w7) := ⟨B6.out.trans (Bz7.out.mono B6.out.size)⟩
 have HA7 := Keep.mk (HA6.out.below Bz7.out HA6.out.lt)
 have HP7 := Keep.mk (HP6.out.below Bz7.out)
 have HQ7 := Keep.mk (HQ6.out.below Bz7.out)
 have HN7 := Keep.mk (HN6.out.below Bz7.out HN6.out.lt)
 have HB7 : Keep (BadAt w7 q 50 1) := ⟨HBd.out.below Bz7.out HBd.out.lt⟩
 simp only [Act.put]
 refine VlS (.iface 69 (ptr q)) ?_
 refine WL.nil (hK4 _ _ ?_)
 refine wp_seq_k fun K5 hK5 => rgn ?_
 refine VlS (.iface 69 (ptr q)) ?_
 refine WL.callF (by kernel_rfl) 8 _ _ rfl Tryz.in8 #[.iface 69 (ptr q)] (by simp [Act.eval]) ?_
 refine (told_err q 50 1 w7 HB7.out (by decide)).mono ?_
 rintro e w8 ⟨rfl, hb8⟩
 refine ⟨_, rfl, ?_⟩
 have Bz8 := Keep.mk hb8
 have B8 : Keep (Below w.heap.size w w8) := ⟨B7.out.trans (hb8.mono B7.out.size)⟩
 have HA8 := Keep.mk (HA7.out.below hb8 HA7.out.lt)
 have HP8 := Keep.mk (HP7.out.below hb8)
 have HQ8 := Keep.mk (HQ7.out.below hb8)
 have HN8 := Keep.mk (HN7.out.below hb8 HN7.out.lt)
 clear hb8
 simp only [Act.put, pqA, pqB, pqC]
 refine VlS (.tuple #[.agg (erA 50 ((1 : Nat) : Int)), .bool true]) ?_
 refine VlS (.agg (erA 50 ((1 : Nat) : Int))) ?_
 refine VlS (.bool true) ?_
 refine WL.new (by kernel_rfl) 34 rfl _ Tryz.new34E ?_
 simp only [Act.put, pqA, pqB, pqC]
 refine WL.storeR (by kernel_rfl) 34 (.tmp 7) (.tmp 27) rfl w8.heap.size (erA 50 ((1 : Nat) : Int)) rfl rfl 34 (erA 0 0) (Blk.new w8 34 _) (Tryz.size34B _ _) (erA_sizes _ _ _ _) (erA_one _ _) ?_
 have HZ9 := Keep.mk ((Blk.new w8 34 (erA 0 0)).setRow (erA 50 ((1 : Nat) : Int)))
 have Bz9 : Keep (Below w8.heap.size w8 ((w8.alloc (.cells (erA 0 0) 34)).setRow w8.heap.size (erA 50 ((1 : Nat) : Int)))) := ⟨below_setRow (below_new w8 _) (Nat.le_refl _) _⟩
 generalize (w8.alloc (.cells (erA 0 0) 34)).setRow w8.heap.size (erA 50 ((1 : Nat) : Int)) = w9 at *
 have B9 : Keep (Below w.heap.size w w9) := ⟨B8.out.trans (Bz9.out.mono B8.out.size)⟩
 have HA9 := Keep.mk (HA8.out.below Bz9.out HA8.out.lt)
 have HP9 := Keep.mk (HP8.out.below Bz9.out)
 have HQ9 := Keep.mk (HQ8.out.below Bz9.out)
 have HN9 := Keep.mk (HN8.out.below Bz9.out HN8.out.lt)
 have hcv : (convert 24 9 (.slice (some ⟨ga, 0, none⟩) 5 5)).run Tryz.prog w9 = .ok (.string { data := #[1, 1, 1, 0, 0] }) w9 := by
  have h := conv_row _ _ w9 (row_of HA9.out rfl)
  rw [nA_str] at h
  exact h
 have d0 := HN9.out.c 0 (nd_0 _ _ _ _)
 have d1 := HN9.out.c 1 (nd_1 _ _ _ _)
 have z0 : w9.cell? ⟨w8.heap.size, 0, none⟩ = some (.int .i64 50) := HZ9.out.c 0 rfl
 have z1 : w9.cell? ⟨w8.heap.size, 1, none⟩ = some (.int .i64 ((1 : Nat) : Int)) := HZ9.out.c 1 rfl
 simp only [Act.put]
 refine VlS (.bool true) ?_
 refine WL.nil (hK5 _ _ ?_)
 refine wp_seq_k fun K6 hK6 => rgn ?_
 refine VlS (.int .i64 0) ?_
 refine VlS (.bool true) ?_
 refine VlS (.bool true) ?_
 refine VlS (.slice (some ⟨ga, 0, none⟩) 5 5) ?_
 refine VlS (.string { data := #[1, 1, 1, 0, 0] }) ?_
 refine VlS (.bool true) ?_
 refine VlS (.bool true) ?_
 refine VlS (.bool true) ?_
 refine VlS (.nilIface) ?_
 refine VlS (.bool true) ?_
 refine VlS (.bool true) ?_
 refine VlS (.bool true) ?_
 refine VlS (.pointer (some ⟨w3.heap.size, 0, none⟩)) ?_
 refine VlS (.int .i64 2) ?_
 refine VlS (.bool true) ?_
 refine VlS (.bool true) ?_
 refine VlS (.bool true) ?_
 refine VlS (.pointer (some ⟨w3.heap.size, 1, none⟩)) ?_
 refine VlS (.int .i64 1) ?_
 refine VlS (.bool true) ?_
 refine VlS (.bool true) ?_
 refine VlS (.bool true) ?_
 refine VlS (.bool true) ?_
 refine VlS (.bool true) ?_
 refine VlS (.bool true) ?_
 refine VlS (.pointer (some ⟨w8.heap.size, 0, none⟩)) ?_
 refine VlS (.int .i64 50) ?_
 refine VlS (.bool true) ?_
 refine VlS (.bool true) ?_
 refine VlS (.bool true) ?_
 refine VlS (.pointer (some ⟨w8.heap.size, 1, none⟩)) ?_
 refine VlS (.int .i64 ((1 : Nat) : Int)) ?_
 refine VlS (.bool true) ?_
 refine VlS (.bool true) ?_
 refine VlS (.bool true) ?_
 refine WL.row (by kernel_rfl) 28 (.tmp 3) rfl w3.heap.size rfl 28 (ndA 2 1 (.slice pa ([] : List Hs).length pc) (.slice qa ([] : List OpV).length qc)) _ HN9.out Tryz.underlying28 rfl (Tryz.size28B _ _ _ _) ?_
 simp only [Act.put, pqA, pqB, pqC]
 refine WL.callF (by kernel_rfl) 24 _ _ rfl Tryz.in24 #[.agg (ndA 2 1 (.slice pa ([] : List Hs).length pc) (.slice qa ([] : List OpV).length qc))] (by simp [Act.eval]) ?_
 refine (check_node nB _ _ w9 (ndAt_own (N := nB) HP9.out HQ9.out (by simp [nB]) (by decide) (by decide) (by decide) (by decide))).mono ?_
 rintro e w10 ⟨rfl, hb10⟩
 refine ⟨_, rfl, ?_⟩
 rw [nB_chk]
 have B10 : Keep (Below w.heap.size w w10) := ⟨B9.out.trans (hb10.mono B9.out.size)⟩
 clear hb10
 simp only [Act.put, pqA, pqB, pqC]
 refine VlS (.bool true) ?_
 refine VlS (.bool true) ?_
 refine VlS (.bool true) ?_
 refine WL.nil (hK6 _ _ ?_)
 refine wp_ret ?_
 go_ret
 exact ⟨rfl, B10.out⟩
end Go.Proofs.YtdeiicldfgkidaaGreat
