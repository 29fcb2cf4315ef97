import Derived.Test.YtlogkojhcccogaaD08
import Derived.Test.YtlogkojhcccogaaD07
import Derived.Test.YtlogkojhcccogaaD06
import Derived.Test.YtlogkojhcccogaaD05
import Derived.Deep.RegionHeld3
import Derived.LaidEql
import Derived.ProofKit
import Derived.OpenShut
import Derived.ShutString
import Derived.ChangeOld
import Derived.Below
import Derived.SizedLaws
import Derived.Deep.Slices
import Derived.Deep.Strs
namespace Go.Proofs.Ytlogkojhcccogaa
open Go.RowKit
set_option linter.unusedSimpArgs false
set_option linter.unusedVariables false

set_option maxRecDepth 8000 in
set_option maxHeartbeats 4000000 in
theorem rdec_big (v : Value) (L : List Int) (w : World) (hR : RowAt w v L) (hl : 2097152 < L.length) (hln : L.length ≤ 9000000000000000000) : Calls Try.prog 14 #[v] w fun e w' => e = .returned (.tuple #[.agg (msA zeroC), .agg (erA 4 (-1))]) ∧ Below w.heap.size w w' := by
  obtain ⟨va, vc, rfl⟩ := row_form hR
  have hbi : (2097152 : Int) < (L.length : Int) := by omega
  clear hR
  go_enter Try.func14, Try.ntmps14
  refine wp_seq_k fun K1 hK1 => ?_
  refine wp_region_list (WL.out ?_)
  refine WL.new (by kernel_rfl) 28 rfl _ Try.new28M ?_
  have b2 := Keep.mk (Blk.new w 28 (msA zeroC))
  have bl1 := Keep.mk (below_new w (.cells (msA zeroC) 28))
  generalize w.alloc (.cells (msA zeroC) 28) = w1 at *
  obtain ⟨g2, hg2⟩ : ∃ g, Keep (g = w.heap.size) := ⟨_, ⟨rfl⟩⟩
  rw [← hg2.out] at b2 ⊢
  simp only [Act.put, List.setIfInBounds_toArray, List.set_cons_zero, List.set_cons_succ]
  refine WL.new (by kernel_rfl) 41 rfl _ Try.new41E ?_
  have b3 := Keep.mk (Blk.new w1 41 (erA 0 0))
  have b2' := Keep.mk (b2.out.alloc (.cells (erA 0 0) 41))
  have bl2 : Keep (Below w.heap.size w (w1.alloc (.cells (erA 0 0) 41))) := ⟨bl1.out.trans ((below_new w1 _).mono bl1.out.size)⟩
  obtain ⟨g3, hg3⟩ : ∃ g, Keep (g = w1.heap.size) := ⟨_, ⟨rfl⟩⟩
  have hz3 : Keep (w.heap.size ≤ g3) := ⟨by rw [hg3.out]; exact bl1.out.size⟩
  rw [← hg3.out] at b3 ⊢
  generalize w1.alloc (.cells (erA 0 0) 41) = w2 at *
  clear b2
  simp only [Act.put, List.setIfInBounds_toArray, List.set_cons_zero, List.set_cons_succ]
  refine WL.nil ?_
  refine hK1 _ _ ?_
  refine wp_seq_k fun K2 hK2 => ?_
  refine wp_seq_k fun K3 hK3 => ?_
  refine wp_region_list (WL.out ?_)
  refine WL.val (by kernel_rfl) (.slice va L.length vc) (by go_simp) ?_
  simp only [Act.put, List.setIfInBounds_toArray, List.set_cons_zero, List.set_cons_succ]
  refine WL.val (by kernel_rfl) (.int .i64 (L.length : Int)) (by go_simp) ?_
  simp only [Act.put, List.setIfInBounds_toArray, List.set_cons_zero, List.set_cons_succ]
  refine WL.val (by kernel_rfl) (.bool true) (by go_simp) ?_
  simp only [Act.put, List.setIfInBounds_toArray, List.set_cons_zero, List.set_cons_succ]
  refine WL.nil ?_
  refine hK3 _ _ ?_
  refine wp_cond_true rfl ?_
  refine wp_seq_k fun K4 hK4 => ?_
  refine wp_region_list (WL.out ?_)
  refine WL.bld (by kernel_rfl) 28 _ rfl [] (by simp) (msA zeroC) ms_built0 ?_
  simp only [Act.put, List.setIfInBounds_toArray, List.set_cons_zero, List.set_cons_succ]
  refine WL.bld (by kernel_rfl) 41 _ rfl [(0, .int .i64 4), (1, .int .i64 (-1))] (by simp [Act.eval]) (erA 4 (-1)) (er_built2 4 (-1)) ?_
  simp only [Act.put, List.setIfInBounds_toArray, List.set_cons_zero, List.set_cons_succ]
  refine WL.storeR (by kernel_rfl) 28 (.tmp 2) (.tmp 18) rfl g2 (msA zeroC) rfl rfl 28 (msA zeroC) b2'.out (Try.size28B _) rfl SlC.zero.one ?_
  simp only [Act.put]
  refine WL.storeR (by kernel_rfl) 41 (.tmp 3) (.tmp 19) rfl g3 (erA 4 (-1)) rfl rfl 41 (erA 0 0) (b3.out.setRow_ne (blk_ne b3.out b2'.out (by decide)) _) (Try.size41B _ _) (erA_sizes _ _ _ _) (erA_one _ _) ?_
  simp only [Act.put]
  refine WL.nil ?_
  refine hK4 _ _ ?_
  refine wp_ret ?_
  try simp only [Exit.then]
  refine bodyPost_ret (v := .tuple #[.agg (msA zeroC), .agg (erA 4 (-1))]) (results_cell_cell_row Try.results14 _ _ g2 g3 28 41 _ _ (0, 0) (0, 0) _ _ rfl rfl ((b2'.out.setRow _).setRow_ne (blk_ne b2'.out b3.out (by decide)) _) ((b3.out.setRow_ne (blk_ne b3.out b2'.out (by decide)) _).setRow _) Try.underlying28 rfl (Try.size28B _) Try.underlying41 rfl (Try.size41B _ _)) rfl ?_
  exact ⟨rfl, below_setRow (below_setRow bl2.out (by rw [hg2.out]; exact Nat.le_refl _) _) hz3.out _⟩

set_option maxRecDepth 8000 in
set_option maxHeartbeats 8000000 in
theorem rdec_small (v : Value) (L : List Int) (w : World) (hR : RowAt w v L) (hB : Byts L) (hl : L.length ≤ 2097152) : Calls Try.prog 14 #[v] w fun e w' => Below w.heap.size w w' ∧
    (((decM L).1 = 0 ∧ ∃ c, e = .returned (.tuple #[.agg (msA c), .agg (erA 0 0)]) ∧ MsAt w' (decM L).2.2 c) ∨ ((decM L).1 ≠ 0 ∧ e = .returned (.tuple #[.agg (msA zeroC), .agg (erA (decM L).1 ((decM L).2.1 : Int))]))) := by
  obtain ⟨va, vc, rfl⟩ := row_form hR
  have hbi : ¬ (2097152 : Int) < (L.length : Int) := by omega
  have HR := Keep.mk hR
  have HBy := Keep.mk hB
  have HLn : Keep (L.length ≤ 140737488355328) := ⟨by omega⟩
  clear hR hB hl
  go_enter Try.func14, Try.ntmps14
  refine wp_seq_k fun K1 hK1 => ?_
  refine wp_region_list (WL.out ?_)
  refine WL.new (by kernel_rfl) 28 rfl _ Try.new28M ?_
  have b2 := Keep.mk (Blk.new w 28 (msA zeroC))
  have bl1 := Keep.mk (below_new w (.cells (msA zeroC) 28))
  generalize w.alloc (.cells (msA zeroC) 28) = w1 at *
  obtain ⟨g2, hg2⟩ : ∃ g, Keep (g = w.heap.size) := ⟨_, ⟨rfl⟩⟩
  rw [← hg2.out] at b2 ⊢
  simp only [Act.put, List.setIfInBounds_toArray, List.set_cons_zero, List.set_cons_succ]
  refine WL.new (by kernel_rfl) 41 rfl _ Try.new41E ?_
  have b3 := Keep.mk (Blk.new w1 41 (erA 0 0))
  have b2' := Keep.mk (b2.out.alloc (.cells (erA 0 0) 41))
  have bl2 : Keep (Below w.heap.size w (w1.alloc (.cells (erA 0 0) 41))) := ⟨bl1.out.trans ((below_new w1 _).mono bl1.out.size)⟩
  obtain ⟨g3, hg3⟩ : ∃ g, Keep (g = w1.heap.size) := ⟨_, ⟨rfl⟩⟩
  have hz3 : Keep (w.heap.size ≤ g3) := ⟨by rw [hg3.out]; exact bl1.out.size⟩
  rw [← hg3.out] at b3 ⊢
  generalize w1.alloc (.cells (erA 0 0) 41) = w2 at *
  clear b2
  simp only [Act.put, List.setIfInBounds_toArray, List.set_cons_zero, List.set_cons_succ]
  refine WL.nil ?_
  refine hK1 _ _ ?_
  refine wp_seq_k fun K2 hK2 => ?_
  refine wp_seq_k fun K3 hK3 => ?_
  refine wp_region_list (WL.out ?_)
  refine WL.val (by kernel_rfl) (.slice va L.length vc) (by go_simp) ?_
  simp only [Act.put, List.setIfInBounds_toArray, List.set_cons_zero, List.set_cons_succ]
  refine WL.val (by kernel_rfl) (.int .i64 (L.length : Int)) (by go_simp) ?_
  simp only [Act.put, List.setIfInBounds_toArray, List.set_cons_zero, List.set_cons_succ]
  refine WL.val (by kernel_rfl) (.bool false) (by go_simp) ?_
  simp only [Act.put, List.setIfInBounds_toArray, List.set_cons_zero, List.set_cons_succ]
  refine WL.nil ?_
  refine hK3 _ _ ?_
  refine wp_cond_false rfl ?_
  refine wp_skip ?_
  refine hK2 _ _ ?_
  refine wp_seq_k fun K4 hK4 => ?_
  refine wp_region_list (WL.out ?_)
  refine WL.val (by kernel_rfl) (.slice va L.length vc) (by go_simp) ?_
  simp only [Act.put, List.setIfInBounds_toArray, List.set_cons_zero, List.set_cons_succ]
  refine WL.bld (by kernel_rfl) 83 _ rfl [(0, .slice va L.length vc)] (by simp [Act.eval]) #[.slice va L.length vc, .int .i64 0, .int .i64 0, .int .i64 0] (in_built _ _ _) ?_
  simp only [Act.put, List.setIfInBounds_toArray, List.set_cons_zero, List.set_cons_succ]
  refine WL.box (by kernel_rfl) 83 (.tmp 21) rfl _ rfl ?_
  have bx := Blk.new w2 83 #[.slice va L.length vc, .int .i64 0, .int .i64 0, .int .i64 0]
  have b2c := Keep.mk (b2'.out.alloc (.cells #[.slice va L.length vc, .int .i64 0, .int .i64 0, .int .i64 0] 83))
  have b3c := Keep.mk (b3.out.alloc (.cells #[.slice va L.length vc, .int .i64 0, .int .i64 0, .int .i64 0] 83))
  have bl3 : Keep (Below w.heap.size w (w2.alloc (.cells #[.slice va L.length vc, .int .i64 0, .int .i64 0, .int .i64 0] 83))) := ⟨bl2.out.trans ((below_new w2 _).mono bl2.out.size)⟩
  have HX : Keep (RX w w2.heap.size (.slice va L.length vc) L 0 0 (w2.alloc (.cells #[.slice va L.length vc, .int .i64 0, .int .i64 0, .int .i64 0] 83))) := ⟨⟨bx, Nat.zero_le _, bl2.out.size, bl3.out, HR.out, HLn.out, HBy.out⟩⟩
  generalize w2.alloc (.cells #[.slice va L.length vc, .int .i64 0, .int .i64 0, .int .i64 0] 83) = w3 at *
  obtain ⟨x, hx⟩ : ∃ g, Keep (g = w2.heap.size) := ⟨_, ⟨rfl⟩⟩
  rw [← hx.out] at HX bx ⊢
  clear bx b2' b3 bl2
  simp only [Act.put, List.setIfInBounds_toArray, List.set_cons_zero, List.set_cons_succ]
  refine WL.val (by kernel_rfl) (.pointer (some ⟨x, 0, none⟩)) (by go_simp) ?_
  simp only [Act.put, List.setIfInBounds_toArray, List.set_cons_zero, List.set_cons_succ]
  refine WL.nil ?_
  refine hK4 _ _ ?_
  refine wp_seq_k fun K5 hK5 => ?_
  refine wp_region_list (WL.out ?_)
  refine WL.val (by kernel_rfl) (.pointer (some ⟨x, 0, none⟩)) (by go_simp) ?_
  simp only [Act.put, List.setIfInBounds_toArray, List.set_cons_zero, List.set_cons_succ]
  obtain ⟨k, hk⟩ : ∃ k : Int, Keep (k = if nextW (L.drop 0) 1 = 0 then (L.drop 0).getD 0 0 else 0) := ⟨_, ⟨rfl⟩⟩
  have HC0 := Keep.mk (xbyte_x HX.out k hk.out)
  rw [List.drop_zero] at HC0 hk
  obtain ⟨W0, hW0⟩ : ∃ W0, Keep (W0 = nextW L 1) := ⟨_, ⟨rfl⟩⟩
  obtain ⟨N0, hN0⟩ : ∃ N0, Keep (N0 = 0 + nextN L 1) := ⟨_, ⟨rfl⟩⟩
  obtain ⟨e0, he0⟩ : ∃ e0, Keep (e0 = bOf W0 N0) := ⟨_, ⟨rfl⟩⟩
  unfold RXP at HC0
  rw [← hW0.out, ← hN0.out, ← he0.out] at HC0
  rw [← hW0.out] at hk
  refine WL.callF (by kernel_rfl) 37 _ _ rfl Try.in37 #[ptr x] (by simp [Act.eval]) ?_
  refine (HC0.out).mono ?_
  rintro e w4 ⟨rfl, h1, h2⟩
  refine ⟨_, rfl, ?_⟩
  have HX4 := Keep.mk h1
  have b2d := Keep.mk (h2.blk b2c.out (blk_ne b2c.out HX.out.blk (by decide)))
  have b3d := Keep.mk (h2.blk b3c.out (blk_ne b3c.out HX.out.blk (by decide)))
  clear h1 h2 HC0
  simp only [Act.put, List.setIfInBounds_toArray, List.set_cons_zero, List.set_cons_succ]
  refine WL.val (by kernel_rfl) (.tuple #[.int .u8 k, .agg (erA W0 e0)]) (by go_simp) ?_
  simp only [Act.put, List.setIfInBounds_toArray, List.set_cons_zero, List.set_cons_succ]
  refine WL.val (by kernel_rfl) (.int .u8 k) (by go_simp) ?_
  simp only [Act.put, List.setIfInBounds_toArray, List.set_cons_zero, List.set_cons_succ]
  refine WL.val (by kernel_rfl) (.agg (erA W0 e0)) (by go_simp) ?_
  simp only [Act.put, List.setIfInBounds_toArray, List.set_cons_zero, List.set_cons_succ]
  refine WL.new (by kernel_rfl) 41 rfl _ Try.new41E ?_
  have b6 := Keep.mk (Blk.new w4 41 (erA 0 0))
  have BB := Keep.mk (below_new w4 (.cells (erA 0 0) 41))
  generalize w4.alloc (.cells (erA 0 0) 41) = w5 at *
  obtain ⟨g6, hg6⟩ : ∃ g, Keep (g = w4.heap.size) := ⟨_, ⟨rfl⟩⟩
  rw [← hg6.out] at b6 ⊢
  simp only [Act.put, List.setIfInBounds_toArray, List.set_cons_zero, List.set_cons_succ]
  refine WL.val (by kernel_rfl) (.int .u8 k) (by go_simp) ?_
  simp only [Act.put, List.setIfInBounds_toArray, List.set_cons_zero, List.set_cons_succ]
  refine WL.storeR (by kernel_rfl) 41 (.tmp 6) (.tmp 27) rfl g6 (erA W0 e0) rfl rfl 41 (erA 0 0) b6.out (Try.size41B _ _) (erA_sizes _ _ _ _) (erA_one _ _) ?_
  have BC := Keep.mk (below_setRow BB.out (b := g6) (by rw [hg6.out]; exact Nat.le_refl _) (erA W0 e0))
  have b6e := Keep.mk (b6.out.setRow (erA W0 e0))
  generalize w5.setRow g6 (erA W0 e0) = w6 at *
  have HX6 := Keep.mk (HX4.out.below BC.out)
  have b2e := Keep.mk (b2d.out.below BC.out b2d.out.lt)
  have b3e := Keep.mk (b3d.out.below BC.out b3d.out.lt)
  have n36 : Keep (g3 ≠ g6) := ⟨fun e => by have := b3d.out.lt; have := hg6.out; omega⟩
  have hz6 : Keep (w.heap.size ≤ g6) := ⟨by rw [hg6.out]; exact HX4.out.bel.size⟩
  have c60 : w6.cell? ⟨g6, 0, none⟩ = some (.int .i64 W0) := b6e.out.c 0 rfl
  have hkr : 0 ≤ k ∧ k < 256 := by
    rw [hk.out]
    split
    · exact HBy.out.getD 0
    · omega
  have hwk : IntKind.i64.wrap k = k := by rw [IntKind.wrap_i64]; omega
  clear HX HX4 b2c b2d b3c b3d b6 BB BC hg6
  simp only [Act.put]
  refine WL.nil ?_
  refine hK5 _ _ ?_
  refine wp_seq_k fun K6 hK6 => ?_
  refine wp_seq_k fun K7 hK7 => ?_
  refine wp_region_list (WL.out ?_)
  refine WL.val (by kernel_rfl) (.pointer (some ⟨g6, 0, none⟩)) (by go_simp) ?_
  simp only [Act.put, List.setIfInBounds_toArray, List.set_cons_zero, List.set_cons_succ]
  refine WL.val (by kernel_rfl) (.int .i64 W0) (by go_simp) ?_
  simp only [Act.put, List.setIfInBounds_toArray, List.set_cons_zero, List.set_cons_succ]
  by_cases h5_2 : W0 = 0
  · skip
    refine WL.val (by kernel_rfl) (.bool true) (by go_simp) ?_
    simp only [Act.put, List.setIfInBounds_toArray, List.set_cons_zero, List.set_cons_succ]
    refine WL.val (by kernel_rfl) (.bool true) (by go_simp) ?_
    simp only [Act.put, List.setIfInBounds_toArray, List.set_cons_zero, List.set_cons_succ]
    refine WL.val (by kernel_rfl) (.int .u8 k) (by go_simp) ?_
    simp only [Act.put, List.setIfInBounds_toArray, List.set_cons_zero, List.set_cons_succ]
    by_cases h5_5 : k < 1
    · skip
      refine WL.val (by kernel_rfl) (.bool true) (by go_simp) ?_
      simp only [Act.put, List.setIfInBounds_toArray, List.set_cons_zero, List.set_cons_succ]
      refine WL.val (by kernel_rfl) (.bool true) (by go_simp) ?_
      simp only [Act.put, List.setIfInBounds_toArray, List.set_cons_zero, List.set_cons_succ]
      refine WL.skip (by kernel_rfl) ?_
      simp only [Act.put, List.setIfInBounds_toArray, List.set_cons_zero, List.set_cons_succ]
      refine WL.skip (by kernel_rfl) ?_
      simp only [Act.put, List.setIfInBounds_toArray, List.set_cons_zero, List.set_cons_succ]
      refine WL.val (by kernel_rfl) (.bool true) (by go_simp) ?_
      simp only [Act.put, List.setIfInBounds_toArray, List.set_cons_zero, List.set_cons_succ]
      refine WL.val (by kernel_rfl) (.bool true) (by go_simp) ?_
      simp only [Act.put, List.setIfInBounds_toArray, List.set_cons_zero, List.set_cons_succ]
      refine WL.nil ?_
      refine hK7 _ _ ?_
      refine wp_cond_true rfl ?_
      refine wp_region_list (WL.out ?_)
      refine WL.val (by kernel_rfl) (.pointer (some ⟨x, 0, none⟩)) (by go_simp) ?_
      simp only [Act.put, List.setIfInBounds_toArray, List.set_cons_zero, List.set_cons_succ]
      refine WL.callF (by kernel_rfl) 38 _ _ rfl Try.in38 #[ptr x, .int .i64 40, .int .i64 0] (by simp [Act.eval]) ?_
      refine (xwrong_x 0 40 (by decide) (Nat.zero_le _) (by have h := HX6.out; rw [h5_2] at h; exact h)).mono ?_
      rintro e w7 ⟨rfl, h1, h2⟩
      refine ⟨_, rfl, ?_⟩
      have HX7 := Keep.mk h1
      have b2f := Keep.mk (h2.blk b2e.out (blk_ne b2e.out HX6.out.blk (by decide)))
      have b3f := Keep.mk (h2.blk b3e.out (blk_ne b3e.out HX6.out.blk (by decide)))
      have b6f := Keep.mk (h2.blk b6e.out (blk_ne b6e.out HX6.out.blk (by decide)))
      clear h1 h2 c60
      simp only [Act.put, List.setIfInBounds_toArray, List.set_cons_zero, List.set_cons_succ]
      refine WL.nil ?_
      refine hK6 _ _ ?_
      refine wp_seq_k fun K8 hK8 => ?_
      have hk1 : ¬ k = 1 := by omega
      have hk3 : ¬ k = 3 := by omega
      refine wp_region_list (WL.out ?_)
      refine WL.val (by kernel_rfl) (.int .u8 k) (by go_simp) ?_
      simp only [Act.put, List.setIfInBounds_toArray, List.set_cons_zero, List.set_cons_succ]
      refine WL.val (by kernel_rfl) (.int .i64 k) (by go_simp) ?_
      simp only [Act.put, List.setIfInBounds_toArray, List.set_cons_zero, List.set_cons_succ]
      refine WL.bld (by kernel_rfl) 28 _ rfl [(0, .int .i64 k)] (by simp [Act.eval]) (msA ⟨k, noS, 0, noS, noS, noS⟩) (ms_built1 k) ?_
      simp only [Act.put, List.setIfInBounds_toArray, List.set_cons_zero, List.set_cons_succ]
      refine WL.new (by kernel_rfl) 28 rfl _ Try.new28M ?_
      have b7 := Keep.mk (Blk.new w7 28 (msA zeroC))
      have BB := Keep.mk (below_new w7 (.cells (msA zeroC) 28))
      generalize w7.alloc (.cells (msA zeroC) 28) = w8 at *
      obtain ⟨g7, hg7⟩ : ∃ g, Keep (g = w7.heap.size) := ⟨_, ⟨rfl⟩⟩
      rw [← hg7.out] at b7 ⊢
      simp only [Act.put, List.setIfInBounds_toArray, List.set_cons_zero, List.set_cons_succ]
      refine WL.storeR (by kernel_rfl) 28 (.tmp 7) (.tmp 43) rfl g7 (msA ⟨k, noS, 0, noS, noS, noS⟩) rfl rfl 28 (msA zeroC) b7.out (Try.size28B _) (ms_sizes _ _) (SlC.one ⟨⟨_, _, _, rfl⟩, ⟨_, _, _, rfl⟩, ⟨_, _, _, rfl⟩, ⟨_, _, _, rfl⟩⟩) ?_
      have BC := Keep.mk (below_setRow BB.out (b := g7) (by rw [hg7.out]; exact Nat.le_refl _) (msA ⟨k, noS, 0, noS, noS, noS⟩))
      have b7e := Keep.mk (b7.out.setRow (msA ⟨k, noS, 0, noS, noS, noS⟩))
      generalize w8.setRow g7 (msA ⟨k, noS, 0, noS, noS, noS⟩) = w9 at *
      obtain ⟨B0, hB0⟩ : ∃ B, Keep (B = w9.heap.size) := ⟨_, ⟨rfl⟩⟩
      have D0 : Keep (DS w g2 g3 x g6 g7 B0 (.slice va L.length vc) L 40 0 W0 e0 (fun wx => MsAt wx { zeroM with k := k } ⟨k, noS, 0, noS, noS, noS⟩) ⟨k, noS, 0, noS, noS, noS⟩ w9) := ⟨⟨HX7.out.below BC.out, b7e.out, b2f.out.below BC.out b2f.out.lt, b3f.out.below BC.out b3f.out.lt, b6f.out.below BC.out b6f.out.lt, fun wx _ => ⟨rfl, rfl, hrow_nil wx, .inl ⟨rfl, rfl⟩, hrow_nil wx, RwsAt.nil wx⟩, fun e => by have := b2f.out.lt; have := hg7.out; omega, n36.out, ⟨by rw [hg2.out]; exact Nat.le_refl _, hz3.out, hz6.out, by rw [hg7.out]; exact HX7.out.bel.size⟩, by rw [hB0.out]; exact ⟨(b2f.out.below BC.out b2f.out.lt).lt, (b3f.out.below BC.out b3f.out.lt).lt, (b6f.out.below BC.out b6f.out.lt).lt, b7e.out.lt, (HX7.out.below BC.out).blk.lt, Nat.le_refl _⟩⟩⟩
      clear HX7 b2f b3f b6f b7 b7e BB BC n36 hz6 hz3 hg7 hg2 hB0
      have k0 := D0.out.m.c 0 (ms_0 _)
      skip
      simp only [Act.put]
      refine WL.nil ?_
      refine hK8 _ _ ?_
      refine wp_seq_k fun K9 hK9 => ?_
      refine wp_seq_k fun K10 hK10 => ?_
      refine wp_region_list (WL.out ?_)
      refine WL.val (by kernel_rfl) (.pointer (some ⟨g7, 0, none⟩)) (by go_simp) ?_
      simp only [Act.put, List.setIfInBounds_toArray, List.set_cons_zero, List.set_cons_succ]
      refine WL.val (by kernel_rfl) (.int .i64 k) (by go_simp) ?_
      simp only [Act.put, List.setIfInBounds_toArray, List.set_cons_zero, List.set_cons_succ]
      refine WL.val (by kernel_rfl) (.bool false) (by go_simp) ?_
      simp only [Act.put, List.setIfInBounds_toArray, List.set_cons_zero, List.set_cons_succ]
      refine WL.val (by kernel_rfl) (.bool false) (by go_simp) ?_
      simp only [Act.put, List.setIfInBounds_toArray, List.set_cons_zero, List.set_cons_succ]
      refine WL.skip (by kernel_rfl) ?_
      simp only [Act.put, List.setIfInBounds_toArray, List.set_cons_zero, List.set_cons_succ]
      refine WL.skip (by kernel_rfl) ?_
      simp only [Act.put, List.setIfInBounds_toArray, List.set_cons_zero, List.set_cons_succ]
      refine WL.skip (by kernel_rfl) ?_
      simp only [Act.put, List.setIfInBounds_toArray, List.set_cons_zero, List.set_cons_succ]
      refine WL.skip (by kernel_rfl) ?_
      simp only [Act.put, List.setIfInBounds_toArray, List.set_cons_zero, List.set_cons_succ]
      refine WL.skip (by kernel_rfl) ?_
      simp only [Act.put, List.setIfInBounds_toArray, List.set_cons_zero, List.set_cons_succ]
      refine WL.skip (by kernel_rfl) ?_
      simp only [Act.put, List.setIfInBounds_toArray, List.set_cons_zero, List.set_cons_succ]
      refine WL.val (by kernel_rfl) (.bool false) (by go_simp) ?_
      simp only [Act.put, List.setIfInBounds_toArray, List.set_cons_zero, List.set_cons_succ]
      refine WL.nil ?_
      refine hK10 _ _ ?_
      refine wp_cond_false rfl ?_
      refine wp_skip ?_
      refine hK9 _ _ ?_
      refine wp_seq_k fun K11 hK11 => ?_
      refine wp_seq_k fun K12 hK12 => ?_
      have r2 := D0.out.rx.c2
      by_cases hk2 : k ≤ 2
      · skip
        refine wp_region_list (WL.out ?_)
        refine WL.val (by kernel_rfl) (.pointer (some ⟨g7, 0, none⟩)) (by go_simp) ?_
        simp only [Act.put, List.setIfInBounds_toArray, List.set_cons_zero, List.set_cons_succ]
        refine WL.val (by kernel_rfl) (.int .i64 k) (by go_simp) ?_
        simp only [Act.put, List.setIfInBounds_toArray, List.set_cons_zero, List.set_cons_succ]
        refine WL.val (by kernel_rfl) (.bool true) (by go_simp) ?_
        simp only [Act.put, List.setIfInBounds_toArray, List.set_cons_zero, List.set_cons_succ]
        refine WL.val (by kernel_rfl) (.bool true) (by go_simp) ?_
        simp only [Act.put, List.setIfInBounds_toArray, List.set_cons_zero, List.set_cons_succ]
        refine WL.val (by kernel_rfl) (.pointer (some ⟨x, 0, none⟩)) (by go_simp) ?_
        simp only [Act.put, List.setIfInBounds_toArray, List.set_cons_zero, List.set_cons_succ]
        refine WL.val (by kernel_rfl) (.pointer (some ⟨x, 0, none⟩)) (by go_simp) ?_
        simp only [Act.put, List.setIfInBounds_toArray, List.set_cons_zero, List.set_cons_succ]
        refine WL.val (by kernel_rfl) (.pointer (some ⟨x, 2, none⟩)) (by go_simp) ?_
        simp only [Act.put, List.setIfInBounds_toArray, List.set_cons_zero, List.set_cons_succ]
        refine WL.val (by kernel_rfl) (.pointer (some ⟨x, 2, none⟩)) (by go_simp) ?_
        simp only [Act.put, List.setIfInBounds_toArray, List.set_cons_zero, List.set_cons_succ]
        refine WL.val (by kernel_rfl) (.int .i64 40) (by go_simp) ?_
        simp only [Act.put, List.setIfInBounds_toArray, List.set_cons_zero, List.set_cons_succ]
        refine WL.val (by kernel_rfl) (.bool false) (by go_simp) ?_
        simp only [Act.put, List.setIfInBounds_toArray, List.set_cons_zero, List.set_cons_succ]
        refine WL.val (by kernel_rfl) (.bool false) (by go_simp) ?_
        simp only [Act.put, List.setIfInBounds_toArray, List.set_cons_zero, List.set_cons_succ]
        refine WL.nil ?_
        refine hK12 _ _ ?_
        refine wp_cond_false rfl ?_
        refine wp_skip ?_
        refine hK11 _ _ ?_
        refine wp_seq_k fun K13 hK13 => ?_
        refine wp_seq_k fun K14 hK14 => ?_
        refine wp_region_list (WL.out ?_)
        refine WL.val (by kernel_rfl) (.pointer (some ⟨g7, 0, none⟩)) (by go_simp) ?_
        simp only [Act.put, List.setIfInBounds_toArray, List.set_cons_zero, List.set_cons_succ]
        refine WL.val (by kernel_rfl) (.int .i64 k) (by go_simp) ?_
        simp only [Act.put, List.setIfInBounds_toArray, List.set_cons_zero, List.set_cons_succ]
        refine WL.val (by kernel_rfl) (.bool false) (by go_simp) ?_
        simp only [Act.put, List.setIfInBounds_toArray, List.set_cons_zero, List.set_cons_succ]
        refine WL.val (by kernel_rfl) (.bool false) (by go_simp) ?_
        simp only [Act.put, List.setIfInBounds_toArray, List.set_cons_zero, List.set_cons_succ]
        refine WL.skip (by kernel_rfl) ?_
        simp only [Act.put, List.setIfInBounds_toArray, List.set_cons_zero, List.set_cons_succ]
        refine WL.skip (by kernel_rfl) ?_
        simp only [Act.put, List.setIfInBounds_toArray, List.set_cons_zero, List.set_cons_succ]
        refine WL.skip (by kernel_rfl) ?_
        simp only [Act.put, List.setIfInBounds_toArray, List.set_cons_zero, List.set_cons_succ]
        refine WL.skip (by kernel_rfl) ?_
        simp only [Act.put, List.setIfInBounds_toArray, List.set_cons_zero, List.set_cons_succ]
        refine WL.skip (by kernel_rfl) ?_
        simp only [Act.put, List.setIfInBounds_toArray, List.set_cons_zero, List.set_cons_succ]
        refine WL.skip (by kernel_rfl) ?_
        simp only [Act.put, List.setIfInBounds_toArray, List.set_cons_zero, List.set_cons_succ]
        refine WL.val (by kernel_rfl) (.bool false) (by go_simp) ?_
        simp only [Act.put, List.setIfInBounds_toArray, List.set_cons_zero, List.set_cons_succ]
        refine WL.nil ?_
        refine hK14 _ _ ?_
        refine wp_cond_false rfl ?_
        refine wp_skip ?_
        refine hK13 _ _ ?_
        refine wp_seq_k fun K15 hK15 => ?_
        obtain ⟨E, hE⟩ : ∃ E, E = stEnd L 40 0 := ⟨_, rfl⟩
        have HC9 := Keep.mk (xend_y D0.out.rx)
        rw [← hE] at HC9
        obtain ⟨eb, heb⟩ : ∃ eb, eb = bOf E 0 := ⟨_, rfl⟩
        rw [← heb] at HC9
        have Heb := Keep.mk heb
        clear heb
        have hEn : ¬ E = 0 := by rw [hE, stEnd, if_neg (by decide)]; decide
        have Hdec : Keep ((decM L).1 = E ∧ (decM L).2.1 = 0) := ⟨by
          have h1 : ¬ nextW L 1 ≠ 0 := by rw [← hW0.out]; simp [h5_2]
          have h2 : L.getD 0 0 = k := by have h := hk.out; rw [if_pos h5_2] at h; exact h.symm
          have h3 : hasI k = [] := hasI_none k (by simp only [List.mem_cons, List.not_mem_nil, or_false]; omega)
          unfold decM
          rw [if_neg h1, h2, if_pos h3, hE]
          exact ⟨rfl, rfl⟩⟩
        clear hE
        have h26_2 := hEn
        refine wp_region_list (WL.out ?_)
        refine WL.val (by kernel_rfl) (.pointer (some ⟨x, 0, none⟩)) (by go_simp) ?_
        simp only [Act.put, List.setIfInBounds_toArray, List.set_cons_zero, List.set_cons_succ]
        refine WL.callF (by kernel_rfl) 44 _ _ rfl Try.in44 #[ptr x] (by simp [Act.eval]) ?_
        refine (HC9.out).mono ?_
        rintro e w30 ⟨rfl, h1, h2⟩
        refine ⟨_, rfl, ?_⟩
        have DE := Keep.mk (D0.out.rd h1 h2)
        clear h1 h2 HC9
        simp only [Act.put, List.setIfInBounds_toArray, List.set_cons_zero, List.set_cons_succ]
        refine WL.storeR (by kernel_rfl) 41 (.tmp 6) (.tmp 132) rfl g6 (erA E eb) rfl rfl 41 (erA W0 e0) DE.out.b6 (Try.size41B _ _) (erA_sizes _ _ _ _) (erA_one _ _) ?_
        have DF := Keep.mk (DE.out.setE E eb)
        generalize w30.setRow g6 (erA E eb) = w31 at *
        have e6 : w31.cell? ⟨g6, 0, none⟩ = some (.int .i64 E) := DF.out.b6.c 0 rfl
        simp only [Act.put]
        refine WL.nil ?_
        refine hK15 _ _ ?_
        refine wp_seq_k fun K16 hK16 => ?_
        refine wp_seq_k fun K17 hK17 => ?_
        refine wp_region_list (WL.out ?_)
        refine WL.val (by kernel_rfl) (.pointer (some ⟨g6, 0, none⟩)) (by go_simp) ?_
        simp only [Act.put, List.setIfInBounds_toArray, List.set_cons_zero, List.set_cons_succ]
        refine WL.val (by kernel_rfl) (.int .i64 E) (by go_simp) ?_
        simp only [Act.put, List.setIfInBounds_toArray, List.set_cons_zero, List.set_cons_succ]
        refine WL.val (by kernel_rfl) (.bool true) (by go_simp) ?_
        simp only [Act.put, List.setIfInBounds_toArray, List.set_cons_zero, List.set_cons_succ]
        refine WL.nil ?_
        refine hK17 _ _ ?_
        refine wp_cond_true rfl ?_
        refine wp_seq_k fun K18 hK18 => ?_
        refine wp_region_held_drew (S := fun wx => wx.rangeAt g6 0 (erA E eb).toList) (by kernel_rfl) (blk_range DF.out.b6.drew) (fun hHeld => ?_)
        refine wpAnyH_take (i := 0) (oi := ⟨some 136, Op.build 28 #[], 28, _, _, none⟩) (v := .agg (msA zeroC)) rfl (by kernel_rfl) (by kernel_rfl) (by kernel_rfl) (fun _ _ _ h => h) (Or.inl ⟨by rfl, fun w hS => by first | kernel_rfl | (have h := run_bldM w; go_simp)⟩) hHeld ?_
        simp only [Act.put, List.setIfInBounds_toArray, List.set_cons_zero, List.set_cons_succ]
        refine wpAnyH_take (i := 1) (oi := ⟨some 137, Op.load 41 (Operand.tmp 6), 41, _, _, none⟩) (v := .agg (erA E eb).toList.toArray) rfl (by kernel_rfl) (by kernel_rfl) (by kernel_rfl) (fun _ _ _ h => h) (yieldsIf_load_mid (by rfl) 41 (Operand.tmp 6) rfl g6 0 rfl (erA E eb).toList _ (fun w hS => hS) Try.underlying41 rfl (by rw [Array.length_toList]; exact Try.size41B _ _)) hHeld ?_
        simp only [Act.put, List.setIfInBounds_toArray, List.set_cons_zero, List.set_cons_succ]
        simp only [Array.toArray_toList]
        refine wpAnyH_ready (rs := [2]) (by kernel_rfl) (by simp) ?_
        refine AllReadyH.cons (o := ⟨none, Op.store 28 (Operand.tmp 2) (Operand.tmp 136), 0, _, _, none⟩) rfl (fun K hK => ?_) AllReadyH.nil
        rw [if_pos (by rfl)]
        refine wp_store_row 28 (.tmp 2) (.tmp 136) rfl g2 (msA zeroC) (by simp [Act.eval]) (by simp [Act.eval]) 28 (msA zeroC) DF.out.b2.drew (Try.size28B _) (ms_sizes _ _) (SlC.zero.one) ?_
        refine hK.out _ _ (blk_range (DF.out.b6.drew.setRow_ne (blk_ne DF.out.b6 DF.out.b2 (by decide)) _)) fun hHb => ?_
        clear hK
        simp only [Act.put, List.setIfInBounds_toArray, List.set_cons_zero, List.set_cons_succ]
        refine wpAnyH_ready (rs := [3]) (by kernel_rfl) (by simp) ?_
        refine AllReadyH.cons (o := ⟨none, Op.store 41 (Operand.tmp 3) (Operand.tmp 137), 0, _, _, none⟩) rfl (fun K hK => ?_) AllReadyH.nil
        rw [if_pos (by rfl)]
        refine wp_store_row 41 (.tmp 3) (.tmp 137) rfl g3 (erA E eb) (by simp [Act.eval]) (by simp [Act.eval]) 41 (erA 0 0) (DF.out.b3.drew.setRow_ne (blk_ne DF.out.b3 DF.out.b2 (by decide)) _) (Try.size41B _ _) (erA_sizes _ _ _ _) (erA_one _ _) ?_
        refine hK.out _ _ (blk_range ((DF.out.b6.drew.setRow_ne (blk_ne DF.out.b6 DF.out.b2 (by decide)) _).setRow_ne (fun e => DF.out.n36 e.symm) _)) fun hHc => ?_
        clear hK
        simp only [Act.put, List.setIfInBounds_toArray, List.set_cons_zero, List.set_cons_succ]
        refine wpAnyH_done (by kernel_rfl) ?_ _
        refine hK18 _ _ ?_
        refine wp_ret ?_
        try simp only [Exit.then]
        refine bodyPost_ret (v := .tuple #[.agg (msA zeroC), .agg (erA E eb)]) (results_cell_cell_row Try.results14 _ _ g2 g3 28 41 _ _ (0, 0) (0, 0) _ _ rfl rfl ((DF.out.b2.drew.setRow (msA zeroC)).setRow_ne (blk_ne DF.out.b2 DF.out.b3 (by decide)) _) ((DF.out.b3.drew.setRow_ne (blk_ne DF.out.b3 DF.out.b2 (by decide)) (msA zeroC)).setRow _) Try.underlying28 rfl (Try.size28B _) Try.underlying41 rfl (Try.size41B _ _)) rfl ?_
        refine ⟨below_setRow (below_setRow (DF.out.rx.bel.drew) DF.out.lo.1 _) DF.out.lo.2.1 _, .inr ⟨by rw [Hdec.out.1]; exact h26_2, ?_⟩⟩
        rw [Hdec.out.1, Hdec.out.2, Heb.out, bOf_1 h26_2]
      · skip
        refine wp_region_list (WL.out ?_)
        refine WL.val (by kernel_rfl) (.pointer (some ⟨g7, 0, none⟩)) (by go_simp) ?_
        simp only [Act.put, List.setIfInBounds_toArray, List.set_cons_zero, List.set_cons_succ]
        refine WL.val (by kernel_rfl) (.int .i64 k) (by go_simp) ?_
        simp only [Act.put, List.setIfInBounds_toArray, List.set_cons_zero, List.set_cons_succ]
        refine WL.val (by kernel_rfl) (.bool false) (by go_simp) ?_
        simp only [Act.put, List.setIfInBounds_toArray, List.set_cons_zero, List.set_cons_succ]
        refine WL.val (by kernel_rfl) (.bool false) (by go_simp) ?_
        simp only [Act.put, List.setIfInBounds_toArray, List.set_cons_zero, List.set_cons_succ]
        refine WL.skip (by kernel_rfl) ?_
        simp only [Act.put, List.setIfInBounds_toArray, List.set_cons_zero, List.set_cons_succ]
        refine WL.skip (by kernel_rfl) ?_
        simp only [Act.put, List.setIfInBounds_toArray, List.set_cons_zero, List.set_cons_succ]
        refine WL.skip (by kernel_rfl) ?_
        simp only [Act.put, List.setIfInBounds_toArray, List.set_cons_zero, List.set_cons_succ]
        refine WL.skip (by kernel_rfl) ?_
        simp only [Act.put, List.setIfInBounds_toArray, List.set_cons_zero, List.set_cons_succ]
        refine WL.skip (by kernel_rfl) ?_
        simp only [Act.put, List.setIfInBounds_toArray, List.set_cons_zero, List.set_cons_succ]
        refine WL.skip (by kernel_rfl) ?_
        simp only [Act.put, List.setIfInBounds_toArray, List.set_cons_zero, List.set_cons_succ]
        refine WL.val (by kernel_rfl) (.bool false) (by go_simp) ?_
        simp only [Act.put, List.setIfInBounds_toArray, List.set_cons_zero, List.set_cons_succ]
        refine WL.nil ?_
        refine hK12 _ _ ?_
        refine wp_cond_false rfl ?_
        refine wp_skip ?_
        refine hK11 _ _ ?_
        refine wp_seq_k fun K19 hK19 => ?_
        refine wp_seq_k fun K20 hK20 => ?_
        refine wp_region_list (WL.out ?_)
        refine WL.val (by kernel_rfl) (.pointer (some ⟨g7, 0, none⟩)) (by go_simp) ?_
        simp only [Act.put, List.setIfInBounds_toArray, List.set_cons_zero, List.set_cons_succ]
        refine WL.val (by kernel_rfl) (.int .i64 k) (by go_simp) ?_
        simp only [Act.put, List.setIfInBounds_toArray, List.set_cons_zero, List.set_cons_succ]
        refine WL.val (by kernel_rfl) (.bool false) (by go_simp) ?_
        simp only [Act.put, List.setIfInBounds_toArray, List.set_cons_zero, List.set_cons_succ]
        refine WL.val (by kernel_rfl) (.bool false) (by go_simp) ?_
        simp only [Act.put, List.setIfInBounds_toArray, List.set_cons_zero, List.set_cons_succ]
        refine WL.skip (by kernel_rfl) ?_
        simp only [Act.put, List.setIfInBounds_toArray, List.set_cons_zero, List.set_cons_succ]
        refine WL.skip (by kernel_rfl) ?_
        simp only [Act.put, List.setIfInBounds_toArray, List.set_cons_zero, List.set_cons_succ]
        refine WL.skip (by kernel_rfl) ?_
        simp only [Act.put, List.setIfInBounds_toArray, List.set_cons_zero, List.set_cons_succ]
        refine WL.skip (by kernel_rfl) ?_
        simp only [Act.put, List.setIfInBounds_toArray, List.set_cons_zero, List.set_cons_succ]
        refine WL.skip (by kernel_rfl) ?_
        simp only [Act.put, List.setIfInBounds_toArray, List.set_cons_zero, List.set_cons_succ]
        refine WL.skip (by kernel_rfl) ?_
        simp only [Act.put, List.setIfInBounds_toArray, List.set_cons_zero, List.set_cons_succ]
        refine WL.val (by kernel_rfl) (.bool false) (by go_simp) ?_
        simp only [Act.put, List.setIfInBounds_toArray, List.set_cons_zero, List.set_cons_succ]
        refine WL.nil ?_
        refine hK20 _ _ ?_
        refine wp_cond_false rfl ?_
        refine wp_skip ?_
        refine hK19 _ _ ?_
        refine wp_seq_k fun K21 hK21 => ?_
        obtain ⟨E, hE⟩ : ∃ E, E = stEnd L 40 0 := ⟨_, rfl⟩
        have HC9 := Keep.mk (xend_y D0.out.rx)
        rw [← hE] at HC9
        obtain ⟨eb, heb⟩ : ∃ eb, eb = bOf E 0 := ⟨_, rfl⟩
        rw [← heb] at HC9
        have Heb := Keep.mk heb
        clear heb
        have hEn : ¬ E = 0 := by rw [hE, stEnd, if_neg (by decide)]; decide
        have Hdec : Keep ((decM L).1 = E ∧ (decM L).2.1 = 0) := ⟨by
          have h1 : ¬ nextW L 1 ≠ 0 := by rw [← hW0.out]; simp [h5_2]
          have h2 : L.getD 0 0 = k := by have h := hk.out; rw [if_pos h5_2] at h; exact h.symm
          have h3 : hasI k = [] := hasI_none k (by simp only [List.mem_cons, List.not_mem_nil, or_false]; omega)
          unfold decM
          rw [if_neg h1, h2, if_pos h3, hE]
          exact ⟨rfl, rfl⟩⟩
        clear hE
        have h26_2 := hEn
        refine wp_region_list (WL.out ?_)
        refine WL.val (by kernel_rfl) (.pointer (some ⟨x, 0, none⟩)) (by go_simp) ?_
        simp only [Act.put, List.setIfInBounds_toArray, List.set_cons_zero, List.set_cons_succ]
        refine WL.callF (by kernel_rfl) 44 _ _ rfl Try.in44 #[ptr x] (by simp [Act.eval]) ?_
        refine (HC9.out).mono ?_
        rintro e w30 ⟨rfl, h1, h2⟩
        refine ⟨_, rfl, ?_⟩
        have DE := Keep.mk (D0.out.rd h1 h2)
        clear h1 h2 HC9
        simp only [Act.put, List.setIfInBounds_toArray, List.set_cons_zero, List.set_cons_succ]
        refine WL.storeR (by kernel_rfl) 41 (.tmp 6) (.tmp 132) rfl g6 (erA E eb) rfl rfl 41 (erA W0 e0) DE.out.b6 (Try.size41B _ _) (erA_sizes _ _ _ _) (erA_one _ _) ?_
        have DF := Keep.mk (DE.out.setE E eb)
        generalize w30.setRow g6 (erA E eb) = w31 at *
        have e6 : w31.cell? ⟨g6, 0, none⟩ = some (.int .i64 E) := DF.out.b6.c 0 rfl
        simp only [Act.put]
        refine WL.nil ?_
        refine hK21 _ _ ?_
        refine wp_seq_k fun K22 hK22 => ?_
        refine wp_seq_k fun K23 hK23 => ?_
        refine wp_region_list (WL.out ?_)
        refine WL.val (by kernel_rfl) (.pointer (some ⟨g6, 0, none⟩)) (by go_simp) ?_
        simp only [Act.put, List.setIfInBounds_toArray, List.set_cons_zero, List.set_cons_succ]
        refine WL.val (by kernel_rfl) (.int .i64 E) (by go_simp) ?_
        simp only [Act.put, List.setIfInBounds_toArray, List.set_cons_zero, List.set_cons_succ]
        refine WL.val (by kernel_rfl) (.bool true) (by go_simp) ?_
        simp only [Act.put, List.setIfInBounds_toArray, List.set_cons_zero, List.set_cons_succ]
        refine WL.nil ?_
        refine hK23 _ _ ?_
        refine wp_cond_true rfl ?_
        refine wp_seq_k fun K24 hK24 => ?_
        refine wp_region_held_drew (S := fun wx => wx.rangeAt g6 0 (erA E eb).toList) (by kernel_rfl) (blk_range DF.out.b6.drew) (fun hHeld => ?_)
        refine wpAnyH_take (i := 0) (oi := ⟨some 136, Op.build 28 #[], 28, _, _, none⟩) (v := .agg (msA zeroC)) rfl (by kernel_rfl) (by kernel_rfl) (by kernel_rfl) (fun _ _ _ h => h) (Or.inl ⟨by rfl, fun w hS => by first | kernel_rfl | (have h := run_bldM w; go_simp)⟩) hHeld ?_
        simp only [Act.put, List.setIfInBounds_toArray, List.set_cons_zero, List.set_cons_succ]
        refine wpAnyH_take (i := 1) (oi := ⟨some 137, Op.load 41 (Operand.tmp 6), 41, _, _, none⟩) (v := .agg (erA E eb).toList.toArray) rfl (by kernel_rfl) (by kernel_rfl) (by kernel_rfl) (fun _ _ _ h => h) (yieldsIf_load_mid (by rfl) 41 (Operand.tmp 6) rfl g6 0 rfl (erA E eb).toList _ (fun w hS => hS) Try.underlying41 rfl (by rw [Array.length_toList]; exact Try.size41B _ _)) hHeld ?_
        simp only [Act.put, List.setIfInBounds_toArray, List.set_cons_zero, List.set_cons_succ]
        simp only [Array.toArray_toList]
        refine wpAnyH_ready (rs := [2]) (by kernel_rfl) (by simp) ?_
        refine AllReadyH.cons (o := ⟨none, Op.store 28 (Operand.tmp 2) (Operand.tmp 136), 0, _, _, none⟩) rfl (fun K hK => ?_) AllReadyH.nil
        rw [if_pos (by rfl)]
        refine wp_store_row 28 (.tmp 2) (.tmp 136) rfl g2 (msA zeroC) (by simp [Act.eval]) (by simp [Act.eval]) 28 (msA zeroC) DF.out.b2.drew (Try.size28B _) (ms_sizes _ _) (SlC.zero.one) ?_
        refine hK.out _ _ (blk_range (DF.out.b6.drew.setRow_ne (blk_ne DF.out.b6 DF.out.b2 (by decide)) _)) fun hHb => ?_
        clear hK
        simp only [Act.put, List.setIfInBounds_toArray, List.set_cons_zero, List.set_cons_succ]
        refine wpAnyH_ready (rs := [3]) (by kernel_rfl) (by simp) ?_
        refine AllReadyH.cons (o := ⟨none, Op.store 41 (Operand.tmp 3) (Operand.tmp 137), 0, _, _, none⟩) rfl (fun K hK => ?_) AllReadyH.nil
        rw [if_pos (by rfl)]
        refine wp_store_row 41 (.tmp 3) (.tmp 137) rfl g3 (erA E eb) (by simp [Act.eval]) (by simp [Act.eval]) 41 (erA 0 0) (DF.out.b3.drew.setRow_ne (blk_ne DF.out.b3 DF.out.b2 (by decide)) _) (Try.size41B _ _) (erA_sizes _ _ _ _) (erA_one _ _) ?_
        refine hK.out _ _ (blk_range ((DF.out.b6.drew.setRow_ne (blk_ne DF.out.b6 DF.out.b2 (by decide)) _).setRow_ne (fun e => DF.out.n36 e.symm) _)) fun hHc => ?_
        clear hK
        simp only [Act.put, List.setIfInBounds_toArray, List.set_cons_zero, List.set_cons_succ]
        refine wpAnyH_done (by kernel_rfl) ?_ _
        refine hK24 _ _ ?_
        refine wp_ret ?_
        try simp only [Exit.then]
        refine bodyPost_ret (v := .tuple #[.agg (msA zeroC), .agg (erA E eb)]) (results_cell_cell_row Try.results14 _ _ g2 g3 28 41 _ _ (0, 0) (0, 0) _ _ rfl rfl ((DF.out.b2.drew.setRow (msA zeroC)).setRow_ne (blk_ne DF.out.b2 DF.out.b3 (by decide)) _) ((DF.out.b3.drew.setRow_ne (blk_ne DF.out.b3 DF.out.b2 (by decide)) (msA zeroC)).setRow _) Try.underlying28 rfl (Try.size28B _) Try.underlying41 rfl (Try.size41B _ _)) rfl ?_
        refine ⟨below_setRow (below_setRow (DF.out.rx.bel.drew) DF.out.lo.1 _) DF.out.lo.2.1 _, .inr ⟨by rw [Hdec.out.1]; exact h26_2, ?_⟩⟩
        rw [Hdec.out.1, Hdec.out.2, Heb.out, bOf_1 h26_2]
    · skip
      refine WL.val (by kernel_rfl) (.bool false) (by go_simp) ?_
      simp only [Act.put, List.setIfInBounds_toArray, List.set_cons_zero, List.set_cons_succ]
      refine WL.val (by kernel_rfl) (.bool false) (by go_simp) ?_
      simp only [Act.put, List.setIfInBounds_toArray, List.set_cons_zero, List.set_cons_succ]
      refine WL.val (by kernel_rfl) (.int .u8 k) (by go_simp) ?_
      simp only [Act.put, List.setIfInBounds_toArray, List.set_cons_zero, List.set_cons_succ]
      by_cases h5_8 : 3 < k
      · skip
        refine WL.val (by kernel_rfl) (.bool true) (by go_simp) ?_
        simp only [Act.put, List.setIfInBounds_toArray, List.set_cons_zero, List.set_cons_succ]
        refine WL.val (by kernel_rfl) (.bool true) (by go_simp) ?_
        simp only [Act.put, List.setIfInBounds_toArray, List.set_cons_zero, List.set_cons_succ]
        refine WL.val (by kernel_rfl) (.bool true) (by go_simp) ?_
        simp only [Act.put, List.setIfInBounds_toArray, List.set_cons_zero, List.set_cons_succ]
        refine WL.nil ?_
        refine hK7 _ _ ?_
        refine wp_cond_true rfl ?_
        refine wp_region_list (WL.out ?_)
        refine WL.val (by kernel_rfl) (.pointer (some ⟨x, 0, none⟩)) (by go_simp) ?_
        simp only [Act.put, List.setIfInBounds_toArray, List.set_cons_zero, List.set_cons_succ]
        refine WL.callF (by kernel_rfl) 38 _ _ rfl Try.in38 #[ptr x, .int .i64 40, .int .i64 0] (by simp [Act.eval]) ?_
        refine (xwrong_x 0 40 (by decide) (Nat.zero_le _) (by have h := HX6.out; rw [h5_2] at h; exact h)).mono ?_
        rintro e w7 ⟨rfl, h1, h2⟩
        refine ⟨_, rfl, ?_⟩
        have HX7 := Keep.mk h1
        have b2f := Keep.mk (h2.blk b2e.out (blk_ne b2e.out HX6.out.blk (by decide)))
        have b3f := Keep.mk (h2.blk b3e.out (blk_ne b3e.out HX6.out.blk (by decide)))
        have b6f := Keep.mk (h2.blk b6e.out (blk_ne b6e.out HX6.out.blk (by decide)))
        clear h1 h2 c60
        simp only [Act.put, List.setIfInBounds_toArray, List.set_cons_zero, List.set_cons_succ]
        refine WL.nil ?_
        refine hK6 _ _ ?_
        refine wp_seq_k fun K25 hK25 => ?_
        have hk1 : ¬ k = 1 := by omega
        have hk3 : ¬ k = 3 := by omega
        refine wp_region_list (WL.out ?_)
        refine WL.val (by kernel_rfl) (.int .u8 k) (by go_simp) ?_
        simp only [Act.put, List.setIfInBounds_toArray, List.set_cons_zero, List.set_cons_succ]
        refine WL.val (by kernel_rfl) (.int .i64 k) (by go_simp) ?_
        simp only [Act.put, List.setIfInBounds_toArray, List.set_cons_zero, List.set_cons_succ]
        refine WL.bld (by kernel_rfl) 28 _ rfl [(0, .int .i64 k)] (by simp [Act.eval]) (msA ⟨k, noS, 0, noS, noS, noS⟩) (ms_built1 k) ?_
        simp only [Act.put, List.setIfInBounds_toArray, List.set_cons_zero, List.set_cons_succ]
        refine WL.new (by kernel_rfl) 28 rfl _ Try.new28M ?_
        have b7 := Keep.mk (Blk.new w7 28 (msA zeroC))
        have BB := Keep.mk (below_new w7 (.cells (msA zeroC) 28))
        generalize w7.alloc (.cells (msA zeroC) 28) = w8 at *
        obtain ⟨g7, hg7⟩ : ∃ g, Keep (g = w7.heap.size) := ⟨_, ⟨rfl⟩⟩
        rw [← hg7.out] at b7 ⊢
        simp only [Act.put, List.setIfInBounds_toArray, List.set_cons_zero, List.set_cons_succ]
        refine WL.storeR (by kernel_rfl) 28 (.tmp 7) (.tmp 43) rfl g7 (msA ⟨k, noS, 0, noS, noS, noS⟩) rfl rfl 28 (msA zeroC) b7.out (Try.size28B _) (ms_sizes _ _) (SlC.one ⟨⟨_, _, _, rfl⟩, ⟨_, _, _, rfl⟩, ⟨_, _, _, rfl⟩, ⟨_, _, _, rfl⟩⟩) ?_
        have BC := Keep.mk (below_setRow BB.out (b := g7) (by rw [hg7.out]; exact Nat.le_refl _) (msA ⟨k, noS, 0, noS, noS, noS⟩))
        have b7e := Keep.mk (b7.out.setRow (msA ⟨k, noS, 0, noS, noS, noS⟩))
        generalize w8.setRow g7 (msA ⟨k, noS, 0, noS, noS, noS⟩) = w9 at *
        obtain ⟨B0, hB0⟩ : ∃ B, Keep (B = w9.heap.size) := ⟨_, ⟨rfl⟩⟩
        have D0 : Keep (DS w g2 g3 x g6 g7 B0 (.slice va L.length vc) L 40 0 W0 e0 (fun wx => MsAt wx { zeroM with k := k } ⟨k, noS, 0, noS, noS, noS⟩) ⟨k, noS, 0, noS, noS, noS⟩ w9) := ⟨⟨HX7.out.below BC.out, b7e.out, b2f.out.below BC.out b2f.out.lt, b3f.out.below BC.out b3f.out.lt, b6f.out.below BC.out b6f.out.lt, fun wx _ => ⟨rfl, rfl, hrow_nil wx, .inl ⟨rfl, rfl⟩, hrow_nil wx, RwsAt.nil wx⟩, fun e => by have := b2f.out.lt; have := hg7.out; omega, n36.out, ⟨by rw [hg2.out]; exact Nat.le_refl _, hz3.out, hz6.out, by rw [hg7.out]; exact HX7.out.bel.size⟩, by rw [hB0.out]; exact ⟨(b2f.out.below BC.out b2f.out.lt).lt, (b3f.out.below BC.out b3f.out.lt).lt, (b6f.out.below BC.out b6f.out.lt).lt, b7e.out.lt, (HX7.out.below BC.out).blk.lt, Nat.le_refl _⟩⟩⟩
        clear HX7 b2f b3f b6f b7 b7e BB BC n36 hz6 hz3 hg7 hg2 hB0
        have k0 := D0.out.m.c 0 (ms_0 _)
        skip
        simp only [Act.put]
        refine WL.nil ?_
        refine hK25 _ _ ?_
        refine wp_seq_k fun K26 hK26 => ?_
        refine wp_seq_k fun K27 hK27 => ?_
        refine wp_region_list (WL.out ?_)
        refine WL.val (by kernel_rfl) (.pointer (some ⟨g7, 0, none⟩)) (by go_simp) ?_
        simp only [Act.put, List.setIfInBounds_toArray, List.set_cons_zero, List.set_cons_succ]
        refine WL.val (by kernel_rfl) (.int .i64 k) (by go_simp) ?_
        simp only [Act.put, List.setIfInBounds_toArray, List.set_cons_zero, List.set_cons_succ]
        refine WL.val (by kernel_rfl) (.bool false) (by go_simp) ?_
        simp only [Act.put, List.setIfInBounds_toArray, List.set_cons_zero, List.set_cons_succ]
        refine WL.val (by kernel_rfl) (.bool false) (by go_simp) ?_
        simp only [Act.put, List.setIfInBounds_toArray, List.set_cons_zero, List.set_cons_succ]
        refine WL.skip (by kernel_rfl) ?_
        simp only [Act.put, List.setIfInBounds_toArray, List.set_cons_zero, List.set_cons_succ]
        refine WL.skip (by kernel_rfl) ?_
        simp only [Act.put, List.setIfInBounds_toArray, List.set_cons_zero, List.set_cons_succ]
        refine WL.skip (by kernel_rfl) ?_
        simp only [Act.put, List.setIfInBounds_toArray, List.set_cons_zero, List.set_cons_succ]
        refine WL.skip (by kernel_rfl) ?_
        simp only [Act.put, List.setIfInBounds_toArray, List.set_cons_zero, List.set_cons_succ]
        refine WL.skip (by kernel_rfl) ?_
        simp only [Act.put, List.setIfInBounds_toArray, List.set_cons_zero, List.set_cons_succ]
        refine WL.skip (by kernel_rfl) ?_
        simp only [Act.put, List.setIfInBounds_toArray, List.set_cons_zero, List.set_cons_succ]
        refine WL.val (by kernel_rfl) (.bool false) (by go_simp) ?_
        simp only [Act.put, List.setIfInBounds_toArray, List.set_cons_zero, List.set_cons_succ]
        refine WL.nil ?_
        refine hK27 _ _ ?_
        refine wp_cond_false rfl ?_
        refine wp_skip ?_
        refine hK26 _ _ ?_
        refine wp_seq_k fun K28 hK28 => ?_
        refine wp_seq_k fun K29 hK29 => ?_
        have r2 := D0.out.rx.c2
        by_cases hk2 : k ≤ 2
        · skip
          refine wp_region_list (WL.out ?_)
          refine WL.val (by kernel_rfl) (.pointer (some ⟨g7, 0, none⟩)) (by go_simp) ?_
          simp only [Act.put, List.setIfInBounds_toArray, List.set_cons_zero, List.set_cons_succ]
          refine WL.val (by kernel_rfl) (.int .i64 k) (by go_simp) ?_
          simp only [Act.put, List.setIfInBounds_toArray, List.set_cons_zero, List.set_cons_succ]
          refine WL.val (by kernel_rfl) (.bool true) (by go_simp) ?_
          simp only [Act.put, List.setIfInBounds_toArray, List.set_cons_zero, List.set_cons_succ]
          refine WL.val (by kernel_rfl) (.bool true) (by go_simp) ?_
          simp only [Act.put, List.setIfInBounds_toArray, List.set_cons_zero, List.set_cons_succ]
          refine WL.val (by kernel_rfl) (.pointer (some ⟨x, 0, none⟩)) (by go_simp) ?_
          simp only [Act.put, List.setIfInBounds_toArray, List.set_cons_zero, List.set_cons_succ]
          refine WL.val (by kernel_rfl) (.pointer (some ⟨x, 0, none⟩)) (by go_simp) ?_
          simp only [Act.put, List.setIfInBounds_toArray, List.set_cons_zero, List.set_cons_succ]
          refine WL.val (by kernel_rfl) (.pointer (some ⟨x, 2, none⟩)) (by go_simp) ?_
          simp only [Act.put, List.setIfInBounds_toArray, List.set_cons_zero, List.set_cons_succ]
          refine WL.val (by kernel_rfl) (.pointer (some ⟨x, 2, none⟩)) (by go_simp) ?_
          simp only [Act.put, List.setIfInBounds_toArray, List.set_cons_zero, List.set_cons_succ]
          refine WL.val (by kernel_rfl) (.int .i64 40) (by go_simp) ?_
          simp only [Act.put, List.setIfInBounds_toArray, List.set_cons_zero, List.set_cons_succ]
          refine WL.val (by kernel_rfl) (.bool false) (by go_simp) ?_
          simp only [Act.put, List.setIfInBounds_toArray, List.set_cons_zero, List.set_cons_succ]
          refine WL.val (by kernel_rfl) (.bool false) (by go_simp) ?_
          simp only [Act.put, List.setIfInBounds_toArray, List.set_cons_zero, List.set_cons_succ]
          refine WL.nil ?_
          refine hK29 _ _ ?_
          refine wp_cond_false rfl ?_
          refine wp_skip ?_
          refine hK28 _ _ ?_
          refine wp_seq_k fun K30 hK30 => ?_
          refine wp_seq_k fun K31 hK31 => ?_
          refine wp_region_list (WL.out ?_)
          refine WL.val (by kernel_rfl) (.pointer (some ⟨g7, 0, none⟩)) (by go_simp) ?_
          simp only [Act.put, List.setIfInBounds_toArray, List.set_cons_zero, List.set_cons_succ]
          refine WL.val (by kernel_rfl) (.int .i64 k) (by go_simp) ?_
          simp only [Act.put, List.setIfInBounds_toArray, List.set_cons_zero, List.set_cons_succ]
          refine WL.val (by kernel_rfl) (.bool false) (by go_simp) ?_
          simp only [Act.put, List.setIfInBounds_toArray, List.set_cons_zero, List.set_cons_succ]
          refine WL.val (by kernel_rfl) (.bool false) (by go_simp) ?_
          simp only [Act.put, List.setIfInBounds_toArray, List.set_cons_zero, List.set_cons_succ]
          refine WL.skip (by kernel_rfl) ?_
          simp only [Act.put, List.setIfInBounds_toArray, List.set_cons_zero, List.set_cons_succ]
          refine WL.skip (by kernel_rfl) ?_
          simp only [Act.put, List.setIfInBounds_toArray, List.set_cons_zero, List.set_cons_succ]
          refine WL.skip (by kernel_rfl) ?_
          simp only [Act.put, List.setIfInBounds_toArray, List.set_cons_zero, List.set_cons_succ]
          refine WL.skip (by kernel_rfl) ?_
          simp only [Act.put, List.setIfInBounds_toArray, List.set_cons_zero, List.set_cons_succ]
          refine WL.skip (by kernel_rfl) ?_
          simp only [Act.put, List.setIfInBounds_toArray, List.set_cons_zero, List.set_cons_succ]
          refine WL.skip (by kernel_rfl) ?_
          simp only [Act.put, List.setIfInBounds_toArray, List.set_cons_zero, List.set_cons_succ]
          refine WL.val (by kernel_rfl) (.bool false) (by go_simp) ?_
          simp only [Act.put, List.setIfInBounds_toArray, List.set_cons_zero, List.set_cons_succ]
          refine WL.nil ?_
          refine hK31 _ _ ?_
          refine wp_cond_false rfl ?_
          refine wp_skip ?_
          refine hK30 _ _ ?_
          refine wp_seq_k fun K32 hK32 => ?_
          obtain ⟨E, hE⟩ : ∃ E, E = stEnd L 40 0 := ⟨_, rfl⟩
          have HC9 := Keep.mk (xend_y D0.out.rx)
          rw [← hE] at HC9
          obtain ⟨eb, heb⟩ : ∃ eb, eb = bOf E 0 := ⟨_, rfl⟩
          rw [← heb] at HC9
          have Heb := Keep.mk heb
          clear heb
          have hEn : ¬ E = 0 := by rw [hE, stEnd, if_neg (by decide)]; decide
          have Hdec : Keep ((decM L).1 = E ∧ (decM L).2.1 = 0) := ⟨by
            have h1 : ¬ nextW L 1 ≠ 0 := by rw [← hW0.out]; simp [h5_2]
            have h2 : L.getD 0 0 = k := by have h := hk.out; rw [if_pos h5_2] at h; exact h.symm
            have h3 : hasI k = [] := hasI_none k (by simp only [List.mem_cons, List.not_mem_nil, or_false]; omega)
            unfold decM
            rw [if_neg h1, h2, if_pos h3, hE]
            exact ⟨rfl, rfl⟩⟩
          clear hE
          have h26_2 := hEn
          refine wp_region_list (WL.out ?_)
          refine WL.val (by kernel_rfl) (.pointer (some ⟨x, 0, none⟩)) (by go_simp) ?_
          simp only [Act.put, List.setIfInBounds_toArray, List.set_cons_zero, List.set_cons_succ]
          refine WL.callF (by kernel_rfl) 44 _ _ rfl Try.in44 #[ptr x] (by simp [Act.eval]) ?_
          refine (HC9.out).mono ?_
          rintro e w30 ⟨rfl, h1, h2⟩
          refine ⟨_, rfl, ?_⟩
          have DE := Keep.mk (D0.out.rd h1 h2)
          clear h1 h2 HC9
          simp only [Act.put, List.setIfInBounds_toArray, List.set_cons_zero, List.set_cons_succ]
          refine WL.storeR (by kernel_rfl) 41 (.tmp 6) (.tmp 132) rfl g6 (erA E eb) rfl rfl 41 (erA W0 e0) DE.out.b6 (Try.size41B _ _) (erA_sizes _ _ _ _) (erA_one _ _) ?_
          have DF := Keep.mk (DE.out.setE E eb)
          generalize w30.setRow g6 (erA E eb) = w31 at *
          have e6 : w31.cell? ⟨g6, 0, none⟩ = some (.int .i64 E) := DF.out.b6.c 0 rfl
          simp only [Act.put]
          refine WL.nil ?_
          refine hK32 _ _ ?_
          refine wp_seq_k fun K33 hK33 => ?_
          refine wp_seq_k fun K34 hK34 => ?_
          refine wp_region_list (WL.out ?_)
          refine WL.val (by kernel_rfl) (.pointer (some ⟨g6, 0, none⟩)) (by go_simp) ?_
          simp only [Act.put, List.setIfInBounds_toArray, List.set_cons_zero, List.set_cons_succ]
          refine WL.val (by kernel_rfl) (.int .i64 E) (by go_simp) ?_
          simp only [Act.put, List.setIfInBounds_toArray, List.set_cons_zero, List.set_cons_succ]
          refine WL.val (by kernel_rfl) (.bool true) (by go_simp) ?_
          simp only [Act.put, List.setIfInBounds_toArray, List.set_cons_zero, List.set_cons_succ]
          refine WL.nil ?_
          refine hK34 _ _ ?_
          refine wp_cond_true rfl ?_
          refine wp_seq_k fun K35 hK35 => ?_
          refine wp_region_held_drew (S := fun wx => wx.rangeAt g6 0 (erA E eb).toList) (by kernel_rfl) (blk_range DF.out.b6.drew) (fun hHeld => ?_)
          refine wpAnyH_take (i := 0) (oi := ⟨some 136, Op.build 28 #[], 28, _, _, none⟩) (v := .agg (msA zeroC)) rfl (by kernel_rfl) (by kernel_rfl) (by kernel_rfl) (fun _ _ _ h => h) (Or.inl ⟨by rfl, fun w hS => by first | kernel_rfl | (have h := run_bldM w; go_simp)⟩) hHeld ?_
          simp only [Act.put, List.setIfInBounds_toArray, List.set_cons_zero, List.set_cons_succ]
          refine wpAnyH_take (i := 1) (oi := ⟨some 137, Op.load 41 (Operand.tmp 6), 41, _, _, none⟩) (v := .agg (erA E eb).toList.toArray) rfl (by kernel_rfl) (by kernel_rfl) (by kernel_rfl) (fun _ _ _ h => h) (yieldsIf_load_mid (by rfl) 41 (Operand.tmp 6) rfl g6 0 rfl (erA E eb).toList _ (fun w hS => hS) Try.underlying41 rfl (by rw [Array.length_toList]; exact Try.size41B _ _)) hHeld ?_
          simp only [Act.put, List.setIfInBounds_toArray, List.set_cons_zero, List.set_cons_succ]
          simp only [Array.toArray_toList]
          refine wpAnyH_ready (rs := [2]) (by kernel_rfl) (by simp) ?_
          refine AllReadyH.cons (o := ⟨none, Op.store 28 (Operand.tmp 2) (Operand.tmp 136), 0, _, _, none⟩) rfl (fun K hK => ?_) AllReadyH.nil
          rw [if_pos (by rfl)]
          refine wp_store_row 28 (.tmp 2) (.tmp 136) rfl g2 (msA zeroC) (by simp [Act.eval]) (by simp [Act.eval]) 28 (msA zeroC) DF.out.b2.drew (Try.size28B _) (ms_sizes _ _) (SlC.zero.one) ?_
          refine hK.out _ _ (blk_range (DF.out.b6.drew.setRow_ne (blk_ne DF.out.b6 DF.out.b2 (by decide)) _)) fun hHb => ?_
          clear hK
          simp only [Act.put, List.setIfInBounds_toArray, List.set_cons_zero, List.set_cons_succ]
          refine wpAnyH_ready (rs := [3]) (by kernel_rfl) (by simp) ?_
          refine AllReadyH.cons (o := ⟨none, Op.store 41 (Operand.tmp 3) (Operand.tmp 137), 0, _, _, none⟩) rfl (fun K hK => ?_) AllReadyH.nil
          rw [if_pos (by rfl)]
          refine wp_store_row 41 (.tmp 3) (.tmp 137) rfl g3 (erA E eb) (by simp [Act.eval]) (by simp [Act.eval]) 41 (erA 0 0) (DF.out.b3.drew.setRow_ne (blk_ne DF.out.b3 DF.out.b2 (by decide)) _) (Try.size41B _ _) (erA_sizes _ _ _ _) (erA_one _ _) ?_
          refine hK.out _ _ (blk_range ((DF.out.b6.drew.setRow_ne (blk_ne DF.out.b6 DF.out.b2 (by decide)) _).setRow_ne (fun e => DF.out.n36 e.symm) _)) fun hHc => ?_
          clear hK
          simp only [Act.put, List.setIfInBounds_toArray, List.set_cons_zero, List.set_cons_succ]
          refine wpAnyH_done (by kernel_rfl) ?_ _
          refine hK35 _ _ ?_
          refine wp_ret ?_
          try simp only [Exit.then]
          refine bodyPost_ret (v := .tuple #[.agg (msA zeroC), .agg (erA E eb)]) (results_cell_cell_row Try.results14 _ _ g2 g3 28 41 _ _ (0, 0) (0, 0) _ _ rfl rfl ((DF.out.b2.drew.setRow (msA zeroC)).setRow_ne (blk_ne DF.out.b2 DF.out.b3 (by decide)) _) ((DF.out.b3.drew.setRow_ne (blk_ne DF.out.b3 DF.out.b2 (by decide)) (msA zeroC)).setRow _) Try.underlying28 rfl (Try.size28B _) Try.underlying41 rfl (Try.size41B _ _)) rfl ?_
          refine ⟨below_setRow (below_setRow (DF.out.rx.bel.drew) DF.out.lo.1 _) DF.out.lo.2.1 _, .inr ⟨by rw [Hdec.out.1]; exact h26_2, ?_⟩⟩
          rw [Hdec.out.1, Hdec.out.2, Heb.out, bOf_1 h26_2]
        · skip
          refine wp_region_list (WL.out ?_)
          refine WL.val (by kernel_rfl) (.pointer (some ⟨g7, 0, none⟩)) (by go_simp) ?_
          simp only [Act.put, List.setIfInBounds_toArray, List.set_cons_zero, List.set_cons_succ]
          refine WL.val (by kernel_rfl) (.int .i64 k) (by go_simp) ?_
          simp only [Act.put, List.setIfInBounds_toArray, List.set_cons_zero, List.set_cons_succ]
          refine WL.val (by kernel_rfl) (.bool false) (by go_simp) ?_
          simp only [Act.put, List.setIfInBounds_toArray, List.set_cons_zero, List.set_cons_succ]
          refine WL.val (by kernel_rfl) (.bool false) (by go_simp) ?_
          simp only [Act.put, List.setIfInBounds_toArray, List.set_cons_zero, List.set_cons_succ]
          refine WL.skip (by kernel_rfl) ?_
          simp only [Act.put, List.setIfInBounds_toArray, List.set_cons_zero, List.set_cons_succ]
          refine WL.skip (by kernel_rfl) ?_
          simp only [Act.put, List.setIfInBounds_toArray, List.set_cons_zero, List.set_cons_succ]
          refine WL.skip (by kernel_rfl) ?_
          simp only [Act.put, List.setIfInBounds_toArray, List.set_cons_zero, List.set_cons_succ]
          refine WL.skip (by kernel_rfl) ?_
          simp only [Act.put, List.setIfInBounds_toArray, List.set_cons_zero, List.set_cons_succ]
          refine WL.skip (by kernel_rfl) ?_
          simp only [Act.put, List.setIfInBounds_toArray, List.set_cons_zero, List.set_cons_succ]
          refine WL.skip (by kernel_rfl) ?_
          simp only [Act.put, List.setIfInBounds_toArray, List.set_cons_zero, List.set_cons_succ]
          refine WL.val (by kernel_rfl) (.bool false) (by go_simp) ?_
          simp only [Act.put, List.setIfInBounds_toArray, List.set_cons_zero, List.set_cons_succ]
          refine WL.nil ?_
          refine hK29 _ _ ?_
          refine wp_cond_false rfl ?_
          refine wp_skip ?_
          refine hK28 _ _ ?_
          refine wp_seq_k fun K36 hK36 => ?_
          refine wp_seq_k fun K37 hK37 => ?_
          refine wp_region_list (WL.out ?_)
          refine WL.val (by kernel_rfl) (.pointer (some ⟨g7, 0, none⟩)) (by go_simp) ?_
          simp only [Act.put, List.setIfInBounds_toArray, List.set_cons_zero, List.set_cons_succ]
          refine WL.val (by kernel_rfl) (.int .i64 k) (by go_simp) ?_
          simp only [Act.put, List.setIfInBounds_toArray, List.set_cons_zero, List.set_cons_succ]
          refine WL.val (by kernel_rfl) (.bool false) (by go_simp) ?_
          simp only [Act.put, List.setIfInBounds_toArray, List.set_cons_zero, List.set_cons_succ]
          refine WL.val (by kernel_rfl) (.bool false) (by go_simp) ?_
          simp only [Act.put, List.setIfInBounds_toArray, List.set_cons_zero, List.set_cons_succ]
          refine WL.skip (by kernel_rfl) ?_
          simp only [Act.put, List.setIfInBounds_toArray, List.set_cons_zero, List.set_cons_succ]
          refine WL.skip (by kernel_rfl) ?_
          simp only [Act.put, List.setIfInBounds_toArray, List.set_cons_zero, List.set_cons_succ]
          refine WL.skip (by kernel_rfl) ?_
          simp only [Act.put, List.setIfInBounds_toArray, List.set_cons_zero, List.set_cons_succ]
          refine WL.skip (by kernel_rfl) ?_
          simp only [Act.put, List.setIfInBounds_toArray, List.set_cons_zero, List.set_cons_succ]
          refine WL.skip (by kernel_rfl) ?_
          simp only [Act.put, List.setIfInBounds_toArray, List.set_cons_zero, List.set_cons_succ]
          refine WL.skip (by kernel_rfl) ?_
          simp only [Act.put, List.setIfInBounds_toArray, List.set_cons_zero, List.set_cons_succ]
          refine WL.val (by kernel_rfl) (.bool false) (by go_simp) ?_
          simp only [Act.put, List.setIfInBounds_toArray, List.set_cons_zero, List.set_cons_succ]
          refine WL.nil ?_
          refine hK37 _ _ ?_
          refine wp_cond_false rfl ?_
          refine wp_skip ?_
          refine hK36 _ _ ?_
          refine wp_seq_k fun K38 hK38 => ?_
          obtain ⟨E, hE⟩ : ∃ E, E = stEnd L 40 0 := ⟨_, rfl⟩
          have HC9 := Keep.mk (xend_y D0.out.rx)
          rw [← hE] at HC9
          obtain ⟨eb, heb⟩ : ∃ eb, eb = bOf E 0 := ⟨_, rfl⟩
          rw [← heb] at HC9
          have Heb := Keep.mk heb
          clear heb
          have hEn : ¬ E = 0 := by rw [hE, stEnd, if_neg (by decide)]; decide
          have Hdec : Keep ((decM L).1 = E ∧ (decM L).2.1 = 0) := ⟨by
            have h1 : ¬ nextW L 1 ≠ 0 := by rw [← hW0.out]; simp [h5_2]
            have h2 : L.getD 0 0 = k := by have h := hk.out; rw [if_pos h5_2] at h; exact h.symm
            have h3 : hasI k = [] := hasI_none k (by simp only [List.mem_cons, List.not_mem_nil, or_false]; omega)
            unfold decM
            rw [if_neg h1, h2, if_pos h3, hE]
            exact ⟨rfl, rfl⟩⟩
          clear hE
          have h26_2 := hEn
          refine wp_region_list (WL.out ?_)
          refine WL.val (by kernel_rfl) (.pointer (some ⟨x, 0, none⟩)) (by go_simp) ?_
          simp only [Act.put, List.setIfInBounds_toArray, List.set_cons_zero, List.set_cons_succ]
          refine WL.callF (by kernel_rfl) 44 _ _ rfl Try.in44 #[ptr x] (by simp [Act.eval]) ?_
          refine (HC9.out).mono ?_
          rintro e w30 ⟨rfl, h1, h2⟩
          refine ⟨_, rfl, ?_⟩
          have DE := Keep.mk (D0.out.rd h1 h2)
          clear h1 h2 HC9
          simp only [Act.put, List.setIfInBounds_toArray, List.set_cons_zero, List.set_cons_succ]
          refine WL.storeR (by kernel_rfl) 41 (.tmp 6) (.tmp 132) rfl g6 (erA E eb) rfl rfl 41 (erA W0 e0) DE.out.b6 (Try.size41B _ _) (erA_sizes _ _ _ _) (erA_one _ _) ?_
          have DF := Keep.mk (DE.out.setE E eb)
          generalize w30.setRow g6 (erA E eb) = w31 at *
          have e6 : w31.cell? ⟨g6, 0, none⟩ = some (.int .i64 E) := DF.out.b6.c 0 rfl
          simp only [Act.put]
          refine WL.nil ?_
          refine hK38 _ _ ?_
          refine wp_seq_k fun K39 hK39 => ?_
          refine wp_seq_k fun K40 hK40 => ?_
          refine wp_region_list (WL.out ?_)
          refine WL.val (by kernel_rfl) (.pointer (some ⟨g6, 0, none⟩)) (by go_simp) ?_
          simp only [Act.put, List.setIfInBounds_toArray, List.set_cons_zero, List.set_cons_succ]
          refine WL.val (by kernel_rfl) (.int .i64 E) (by go_simp) ?_
          simp only [Act.put, List.setIfInBounds_toArray, List.set_cons_zero, List.set_cons_succ]
          refine WL.val (by kernel_rfl) (.bool true) (by go_simp) ?_
          simp only [Act.put, List.setIfInBounds_toArray, List.set_cons_zero, List.set_cons_succ]
          refine WL.nil ?_
          refine hK40 _ _ ?_
          refine wp_cond_true rfl ?_
          refine wp_seq_k fun K41 hK41 => ?_
          refine wp_region_held_drew (S := fun wx => wx.rangeAt g6 0 (erA E eb).toList) (by kernel_rfl) (blk_range DF.out.b6.drew) (fun hHeld => ?_)
          refine wpAnyH_take (i := 0) (oi := ⟨some 136, Op.build 28 #[], 28, _, _, none⟩) (v := .agg (msA zeroC)) rfl (by kernel_rfl) (by kernel_rfl) (by kernel_rfl) (fun _ _ _ h => h) (Or.inl ⟨by rfl, fun w hS => by first | kernel_rfl | (have h := run_bldM w; go_simp)⟩) hHeld ?_
          simp only [Act.put, List.setIfInBounds_toArray, List.set_cons_zero, List.set_cons_succ]
          refine wpAnyH_take (i := 1) (oi := ⟨some 137, Op.load 41 (Operand.tmp 6), 41, _, _, none⟩) (v := .agg (erA E eb).toList.toArray) rfl (by kernel_rfl) (by kernel_rfl) (by kernel_rfl) (fun _ _ _ h => h) (yieldsIf_load_mid (by rfl) 41 (Operand.tmp 6) rfl g6 0 rfl (erA E eb).toList _ (fun w hS => hS) Try.underlying41 rfl (by rw [Array.length_toList]; exact Try.size41B _ _)) hHeld ?_
          simp only [Act.put, List.setIfInBounds_toArray, List.set_cons_zero, List.set_cons_succ]
          simp only [Array.toArray_toList]
          refine wpAnyH_ready (rs := [2]) (by kernel_rfl) (by simp) ?_
          refine AllReadyH.cons (o := ⟨none, Op.store 28 (Operand.tmp 2) (Operand.tmp 136), 0, _, _, none⟩) rfl (fun K hK => ?_) AllReadyH.nil
          rw [if_pos (by rfl)]
          refine wp_store_row 28 (.tmp 2) (.tmp 136) rfl g2 (msA zeroC) (by simp [Act.eval]) (by simp [Act.eval]) 28 (msA zeroC) DF.out.b2.drew (Try.size28B _) (ms_sizes _ _) (SlC.zero.one) ?_
          refine hK.out _ _ (blk_range (DF.out.b6.drew.setRow_ne (blk_ne DF.out.b6 DF.out.b2 (by decide)) _)) fun hHb => ?_
          clear hK
          simp only [Act.put, List.setIfInBounds_toArray, List.set_cons_zero, List.set_cons_succ]
          refine wpAnyH_ready (rs := [3]) (by kernel_rfl) (by simp) ?_
          refine AllReadyH.cons (o := ⟨none, Op.store 41 (Operand.tmp 3) (Operand.tmp 137), 0, _, _, none⟩) rfl (fun K hK => ?_) AllReadyH.nil
          rw [if_pos (by rfl)]
          refine wp_store_row 41 (.tmp 3) (.tmp 137) rfl g3 (erA E eb) (by simp [Act.eval]) (by simp [Act.eval]) 41 (erA 0 0) (DF.out.b3.drew.setRow_ne (blk_ne DF.out.b3 DF.out.b2 (by decide)) _) (Try.size41B _ _) (erA_sizes _ _ _ _) (erA_one _ _) ?_
          refine hK.out _ _ (blk_range ((DF.out.b6.drew.setRow_ne (blk_ne DF.out.b6 DF.out.b2 (by decide)) _).setRow_ne (fun e => DF.out.n36 e.symm) _)) fun hHc => ?_
          clear hK
          simp only [Act.put, List.setIfInBounds_toArray, List.set_cons_zero, List.set_cons_succ]
          refine wpAnyH_done (by kernel_rfl) ?_ _
          refine hK41 _ _ ?_
          refine wp_ret ?_
          try simp only [Exit.then]
          refine bodyPost_ret (v := .tuple #[.agg (msA zeroC), .agg (erA E eb)]) (results_cell_cell_row Try.results14 _ _ g2 g3 28 41 _ _ (0, 0) (0, 0) _ _ rfl rfl ((DF.out.b2.drew.setRow (msA zeroC)).setRow_ne (blk_ne DF.out.b2 DF.out.b3 (by decide)) _) ((DF.out.b3.drew.setRow_ne (blk_ne DF.out.b3 DF.out.b2 (by decide)) (msA zeroC)).setRow _) Try.underlying28 rfl (Try.size28B _) Try.underlying41 rfl (Try.size41B _ _)) rfl ?_
          refine ⟨below_setRow (below_setRow (DF.out.rx.bel.drew) DF.out.lo.1 _) DF.out.lo.2.1 _, .inr ⟨by rw [Hdec.out.1]; exact h26_2, ?_⟩⟩
          rw [Hdec.out.1, Hdec.out.2, Heb.out, bOf_1 h26_2]
      · skip
        refine WL.val (by kernel_rfl) (.bool false) (by go_simp) ?_
        simp only [Act.put, List.setIfInBounds_toArray, List.set_cons_zero, List.set_cons_succ]
        refine WL.val (by kernel_rfl) (.bool false) (by go_simp) ?_
        simp only [Act.put, List.setIfInBounds_toArray, List.set_cons_zero, List.set_cons_succ]
        refine WL.val (by kernel_rfl) (.bool false) (by go_simp) ?_
        simp only [Act.put, List.setIfInBounds_toArray, List.set_cons_zero, List.set_cons_succ]
        refine WL.nil ?_
        refine hK7 _ _ ?_
        refine wp_cond_false rfl ?_
        refine wp_skip ?_
        refine hK6 _ _ ?_
        refine wp_seq_k fun K42 hK42 => ?_
        have hN1 : N0 = 1 := by rw [hN0.out, (nextN_0 L 1 (by rw [← hW0.out]; exact h5_2)).1]; rfl
        rw [h5_2, hN1] at HX6
        clear c60
        refine wp_region_list (WL.out ?_)
        refine WL.val (by kernel_rfl) (.int .u8 k) (by go_simp) ?_
        simp only [Act.put, List.setIfInBounds_toArray, List.set_cons_zero, List.set_cons_succ]
        refine WL.val (by kernel_rfl) (.int .i64 k) (by go_simp) ?_
        simp only [Act.put, List.setIfInBounds_toArray, List.set_cons_zero, List.set_cons_succ]
        refine WL.bld (by kernel_rfl) 28 _ rfl [(0, .int .i64 k)] (by simp [Act.eval]) (msA ⟨k, noS, 0, noS, noS, noS⟩) (ms_built1 k) ?_
        simp only [Act.put, List.setIfInBounds_toArray, List.set_cons_zero, List.set_cons_succ]
        refine WL.new (by kernel_rfl) 28 rfl _ Try.new28M ?_
        have b7 := Keep.mk (Blk.new w6 28 (msA zeroC))
        have BB := Keep.mk (below_new w6 (.cells (msA zeroC) 28))
        generalize w6.alloc (.cells (msA zeroC) 28) = w8 at *
        obtain ⟨g7, hg7⟩ : ∃ g, Keep (g = w6.heap.size) := ⟨_, ⟨rfl⟩⟩
        rw [← hg7.out] at b7 ⊢
        simp only [Act.put, List.setIfInBounds_toArray, List.set_cons_zero, List.set_cons_succ]
        refine WL.storeR (by kernel_rfl) 28 (.tmp 7) (.tmp 43) rfl g7 (msA ⟨k, noS, 0, noS, noS, noS⟩) rfl rfl 28 (msA zeroC) b7.out (Try.size28B _) (ms_sizes _ _) (SlC.one ⟨⟨_, _, _, rfl⟩, ⟨_, _, _, rfl⟩, ⟨_, _, _, rfl⟩, ⟨_, _, _, rfl⟩⟩) ?_
        have BC := Keep.mk (below_setRow BB.out (b := g7) (by rw [hg7.out]; exact Nat.le_refl _) (msA ⟨k, noS, 0, noS, noS, noS⟩))
        have b7e := Keep.mk (b7.out.setRow (msA ⟨k, noS, 0, noS, noS, noS⟩))
        generalize w8.setRow g7 (msA ⟨k, noS, 0, noS, noS, noS⟩) = w9 at *
        obtain ⟨B0, hB0⟩ : ∃ B, Keep (B = w9.heap.size) := ⟨_, ⟨rfl⟩⟩
        have D0 : Keep (DS w g2 g3 x g6 g7 B0 (.slice va L.length vc) L 0 1 W0 e0 (fun wx => MsAt wx { zeroM with k := k } ⟨k, noS, 0, noS, noS, noS⟩) ⟨k, noS, 0, noS, noS, noS⟩ w9) := ⟨⟨HX6.out.below BC.out, b7e.out, b2e.out.below BC.out b2e.out.lt, b3e.out.below BC.out b3e.out.lt, b6e.out.below BC.out b6e.out.lt, fun wx _ => ⟨rfl, rfl, hrow_nil wx, .inl ⟨rfl, rfl⟩, hrow_nil wx, RwsAt.nil wx⟩, fun e => by have := b2e.out.lt; have := hg7.out; omega, n36.out, ⟨by rw [hg2.out]; exact Nat.le_refl _, hz3.out, hz6.out, by rw [hg7.out]; exact HX6.out.bel.size⟩, by rw [hB0.out]; exact ⟨(b2e.out.below BC.out b2e.out.lt).lt, (b3e.out.below BC.out b3e.out.lt).lt, (b6e.out.below BC.out b6e.out.lt).lt, b7e.out.lt, (HX6.out.below BC.out).blk.lt, Nat.le_refl _⟩⟩⟩
        clear HX6 b2e b3e b6e b7 b7e BB BC n36 hz6 hz3 hg7 hg2 hB0
        have k0 := D0.out.m.c 0 (ms_0 _)
        skip
        simp only [Act.put]
        refine WL.nil ?_
        refine hK42 _ _ ?_
        refine wp_seq_k fun K43 hK43 => ?_
        refine wp_seq_k fun K44 hK44 => ?_
        have r2 := D0.out.rx.c2
        by_cases hk1 : k = 1
        · skip
          refine wp_region_list (WL.out ?_)
          refine WL.val (by kernel_rfl) (.pointer (some ⟨g7, 0, none⟩)) (by go_simp) ?_
          simp only [Act.put, List.setIfInBounds_toArray, List.set_cons_zero, List.set_cons_succ]
          refine WL.val (by kernel_rfl) (.int .i64 k) (by go_simp) ?_
          simp only [Act.put, List.setIfInBounds_toArray, List.set_cons_zero, List.set_cons_succ]
          refine WL.val (by kernel_rfl) (.bool true) (by go_simp) ?_
          simp only [Act.put, List.setIfInBounds_toArray, List.set_cons_zero, List.set_cons_succ]
          refine WL.val (by kernel_rfl) (.bool true) (by go_simp) ?_
          simp only [Act.put, List.setIfInBounds_toArray, List.set_cons_zero, List.set_cons_succ]
          refine WL.val (by kernel_rfl) (.pointer (some ⟨x, 0, none⟩)) (by go_simp) ?_
          simp only [Act.put, List.setIfInBounds_toArray, List.set_cons_zero, List.set_cons_succ]
          refine WL.val (by kernel_rfl) (.pointer (some ⟨x, 0, none⟩)) (by go_simp) ?_
          simp only [Act.put, List.setIfInBounds_toArray, List.set_cons_zero, List.set_cons_succ]
          refine WL.val (by kernel_rfl) (.pointer (some ⟨x, 2, none⟩)) (by go_simp) ?_
          simp only [Act.put, List.setIfInBounds_toArray, List.set_cons_zero, List.set_cons_succ]
          refine WL.val (by kernel_rfl) (.pointer (some ⟨x, 2, none⟩)) (by go_simp) ?_
          simp only [Act.put, List.setIfInBounds_toArray, List.set_cons_zero, List.set_cons_succ]
          refine WL.val (by kernel_rfl) (.int .i64 0) (by go_simp) ?_
          simp only [Act.put, List.setIfInBounds_toArray, List.set_cons_zero, List.set_cons_succ]
          refine WL.val (by kernel_rfl) (.bool true) (by go_simp) ?_
          simp only [Act.put, List.setIfInBounds_toArray, List.set_cons_zero, List.set_cons_succ]
          refine WL.val (by kernel_rfl) (.bool true) (by go_simp) ?_
          simp only [Act.put, List.setIfInBounds_toArray, List.set_cons_zero, List.set_cons_succ]
          refine WL.nil ?_
          refine hK44 _ _ ?_
          refine wp_cond_true rfl ?_
          refine wp_seq_k fun K45 hK45 => ?_
          obtain ⟨R1, hR1⟩ : ∃ R1, R1 = hsR L 4096 1 := ⟨_, rfl⟩
          have HC1 := Keep.mk (xread_any w x _ L 1 4096 (by decide) w9 D0.out.rx)
          rw [show ((4096 : Nat) : Int) = 4096 from rfl, ← hR1] at HC1
          obtain ⟨y1, a1, H1⟩ := R1
          have HE1 := Keep.mk hR1
          clear hR1 r2
          refine wp_region_list (WL.out ?_)
          refine WL.val (by kernel_rfl) (.pointer (some ⟨x, 0, none⟩)) (by go_simp) ?_
          simp only [Act.put, List.setIfInBounds_toArray, List.set_cons_zero, List.set_cons_succ]
          refine WL.callF (by kernel_rfl) 39 _ _ rfl Try.in39 #[ptr x, .int .u64 4096] (by simp [Act.eval]) ?_
          refine (HC1.out).mono ?_
          rintro e w10 ⟨v, rfl, h1, h2, P, h3, h4, h5⟩
          refine ⟨_, rfl, ?_⟩
          obtain ⟨oa, oc, rfl⟩ := h3.sl
          have D1 := Keep.mk (D0.out.rd h1 h2)
          have HO := Keep.mk h3
          have HOf : Keep (∀ k, (Value.slice oa P.length oc).ownBlock = some k → B0 ≤ k) := ⟨fun k hk => Nat.le_trans D0.out.hi.2.2.2.2.2 (h4 k hk)⟩
          have HPe : Keep (y1 = 0 → P = H1) := ⟨h5⟩
          clear h1 h2 h3 h4 h5 HC1 D0 k0
          simp only [Act.put, List.setIfInBounds_toArray, List.set_cons_zero, List.set_cons_succ]
          refine WL.val (by kernel_rfl) (.pointer (some ⟨g7, 1, none⟩)) (by go_simp) ?_
          simp only [Act.put, List.setIfInBounds_toArray, List.set_cons_zero, List.set_cons_succ]
          have c_o := D1.out.m.c 1 (ms_1 _)
          have f_o := D1.out.m.frozen 1
          refine WL.cell (by kernel_rfl) (w10.setCell ⟨g7, 1, none⟩ (.slice oa P.length oc)) (by go_simp) ?_
          clear c_o f_o
          have D2 : Keep (DS w g2 g3 x g6 g7 B0 (.slice va L.length vc) L y1 a1 W0 e0 (fun wx => MsAt wx { zeroM with k := k, hd := P } ⟨k, .slice oa P.length oc, 0, noS, noS, noS⟩) ⟨k, .slice oa P.length oc, 0, noS, noS, noS⟩ (w10.setCell ⟨g7, 1, none⟩ (.slice oa P.length oc))) := ⟨D1.out.setM (by have h := D1.out.m.set 1 (.slice oa P.length oc); rw [ms_set1] at h; exact h) (Grown.setCell w10 g7 1 _ fun _ => rfl) (fun wx hw => ⟨rfl, rfl, (HO.out.grown hw (fun k hk e => absurd (HOf.out k hk) (by omega))).row, .inl ⟨rfl, rfl⟩, hrow_nil wx, RwsAt.nil wx⟩)⟩
          generalize w10.setCell ⟨g7, 1, none⟩ (.slice oa P.length oc) = w11 at *
          clear D1 HO HOf
          simp only [Act.put]
          refine WL.nil ?_
          refine hK45 _ _ ?_
          refine wp_seq_k fun K46 hK46 => ?_
          have s1 := stRaw_len L y1 a1
          obtain ⟨R2, hR2⟩ : ∃ R2, R2 = stRaw L 8 y1 a1 := ⟨_, rfl⟩
          have HC1 := Keep.mk (xraw_x 8 D2.out.rx)
          rw [← hR2] at HC1 s1
          obtain ⟨y2, a2, sl⟩ := R2
          simp only at HC1 s1
          have HE2 := Keep.mk hR2
          have hsl8 : sl.length ≤ 8 := s1.1
          have HBs : Keep (Byts sl) := ⟨by
            have h : sl = (stRaw L 8 y1 a1).2.2 := by rw [← hR2]
            rw [h]; unfold stRaw; split
            · exact (HBy.out.drop a1).take _
            · intro c hc; simp at hc⟩
          clear hR2 s1
          refine wp_region_list (WL.out ?_)
          refine WL.val (by kernel_rfl) (.pointer (some ⟨x, 0, none⟩)) (by go_simp) ?_
          simp only [Act.put, List.setIfInBounds_toArray, List.set_cons_zero, List.set_cons_succ]
          refine WL.callF (by kernel_rfl) 40 _ _ rfl Try.in40 #[ptr x, .int .i64 8] (by simp [Act.eval]) ?_
          refine (HC1.out).mono ?_
          rintro e w12 ⟨sa, sc, rfl, h1, h2, h3, h4⟩
          refine ⟨_, rfl, ?_⟩
          have D3 := Keep.mk (D2.out.rd h1 h2)
          have HS3 : Keep (∀ wx, (Grown w12 wx fun k => k < B0) → RowAt wx (.slice sa sl.length sc) sl) := ⟨fun wx hw => h3.grown hw (fun k hk _ e => by have := h4 k hk; have := D2.out.hi.2.2.2.2.2; omega)⟩
          clear h1 h2 h3 h4 HC1 D2
          simp only [Act.put, List.setIfInBounds_toArray, List.set_cons_zero, List.set_cons_succ]
          refine WL.val (by kernel_rfl) (.tuple #[.slice sa sl.length sc, .agg (erA y2 (bOf y2 a2))]) (by go_simp) ?_
          simp only [Act.put, List.setIfInBounds_toArray, List.set_cons_zero, List.set_cons_succ]
          refine WL.val (by kernel_rfl) (.slice sa sl.length sc) (by go_simp) ?_
          simp only [Act.put, List.setIfInBounds_toArray, List.set_cons_zero, List.set_cons_succ]
          refine WL.val (by kernel_rfl) (.agg (erA y2 (bOf y2 a2))) (by go_simp) ?_
          simp only [Act.put, List.setIfInBounds_toArray, List.set_cons_zero, List.set_cons_succ]
          refine WL.new (by kernel_rfl) 41 rfl _ Try.new41E ?_
          have HNg9 := Keep.mk (Blk.new w12 41 (erA 0 0))
          have BNg9 := Keep.mk (below_new w12 (.cells (erA 0 0) 41))
          generalize w12.alloc (.cells (erA 0 0) 41) = w13a at *
          simp only [Act.put, List.setIfInBounds_toArray, List.set_cons_zero, List.set_cons_succ]
          refine WL.val (by kernel_rfl) (.slice sa sl.length sc) (by go_simp) ?_
          simp only [Act.put, List.setIfInBounds_toArray, List.set_cons_zero, List.set_cons_succ]
          refine WL.storeR (by kernel_rfl) 41 (.tmp 9) (.tmp 62) rfl w12.heap.size (erA y2 (bOf y2 a2)) rfl rfl 41 (erA 0 0) HNg9.out (Try.size41B _ _) (erA_sizes _ _ _ _) (erA_one _ _) ?_
          have HMg9 := Keep.mk (HNg9.out.setRow (erA y2 (bOf y2 a2)))
          have Bmg9 : Keep (Below w12.heap.size w12 (w13a.setRow w12.heap.size (erA y2 (bOf y2 a2)))) := ⟨below_setRow BNg9.out (Nat.le_refl _) _⟩
          generalize w13a.setRow w12.heap.size (erA y2 (bOf y2 a2)) = w13 at *
          generalize w12.heap.size = g9 at HMg9 ⊢
          clear HNg9 BNg9
          have D4 : Keep (DS w g2 g3 x g6 g7 B0 (.slice va L.length vc) L y2 a2 W0 e0 (fun wx => MsAt wx { zeroM with k := k, hd := P, sa := hor sl 0 } ⟨k, .slice oa P.length oc, hor sl 0, noS, noS, noS⟩) ⟨k, .slice oa P.length oc, hor sl 0, noS, noS, noS⟩ w13) := ⟨D3.out.below Bmg9.out⟩
          have HS4 : Keep (∀ wx, (Grown w13 wx fun k => k < B0) → RowAt wx (.slice sa sl.length sc) sl) := ⟨fun wx hw => HS3.out wx ((Grown.below Bmg9.out).trans hw)⟩
          have hw65 : IntKind.i64.wrap ((sl.length : Int) - 1) = (sl.length : Int) - 1 - ((0 : Nat) : Int) := by rw [IntKind.wrap_i64]; omega
          clear D3 HS3 HMg9 Bmg9
          simp only [Act.put]
          refine WL.nil ?_
          refine hK46 _ _ ?_
          refine wp_seq_k fun K47 hK47 => ?_
          refine wp_seq_k fun K48 hK48 => ?_
          refine wp_region_list (WL.out ?_)
          refine WL.val (by kernel_rfl) (.slice sa sl.length sc) (by go_simp) ?_
          simp only [Act.put, List.setIfInBounds_toArray, List.set_cons_zero, List.set_cons_succ]
          refine WL.val (by kernel_rfl) (.int .i64 (sl.length : Int)) (by go_simp) ?_
          simp only [Act.put, List.setIfInBounds_toArray, List.set_cons_zero, List.set_cons_succ]
          refine WL.val (by kernel_rfl) (.int .i64 ((sl.length : Int) - 1 - ((0 : Nat) : Int))) (by go_simp) ?_
          simp only [Act.put, List.setIfInBounds_toArray, List.set_cons_zero, List.set_cons_succ]
          refine WL.val (by kernel_rfl) (.int .i64 ((sl.length : Int) - 1 - ((0 : Nat) : Int))) (by go_simp) ?_
          simp only [Act.put, List.setIfInBounds_toArray, List.set_cons_zero, List.set_cons_succ]
          refine WL.nil ?_
          refine hK48 _ _ ?_
          refine wp_block ?_
          refine wp_loop (fun ac wr => ∃ (t : Nat) (u66 u67 u68 u69 u70 u71 u72 u73 u74 u75 u76 u77 u78 u79 : Value), ac = { tmps := #[.slice va L.length vc, undef, .pointer (some ⟨g2, 0, none⟩), .pointer (some ⟨g3, 0, none⟩), .pointer (some ⟨x, 0, none⟩), .int .u8 k, .pointer (some ⟨g6, 0, none⟩), .pointer (some ⟨g7, 0, none⟩), .slice sa sl.length sc, .pointer (some ⟨g9, 0, none⟩), .int .i64 ((sl.length : Int) - 1 - (t : Int)), undef, undef, undef, undef, .slice va L.length vc, .int .i64 (L.length : Int), .bool false, undef, undef, .slice va L.length vc, .agg #[.slice va L.length vc, .int .i64 0, .int .i64 0, .int .i64 0], .pointer (some ⟨x, 0, none⟩), .tuple #[.int .u8 k, .agg (erA W0 e0)], .pointer (some ⟨x, 0, none⟩), .tuple #[.int .u8 k, .agg (erA W0 e0)], .int .u8 k, .agg (erA W0 e0), .pointer (some ⟨g6, 0, none⟩), .int .i64 W0, .bool true, .bool true, .int .u8 k, .bool false, .bool false, .int .u8 k, .bool false, .bool false, .bool false, undef, undef, .int .u8 k, .int .i64 k, .agg (msA ⟨k, noS, 0, noS, noS, noS⟩), .pointer (some ⟨g7, 0, none⟩), .int .i64 k, .bool true, .bool true, .pointer (some ⟨x, 0, none⟩), .pointer (some ⟨x, 0, none⟩), .pointer (some ⟨x, 2, none⟩), .pointer (some ⟨x, 2, none⟩), .int .i64 0, .bool true, .bool true, .pointer (some ⟨x, 0, none⟩), .slice oa P.length oc, .pointer (some ⟨g7, 1, none⟩), .tuple #[.slice sa sl.length sc, .agg (erA y2 (bOf y2 a2))], .pointer (some ⟨x, 0, none⟩), .tuple #[.slice sa sl.length sc, .agg (erA y2 (bOf y2 a2))], .slice sa sl.length sc, .agg (erA y2 (bOf y2 a2)), .slice sa sl.length sc, .int .i64 (sl.length : Int), .int .i64 ((sl.length : Int) - 1 - ((0 : Nat) : Int)), u66, u67, u68, u69, u70, u71, u72, u73, u74, u75, u76, u77, u78, u79, undef, undef, undef, undef, undef, undef, undef, undef, undef, undef, undef, undef, undef, undef, undef, undef, undef, undef, undef, undef, undef, undef, undef, undef, undef, undef, undef, undef, undef, undef, undef, undef, undef, undef, undef, undef, undef, undef, undef, undef, undef, undef, undef, undef, undef, undef, undef, undef, undef, undef, undef, undef, undef, undef, undef, undef, undef, undef, undef, undef], defers := [] } ∧ t ≤ sl.length ∧ Keep (DS w g2 g3 x g6 g7 B0 (.slice va L.length vc) L y2 a2 W0 e0 (fun wx => MsAt wx { zeroM with k := k, hd := P, sa := hor sl t } ⟨k, .slice oa P.length oc, hor sl t, noS, noS, noS⟩) ⟨k, .slice oa P.length oc, hor sl t, noS, noS, noS⟩ wr) ∧ Keep (∀ wx, (Grown wr wx fun k => k < B0) → RowAt wx (.slice sa sl.length sc) sl)) (fun a _ => ((intOf (a.tmps.getD 10 undef)) + 1).toNat) ⟨0, undef, undef, undef, undef, undef, undef, undef, undef, undef, undef, undef, undef, undef, undef, rfl, by omega, D4, HS4⟩ ?_
          rintro ac wr ⟨t, u66, u67, u68, u69, u70, u71, u72, u73, u74, u75, u76, u77, u78, u79, rfl, ht, HDr, HSr⟩
          by_cases hlt : t < sl.length
          · have hge : (0 : Int) ≤ (sl.length : Int) - 1 - (t : Int) := by omega
            obtain ⟨j, hj⟩ : ∃ j : Nat, j = sl.length - 1 - t := ⟨_, rfl⟩
            have hji : (sl.length : Int) - 1 - (t : Int) = (j : Int) := by omega
            have hwt : IntKind.i64.wrap ((j : Int) - 1) = (sl.length : Int) - 1 - ((t + 1 : Nat) : Int) := by rw [IntKind.wrap_i64]; omega
            obtain ⟨qb, ob, hsa, hcl⟩ := row_cell (HSr.out wr (Grown.refl _ _)) j (by omega)
            subst hsa
            obtain ⟨xb, hxb⟩ : ∃ xb, xb = sl.getD j 0 := ⟨_, rfl⟩
            have hxr : 0 ≤ xb ∧ xb < 256 := by rw [hxb]; exact HBs.out.getD j
            have hcl2 : wr.cell? ⟨qb, ob + j, none⟩ = some (.int .u8 xb) := by rw [hxb]; exact hcl
            clear hcl
            have hhr := hor_rng sl HBs.out (t + 1)
            have hh0 := hor_rng sl HBs.out t
            have hp8 := pow_le8 (t + 1) (by omega)
            have hhs : hor sl (t + 1) = 256 * hor sl t + xb := by rw [hor, hxb, hj]
            obtain ⟨h0, hh0'⟩ : ∃ h0, h0 = hor sl t := ⟨_, rfl⟩
            obtain ⟨h1, hh1'⟩ : ∃ h1, h1 = hor sl (t + 1) := ⟨_, rfl⟩
            rw [← hh0', ← hh1'] at hhs
            rw [← hh0'] at hh0 HDr
            rw [← hh1'] at hhr
            have HH1 := Keep.mk hh1'
            clear hh0' hh1' hj hxb
            have c2 := HDr.out.m.c 2 (ms_2 _)
            simp only at c2
            have f2 := HDr.out.m.frozen 2
            have hm1 : IntKind.u64.wrap (256 * h0) = 256 * h0 := by rw [IntKind.wrap_u64]; omega
            have hm2 : IntKind.u64.wrap (256 * h0 + xb) = h1 := by rw [IntKind.wrap_u64]; omega
            have hm3 : IntKind.u64.wrap xb = xb := by rw [IntKind.wrap_u64]; omega
            rw [hji]
            have HS0 : wr.drew.cell? ⟨g7, 2, none⟩ = some (.int .u64 h0) ∧ wr.drew.cell? ⟨qb, ob + j, none⟩ = some (.int .u8 xb) := ⟨c2, hcl2⟩
            refine wp_seq_k fun K49 hK49 => ?_
            refine wp_seq_k fun K50 hK50 => ?_
            refine wp_region_list (WL.out ?_)
            refine WL.val (by kernel_rfl) (.int .i64 (j : Int)) (by go_simp) ?_
            simp only [Act.put, List.setIfInBounds_toArray, List.set_cons_zero, List.set_cons_succ]
            refine WL.val (by kernel_rfl) (.bool true) (by go_simp) ?_
            simp only [Act.put, List.setIfInBounds_toArray, List.set_cons_zero, List.set_cons_succ]
            refine WL.nil ?_
            refine hK50 _ _ ?_
            refine wp_cond_true rfl ?_
            refine wp_skip ?_
            refine hK49 _ _ ?_
            refine wp_seq_k fun K51 hK51 => ?_
            refine wp_block ?_
            refine wp_region_held_drew (S := fun _ => True) (by kernel_rfl) (trivial) (fun hHeld => ?_)
            refine wpAnyH_take (i := 0) (oi := ⟨some 70, Op.fieldAddr 28 (Operand.tmp 7) 2, 0, _, _, none⟩) (v := .pointer (some ⟨g7, 2, none⟩)) rfl (by kernel_rfl) (by kernel_rfl) (by kernel_rfl) (fun _ _ _ h => h) (Or.inl ⟨by rfl, fun w hS => by go_simp⟩) hHeld ?_
            simp only [Act.put, List.setIfInBounds_toArray, List.set_cons_zero, List.set_cons_succ]
            refine wpAnyH_take (i := 3) (oi := ⟨some 73, Op.move (Operand.tmp 8), 25, _, _, none⟩) (v := .slice (some ⟨qb, ob, none⟩) sl.length sc) rfl (by kernel_rfl) (by kernel_rfl) (by kernel_rfl) (fun _ _ _ h => h) (Or.inl ⟨by rfl, fun w hS => by go_simp⟩) hHeld ?_
            simp only [Act.put, List.setIfInBounds_toArray, List.set_cons_zero, List.set_cons_succ]
            refine wpAnyH_take (i := 4) (oi := ⟨some 74, Op.move (Operand.tmp 10), 3, _, _, none⟩) (v := .int .i64 (j : Int)) rfl (by kernel_rfl) (by kernel_rfl) (by kernel_rfl) (fun _ _ _ h => h) (Or.inl ⟨by rfl, fun w hS => by go_simp⟩) hHeld ?_
            simp only [Act.put, List.setIfInBounds_toArray, List.set_cons_zero, List.set_cons_succ]
            refine wpAnyH_take (i := 5) (oi := ⟨some 75, Op.indexAddr 25 (Operand.tmp 73) (Operand.tmp 74), 0, _, _, none⟩) (v := .pointer (some ⟨qb, ob + j, none⟩)) rfl (by kernel_rfl) (by kernel_rfl) (by kernel_rfl) (fun _ _ _ h => h) (Or.inl ⟨by rfl, fun w hS => by clear hS; go_simp; try omega⟩) hHeld ?_
            simp only [Act.put, List.setIfInBounds_toArray, List.set_cons_zero, List.set_cons_succ]
            refine wpAnyH_ready (rs := [1, 6]) (by kernel_rfl) (by simp) ?_
            refine AllReadyH.cons (o := ⟨some 71, Op.load 24 (Operand.tmp 70), 24, _, _, none⟩) rfl (fun K hK => ?_) (AllReadyH.cons (o := ⟨some 76, Op.load 5 (Operand.tmp 75), 5, _, _, none⟩) rfl (fun K hK => ?_) AllReadyH.nil)
            all_goals rw [if_pos (by rfl)]
            · refine wp_val (.int .u64 h0) (by have c' := HS0.1; go_simp) ?_
              refine hK.out _ _ trivial fun hHa => ?_
              clear hK
              simp only [Act.put, List.setIfInBounds_toArray, List.set_cons_zero, List.set_cons_succ]
              refine wpAnyH_take (i := 2) (oi := ⟨some 72, Op.binOp BinOp.mul 24 (Operand.const (Value.int IntKind.u64 256)) (Operand.tmp 71) 24, 24, _, _, none⟩) (v := .int .u64 (256 * h0)) rfl (by kernel_rfl) (by kernel_rfl) (by kernel_rfl) (fun _ _ _ h => h) (Or.inl ⟨by rfl, fun w hS => by go_simp⟩) hHa ?_
              simp only [Act.put, List.setIfInBounds_toArray, List.set_cons_zero, List.set_cons_succ]
              refine wpAnyH_ready (rs := [6]) (by kernel_rfl) (by simp) ?_
              refine AllReadyH.cons (o := ⟨some 76, Op.load 5 (Operand.tmp 75), 5, _, _, none⟩) rfl (fun K hK => ?_) AllReadyH.nil
              rw [if_pos (by rfl)]
              refine wp_val (.int .u8 xb) (by have c' := HS0.2; go_simp) ?_
              refine hK.out _ _ trivial fun hHb => ?_
              clear hK
              simp only [Act.put, List.setIfInBounds_toArray, List.set_cons_zero, List.set_cons_succ]
              refine wpAnyH_take (i := 7) (oi := ⟨some 77, Op.convert 5 24 (Operand.tmp 76), 24, _, _, none⟩) (v := .int .u64 xb) rfl (by kernel_rfl) (by kernel_rfl) (by kernel_rfl) (fun _ _ _ h => h) (Or.inl ⟨by rfl, fun w hS => by go_simp⟩) hHb ?_
              simp only [Act.put, List.setIfInBounds_toArray, List.set_cons_zero, List.set_cons_succ]
              refine wpAnyH_take (i := 8) (oi := ⟨some 78, Op.binOp BinOp.add 24 (Operand.tmp 72) (Operand.tmp 77) 24, 24, _, _, none⟩) (v := .int .u64 h1) rfl (by kernel_rfl) (by kernel_rfl) (by kernel_rfl) (fun _ _ _ h => h) (Or.inl ⟨by rfl, fun w hS => by go_simp⟩) hHb ?_
              simp only [Act.put, List.setIfInBounds_toArray, List.set_cons_zero, List.set_cons_succ]
              refine wpAnyH_take (i := 9) (oi := ⟨some 79, Op.fieldAddr 28 (Operand.tmp 7) 2, 0, _, _, none⟩) (v := .pointer (some ⟨g7, 2, none⟩)) rfl (by kernel_rfl) (by kernel_rfl) (by kernel_rfl) (fun _ _ _ h => h) (Or.inl ⟨by rfl, fun w hS => by go_simp⟩) hHb ?_
              simp only [Act.put, List.setIfInBounds_toArray, List.set_cons_zero, List.set_cons_succ]
              refine wpAnyH_ready (rs := [10]) (by kernel_rfl) (by simp) ?_
              refine AllReadyH.cons (o := ⟨none, Op.store 24 (Operand.tmp 79) (Operand.tmp 78), 0, _, _, none⟩) rfl (fun K hK => ?_) AllReadyH.nil
              rw [if_pos (by rfl)]
              refine wp_cellG (wr.drew.setCell ⟨g7, 2, none⟩ (.int .u64 h1)) (by have f2' := (HDr.out.m.drew).frozen 2; have c2' := HS0.1; clear f2; go_simp) ?_
              have Dn : Keep (DS w g2 g3 x g6 g7 B0 (.slice va L.length vc) L y2 a2 W0 e0 (fun wx => MsAt wx { zeroM with k := k, hd := P, sa := h1 } ⟨k, .slice oa P.length oc, h1, noS, noS, noS⟩) ⟨k, .slice oa P.length oc, h1, noS, noS, noS⟩ (wr.drew.setCell ⟨g7, 2, none⟩ (.int .u64 h1))) := ⟨(HDr.out.below ((Below.refl _ _).drew)).setM (by have h := (HDr.out.below ((Below.refl _ _).drew)).m.set 2 (.int .u64 h1); rw [ms_set2] at h; exact h) (Grown.setCell wr.drew g7 2 _ fun _ => rfl) (fun wx hw => by have h := (HDr.out.below ((Below.refl _ _).drew)).at_ wx hw; exact ⟨rfl, rfl, h.hd, h.bl, h.wt, h.bk⟩)⟩
              have HSn : Keep (∀ wx, (Grown (wr.drew.setCell ⟨g7, 2, none⟩ (.int .u64 h1)) wx fun k => k < B0) → RowAt wx (.slice (some ⟨qb, ob, none⟩) sl.length sc) sl) := ⟨fun wx hw => HSr.out wx ((((Grown.refl wr _).drew).trans (Grown.setCell wr.drew g7 2 _ fun _ => HDr.out.hi.2.2.2.1)).trans hw)⟩
              refine hK.out _ _ trivial fun hHc => ?_
              clear hK
              simp only [Act.put, List.setIfInBounds_toArray, List.set_cons_zero, List.set_cons_succ]
              refine wpAnyH_done (by kernel_rfl) ?_ _
              refine hK51 _ _ ?_
              refine wp_region_list (WL.out ?_)
              refine WL.val (by kernel_rfl) (.int .i64 (j : Int)) (by go_simp) ?_
              simp only [Act.put, List.setIfInBounds_toArray, List.set_cons_zero, List.set_cons_succ]
              refine WL.val (by kernel_rfl) (.int .i64 ((sl.length : Int) - 1 - ((t + 1 : Nat) : Int))) (by go_simp) ?_
              simp only [Act.put, List.setIfInBounds_toArray, List.set_cons_zero, List.set_cons_succ]
              refine WL.val (by kernel_rfl) (.int .i64 ((sl.length : Int) - 1 - ((t + 1 : Nat) : Int))) (by go_simp) ?_
              simp only [Act.put, List.setIfInBounds_toArray, List.set_cons_zero, List.set_cons_succ]
              refine WL.nil ?_
              refine ⟨⟨t + 1, .int .i64 (j : Int), .bool true, .int .i64 (j : Int), .int .i64 ((sl.length : Int) - 1 - ((t + 1 : Nat) : Int)), .pointer (some ⟨g7, 2, none⟩), .int .u64 h0, .int .u64 (256 * h0), .slice (some ⟨qb, ob, none⟩) sl.length sc, .int .i64 (j : Int), .pointer (some ⟨qb, ob + j, none⟩), .int .u8 xb, .int .u64 xb, .int .u64 h1, .pointer (some ⟨g7, 2, none⟩), rfl, by omega, by rw [← HH1.out]; exact Dn, HSn⟩, by simp [intOf]; omega⟩
            · refine wp_val (.int .u8 xb) (by have c' := HS0.2; go_simp) ?_
              refine hK.out _ _ trivial fun hHa => ?_
              clear hK
              simp only [Act.put, List.setIfInBounds_toArray, List.set_cons_zero, List.set_cons_succ]
              refine wpAnyH_take (i := 7) (oi := ⟨some 77, Op.convert 5 24 (Operand.tmp 76), 24, _, _, none⟩) (v := .int .u64 xb) rfl (by kernel_rfl) (by kernel_rfl) (by kernel_rfl) (fun _ _ _ h => h) (Or.inl ⟨by rfl, fun w hS => by go_simp⟩) hHa ?_
              simp only [Act.put, List.setIfInBounds_toArray, List.set_cons_zero, List.set_cons_succ]
              refine wpAnyH_ready (rs := [1]) (by kernel_rfl) (by simp) ?_
              refine AllReadyH.cons (o := ⟨some 71, Op.load 24 (Operand.tmp 70), 24, _, _, none⟩) rfl (fun K hK => ?_) AllReadyH.nil
              rw [if_pos (by rfl)]
              refine wp_val (.int .u64 h0) (by have c' := HS0.1; go_simp) ?_
              refine hK.out _ _ trivial fun hHb => ?_
              clear hK
              simp only [Act.put, List.setIfInBounds_toArray, List.set_cons_zero, List.set_cons_succ]
              refine wpAnyH_take (i := 2) (oi := ⟨some 72, Op.binOp BinOp.mul 24 (Operand.const (Value.int IntKind.u64 256)) (Operand.tmp 71) 24, 24, _, _, none⟩) (v := .int .u64 (256 * h0)) rfl (by kernel_rfl) (by kernel_rfl) (by kernel_rfl) (fun _ _ _ h => h) (Or.inl ⟨by rfl, fun w hS => by go_simp⟩) hHb ?_
              simp only [Act.put, List.setIfInBounds_toArray, List.set_cons_zero, List.set_cons_succ]
              refine wpAnyH_take (i := 8) (oi := ⟨some 78, Op.binOp BinOp.add 24 (Operand.tmp 72) (Operand.tmp 77) 24, 24, _, _, none⟩) (v := .int .u64 h1) rfl (by kernel_rfl) (by kernel_rfl) (by kernel_rfl) (fun _ _ _ h => h) (Or.inl ⟨by rfl, fun w hS => by go_simp⟩) hHb ?_
              simp only [Act.put, List.setIfInBounds_toArray, List.set_cons_zero, List.set_cons_succ]
              refine wpAnyH_take (i := 9) (oi := ⟨some 79, Op.fieldAddr 28 (Operand.tmp 7) 2, 0, _, _, none⟩) (v := .pointer (some ⟨g7, 2, none⟩)) rfl (by kernel_rfl) (by kernel_rfl) (by kernel_rfl) (fun _ _ _ h => h) (Or.inl ⟨by rfl, fun w hS => by go_simp⟩) hHb ?_
              simp only [Act.put, List.setIfInBounds_toArray, List.set_cons_zero, List.set_cons_succ]
              refine wpAnyH_ready (rs := [10]) (by kernel_rfl) (by simp) ?_
              refine AllReadyH.cons (o := ⟨none, Op.store 24 (Operand.tmp 79) (Operand.tmp 78), 0, _, _, none⟩) rfl (fun K hK => ?_) AllReadyH.nil
              rw [if_pos (by rfl)]
              refine wp_cellG (wr.drew.setCell ⟨g7, 2, none⟩ (.int .u64 h1)) (by have f2' := (HDr.out.m.drew).frozen 2; have c2' := HS0.1; clear f2; go_simp) ?_
              have Dn : Keep (DS w g2 g3 x g6 g7 B0 (.slice va L.length vc) L y2 a2 W0 e0 (fun wx => MsAt wx { zeroM with k := k, hd := P, sa := h1 } ⟨k, .slice oa P.length oc, h1, noS, noS, noS⟩) ⟨k, .slice oa P.length oc, h1, noS, noS, noS⟩ (wr.drew.setCell ⟨g7, 2, none⟩ (.int .u64 h1))) := ⟨(HDr.out.below ((Below.refl _ _).drew)).setM (by have h := (HDr.out.below ((Below.refl _ _).drew)).m.set 2 (.int .u64 h1); rw [ms_set2] at h; exact h) (Grown.setCell wr.drew g7 2 _ fun _ => rfl) (fun wx hw => by have h := (HDr.out.below ((Below.refl _ _).drew)).at_ wx hw; exact ⟨rfl, rfl, h.hd, h.bl, h.wt, h.bk⟩)⟩
              have HSn : Keep (∀ wx, (Grown (wr.drew.setCell ⟨g7, 2, none⟩ (.int .u64 h1)) wx fun k => k < B0) → RowAt wx (.slice (some ⟨qb, ob, none⟩) sl.length sc) sl) := ⟨fun wx hw => HSr.out wx ((((Grown.refl wr _).drew).trans (Grown.setCell wr.drew g7 2 _ fun _ => HDr.out.hi.2.2.2.1)).trans hw)⟩
              refine hK.out _ _ trivial fun hHc => ?_
              clear hK
              simp only [Act.put, List.setIfInBounds_toArray, List.set_cons_zero, List.set_cons_succ]
              refine wpAnyH_done (by kernel_rfl) ?_ _
              refine hK51 _ _ ?_
              refine wp_region_list (WL.out ?_)
              refine WL.val (by kernel_rfl) (.int .i64 (j : Int)) (by go_simp) ?_
              simp only [Act.put, List.setIfInBounds_toArray, List.set_cons_zero, List.set_cons_succ]
              refine WL.val (by kernel_rfl) (.int .i64 ((sl.length : Int) - 1 - ((t + 1 : Nat) : Int))) (by go_simp) ?_
              simp only [Act.put, List.setIfInBounds_toArray, List.set_cons_zero, List.set_cons_succ]
              refine WL.val (by kernel_rfl) (.int .i64 ((sl.length : Int) - 1 - ((t + 1 : Nat) : Int))) (by go_simp) ?_
              simp only [Act.put, List.setIfInBounds_toArray, List.set_cons_zero, List.set_cons_succ]
              refine WL.nil ?_
              refine ⟨⟨t + 1, .int .i64 (j : Int), .bool true, .int .i64 (j : Int), .int .i64 ((sl.length : Int) - 1 - ((t + 1 : Nat) : Int)), .pointer (some ⟨g7, 2, none⟩), .int .u64 h0, .int .u64 (256 * h0), .slice (some ⟨qb, ob, none⟩) sl.length sc, .int .i64 (j : Int), .pointer (some ⟨qb, ob + j, none⟩), .int .u8 xb, .int .u64 xb, .int .u64 h1, .pointer (some ⟨g7, 2, none⟩), rfl, by omega, by rw [← HH1.out]; exact Dn, HSn⟩, by simp [intOf]; omega⟩
          · have hge : ¬ (0 : Int) ≤ (sl.length : Int) - 1 - (t : Int) := by omega
            have hge2 : (sl.length : Int) - 1 < (t : Int) := by omega
            have Hte : Keep (t = sl.length) := ⟨by omega⟩
            rw [Hte.out] at HDr
            clear hlt ht
            have r1 := HDr.out.rx.c1
            refine wp_seq_k fun K52 hK52 => ?_
            refine wp_seq_k fun K53 hK53 => ?_
            refine wp_region_list (WL.out ?_)
            refine WL.val (by kernel_rfl) (.int .i64 ((sl.length : Int) - 1 - (t : Int))) (by go_simp) ?_
            simp only [Act.put, List.setIfInBounds_toArray, List.set_cons_zero, List.set_cons_succ]
            refine WL.val (by kernel_rfl) (.bool false) (by go_simp) ?_
            simp only [Act.put, List.setIfInBounds_toArray, List.set_cons_zero, List.set_cons_succ]
            refine WL.nil ?_
            refine hK53 _ _ ?_
            refine wp_cond_false rfl ?_
            refine wp_exit ?_
            refine hK47 _ _ ?_
            refine wp_seq_k fun K54 hK54 => ?_
            refine wp_region_list (WL.out ?_)
            refine WL.val (by kernel_rfl) (.pointer (some ⟨x, 0, none⟩)) (by go_simp) ?_
            simp only [Act.put, List.setIfInBounds_toArray, List.set_cons_zero, List.set_cons_succ]
            refine WL.val (by kernel_rfl) (.pointer (some ⟨x, 0, none⟩)) (by go_simp) ?_
            simp only [Act.put, List.setIfInBounds_toArray, List.set_cons_zero, List.set_cons_succ]
            refine WL.val (by kernel_rfl) (.pointer (some ⟨x, 1, none⟩)) (by go_simp) ?_
            simp only [Act.put, List.setIfInBounds_toArray, List.set_cons_zero, List.set_cons_succ]
            refine WL.val (by kernel_rfl) (.int .i64 (a2 : Int)) (by go_simp) ?_
            simp only [Act.put, List.setIfInBounds_toArray, List.set_cons_zero, List.set_cons_succ]
            refine WL.val (by kernel_rfl) (.int .i64 (a2 : Int)) (by go_simp) ?_
            simp only [Act.put, List.setIfInBounds_toArray, List.set_cons_zero, List.set_cons_succ]
            refine WL.nil ?_
            refine hK54 _ _ ?_
            refine wp_seq_k fun K55 hK55 => ?_
            obtain ⟨R3, hR3⟩ : ∃ R3, R3 = stByt L 8192 y2 a2 := ⟨_, rfl⟩
            have HC1 := Keep.mk (xbytes_x 8192 (by decide) HDr.out.rx)
            rw [show ((8192 : Nat) : Int) = 8192 from rfl, ← hR3] at HC1
            obtain ⟨y3, a3, dl⟩ := R3
            simp only at HC1
            have HE3 := Keep.mk hR3
            clear hR3 r1
            refine wp_region_list (WL.out ?_)
            refine WL.val (by kernel_rfl) (.pointer (some ⟨x, 0, none⟩)) (by go_simp) ?_
            simp only [Act.put, List.setIfInBounds_toArray, List.set_cons_zero, List.set_cons_succ]
            refine WL.callF (by kernel_rfl) 41 _ _ rfl Try.in41 #[ptr x, .int .i64 8192] (by simp [Act.eval]) ?_
            refine (HC1.out).mono ?_
            rintro e w14 ⟨da, dc, rfl, h1, h2, h3, h4⟩
            refine ⟨_, rfl, ?_⟩
            have D5 := Keep.mk (HDr.out.rd h1 h2)
            have HD5 := Keep.mk h3
            have HF5 : Keep (∀ k, (Value.slice da dl.length dc).ownBlock = some k → B0 ≤ k) := ⟨fun k hk => Nat.le_trans HDr.out.hi.2.2.2.2.2 (h4 k hk)⟩
            clear h1 h2 h3 h4 HC1
            simp only [Act.put, List.setIfInBounds_toArray, List.set_cons_zero, List.set_cons_succ]
            refine WL.val (by kernel_rfl) (.tuple #[.slice da dl.length dc, .agg (erA y3 (bOf y3 a3))]) (by go_simp) ?_
            simp only [Act.put, List.setIfInBounds_toArray, List.set_cons_zero, List.set_cons_succ]
            refine WL.val (by kernel_rfl) (.slice da dl.length dc) (by go_simp) ?_
            simp only [Act.put, List.setIfInBounds_toArray, List.set_cons_zero, List.set_cons_succ]
            refine WL.val (by kernel_rfl) (.agg (erA y3 (bOf y3 a3))) (by go_simp) ?_
            simp only [Act.put, List.setIfInBounds_toArray, List.set_cons_zero, List.set_cons_succ]
            refine WL.new (by kernel_rfl) 41 rfl _ Try.new41E ?_
            have HNg13 := Keep.mk (Blk.new w14 41 (erA 0 0))
            have BNg13 := Keep.mk (below_new w14 (.cells (erA 0 0) 41))
            generalize w14.alloc (.cells (erA 0 0) 41) = w15a at *
            simp only [Act.put, List.setIfInBounds_toArray, List.set_cons_zero, List.set_cons_succ]
            refine WL.val (by kernel_rfl) (.slice da dl.length dc) (by go_simp) ?_
            simp only [Act.put, List.setIfInBounds_toArray, List.set_cons_zero, List.set_cons_succ]
            refine WL.storeR (by kernel_rfl) 41 (.tmp 13) (.tmp 88) rfl w14.heap.size (erA y3 (bOf y3 a3)) rfl rfl 41 (erA 0 0) HNg13.out (Try.size41B _ _) (erA_sizes _ _ _ _) (erA_one _ _) ?_
            have HMg13 := Keep.mk (HNg13.out.setRow (erA y3 (bOf y3 a3)))
            have Bmg13 : Keep (Below w14.heap.size w14 (w15a.setRow w14.heap.size (erA y3 (bOf y3 a3)))) := ⟨below_setRow BNg13.out (Nat.le_refl _) _⟩
            generalize w15a.setRow w14.heap.size (erA y3 (bOf y3 a3)) = w15 at *
            generalize w14.heap.size = g13 at HMg13 ⊢
            clear HNg13 BNg13
            have D6 := Keep.mk (D5.out.below Bmg13.out)
            have HD6 := Keep.mk (HD5.out.below Bmg13.out)
            have e30 : w15.cell? ⟨g13, 0, none⟩ = some (.int .i64 y3) := HMg13.out.c 0 rfl
            clear D5 HD5 Bmg13
            simp only [Act.put]
            refine WL.nil ?_
            refine hK55 _ _ ?_
            refine wp_seq_k fun K56 hK56 => ?_
            have hdl : dl.length ≤ 140737488355328 := by
              have h : dl = (stByt L 8192 y2 a2).2.2 := by rw [← HE3.out]
              rw [h]; unfold stByt; split
              · simp only
                have h2 := byt_len (L.drop a2) 8192; have := HLn.out; rw [List.length_drop] at h2; omega
              · simp
            have HCd := Keep.mk (digest_any _ dl w15 HD6.out hdl)
            clear hdl
            rcases Bool.eq_false_or_eq_true (isP (dl.length : Int)) with hp | hp
            · rw [hp] at HCd
              refine wp_region_list (WL.out ?_)
              refine WL.val (by kernel_rfl) (.slice da dl.length dc) (by go_simp) ?_
              simp only [Act.put, List.setIfInBounds_toArray, List.set_cons_zero, List.set_cons_succ]
              refine WL.callF (by kernel_rfl) 42 _ _ rfl Try.in42 #[.slice da dl.length dc] (by simp [Act.eval]) ?_
              refine (HCd.out).mono ?_
              rintro e w0 ⟨rfl, hw0⟩
              rw [hw0]
              clear hw0 w0
              refine ⟨_, rfl, ?_⟩
              simp only [Act.put, List.setIfInBounds_toArray, List.set_cons_zero, List.set_cons_succ]
              refine WL.val (by kernel_rfl) (.bool true) (by go_simp) ?_
              simp only [Act.put, List.setIfInBounds_toArray, List.set_cons_zero, List.set_cons_succ]
              refine WL.nil ?_
              refine hK56 _ _ ?_
              refine wp_seq_k fun K57 hK57 => ?_
              refine wp_seq_k fun K58 hK58 => ?_
              refine wp_region_list (WL.out ?_)
              refine WL.val (by kernel_rfl) (.pointer (some ⟨g13, 0, none⟩)) (by go_simp) ?_
              simp only [Act.put, List.setIfInBounds_toArray, List.set_cons_zero, List.set_cons_succ]
              refine WL.val (by kernel_rfl) (.int .i64 y3) (by go_simp) ?_
              simp only [Act.put, List.setIfInBounds_toArray, List.set_cons_zero, List.set_cons_succ]
              by_cases h18_2 : y3 = 0
              · skip
                refine WL.val (by kernel_rfl) (.bool true) (by go_simp) ?_
                simp only [Act.put, List.setIfInBounds_toArray, List.set_cons_zero, List.set_cons_succ]
                refine WL.val (by kernel_rfl) (.bool true) (by go_simp) ?_
                simp only [Act.put, List.setIfInBounds_toArray, List.set_cons_zero, List.set_cons_succ]
                refine WL.val (by kernel_rfl) (.bool true) (by go_simp) ?_
                simp only [Act.put, List.setIfInBounds_toArray, List.set_cons_zero, List.set_cons_succ]
                refine WL.val (by kernel_rfl) (.bool false) (by go_simp) ?_
                simp only [Act.put, List.setIfInBounds_toArray, List.set_cons_zero, List.set_cons_succ]
                refine WL.val (by kernel_rfl) (.bool false) (by go_simp) ?_
                simp only [Act.put, List.setIfInBounds_toArray, List.set_cons_zero, List.set_cons_succ]
                refine WL.nil ?_
                refine hK58 _ _ ?_
                refine wp_cond_false rfl ?_
                refine wp_skip ?_
                refine hK57 _ _ ?_
                refine wp_region_list (WL.out ?_)
                refine WL.val (by kernel_rfl) (.slice da dl.length dc) (by go_simp) ?_
                simp only [Act.put, List.setIfInBounds_toArray, List.set_cons_zero, List.set_cons_succ]
                refine WL.val (by kernel_rfl) (.pointer (some ⟨g7, 3, none⟩)) (by go_simp) ?_
                simp only [Act.put, List.setIfInBounds_toArray, List.set_cons_zero, List.set_cons_succ]
                have c_o := D6.out.m.c 3 (ms_3 _)
                have f_o := D6.out.m.frozen 3
                refine WL.cell (by kernel_rfl) (w15.setCell ⟨g7, 3, none⟩ (.slice da dl.length dc)) (by go_simp) ?_
                clear c_o f_o
                have D8 : Keep (DS w g2 g3 x g6 g7 B0 (.slice va L.length vc) L y3 a3 W0 e0 (fun wx => MsAt wx { zeroM with k := k, hd := P, sa := hor sl sl.length, bl := dl } ⟨k, .slice oa P.length oc, hor sl sl.length, .slice da dl.length dc, noS, noS⟩) ⟨k, .slice oa P.length oc, hor sl sl.length, .slice da dl.length dc, noS, noS⟩ (w15.setCell ⟨g7, 3, none⟩ (.slice da dl.length dc))) := ⟨D6.out.setM (by have h := D6.out.m.set 3 (.slice da dl.length dc); rw [ms_set3] at h; exact h) (Grown.setCell w15 g7 3 _ fun _ => rfl) (fun wx hw => by have h := D6.out.at_ wx hw; exact ⟨rfl, rfl, h.hd, HD6.out.grown hw (fun k hk _ e => by have := HF5.out k hk; omega), h.wt, h.bk⟩)⟩
                generalize w15.setCell ⟨g7, 3, none⟩ (.slice da dl.length dc) = w17 at *
                have k0 := D8.out.m.c 0 (ms_0 _)
                have r2 := D8.out.rx.c2
                have hk3 : ¬ k = 3 := by omega
                simp only [Act.put]
                refine WL.nil ?_
                refine hK43 _ _ ?_
                refine wp_seq_k fun K59 hK59 => ?_
                refine wp_seq_k fun K60 hK60 => ?_
                have hk2' : k ≤ 2 := by omega
                refine wp_region_list (WL.out ?_)
                refine WL.val (by kernel_rfl) (.pointer (some ⟨g7, 0, none⟩)) (by go_simp) ?_
                simp only [Act.put, List.setIfInBounds_toArray, List.set_cons_zero, List.set_cons_succ]
                refine WL.val (by kernel_rfl) (.int .i64 k) (by go_simp) ?_
                simp only [Act.put, List.setIfInBounds_toArray, List.set_cons_zero, List.set_cons_succ]
                refine WL.val (by kernel_rfl) (.bool true) (by go_simp) ?_
                simp only [Act.put, List.setIfInBounds_toArray, List.set_cons_zero, List.set_cons_succ]
                refine WL.val (by kernel_rfl) (.bool true) (by go_simp) ?_
                simp only [Act.put, List.setIfInBounds_toArray, List.set_cons_zero, List.set_cons_succ]
                refine WL.val (by kernel_rfl) (.pointer (some ⟨x, 0, none⟩)) (by go_simp) ?_
                simp only [Act.put, List.setIfInBounds_toArray, List.set_cons_zero, List.set_cons_succ]
                refine WL.val (by kernel_rfl) (.pointer (some ⟨x, 0, none⟩)) (by go_simp) ?_
                simp only [Act.put, List.setIfInBounds_toArray, List.set_cons_zero, List.set_cons_succ]
                refine WL.val (by kernel_rfl) (.pointer (some ⟨x, 2, none⟩)) (by go_simp) ?_
                simp only [Act.put, List.setIfInBounds_toArray, List.set_cons_zero, List.set_cons_succ]
                refine WL.val (by kernel_rfl) (.pointer (some ⟨x, 2, none⟩)) (by go_simp) ?_
                simp only [Act.put, List.setIfInBounds_toArray, List.set_cons_zero, List.set_cons_succ]
                refine WL.val (by kernel_rfl) (.int .i64 y3) (by go_simp) ?_
                simp only [Act.put, List.setIfInBounds_toArray, List.set_cons_zero, List.set_cons_succ]
                refine WL.val (by kernel_rfl) (.bool true) (by go_simp) ?_
                simp only [Act.put, List.setIfInBounds_toArray, List.set_cons_zero, List.set_cons_succ]
                refine WL.val (by kernel_rfl) (.bool true) (by go_simp) ?_
                simp only [Act.put, List.setIfInBounds_toArray, List.set_cons_zero, List.set_cons_succ]
                refine WL.nil ?_
                refine hK60 _ _ ?_
                refine wp_cond_true rfl ?_
                have Hg := Keep.mk (D8.out)
                rw [h18_2] at Hg
                obtain ⟨R5, hR5⟩ : ∃ R5, R5 = hsR L 4096 a3 := ⟨_, rfl⟩
                have HC1 := Keep.mk (xread_any w x _ L a3 4096 (by decide) w17 Hg.out.rx)
                rw [show ((4096 : Nat) : Int) = 4096 from rfl, ← hR5] at HC1
                obtain ⟨y5, a5, H5⟩ := R5
                have HE5 := Keep.mk hR5
                clear hR5 r2
                refine wp_region_list (WL.out ?_)
                refine WL.val (by kernel_rfl) (.pointer (some ⟨x, 0, none⟩)) (by go_simp) ?_
                simp only [Act.put, List.setIfInBounds_toArray, List.set_cons_zero, List.set_cons_succ]
                refine WL.callF (by kernel_rfl) 39 _ _ rfl Try.in39 #[ptr x, .int .u64 4096] (by simp [Act.eval]) ?_
                refine (HC1.out).mono ?_
                rintro e w20 ⟨v, rfl, h1, h2, Q5, h3, h4, h5⟩
                refine ⟨_, rfl, ?_⟩
                obtain ⟨ta, tc, rfl⟩ := h3.sl
                have D9 := Keep.mk (Hg.out.rd h1 h2)
                have HO5 := Keep.mk h3
                have HO5f : Keep (∀ k, (Value.slice ta Q5.length tc).ownBlock = some k → B0 ≤ k) := ⟨fun k hk => Nat.le_trans Hg.out.hi.2.2.2.2.2 (h4 k hk)⟩
                have HPe5 : Keep (y5 = 0 → Q5 = H5) := ⟨h5⟩
                clear h1 h2 h3 h4 h5 HC1 k0
                simp only [Act.put, List.setIfInBounds_toArray, List.set_cons_zero, List.set_cons_succ]
                refine WL.val (by kernel_rfl) (.pointer (some ⟨g7, 4, none⟩)) (by go_simp) ?_
                simp only [Act.put, List.setIfInBounds_toArray, List.set_cons_zero, List.set_cons_succ]
                have c_o := D9.out.m.c 4 (ms_4 _)
                have f_o := D9.out.m.frozen 4
                refine WL.cell (by kernel_rfl) (w20.setCell ⟨g7, 4, none⟩ (.slice ta Q5.length tc)) (by go_simp) ?_
                clear c_o f_o
                have D10 : Keep (DS w g2 g3 x g6 g7 B0 (.slice va L.length vc) L y5 a5 W0 e0 (fun wx => MsAt wx { zeroM with k := k, hd := P, sa := hor sl sl.length, bl := dl, wt := Q5 } ⟨k, .slice oa P.length oc, hor sl sl.length, .slice da dl.length dc, .slice ta Q5.length tc, noS⟩) ⟨k, .slice oa P.length oc, hor sl sl.length, .slice da dl.length dc, .slice ta Q5.length tc, noS⟩ (w20.setCell ⟨g7, 4, none⟩ (.slice ta Q5.length tc))) := ⟨D9.out.setM (by have h := D9.out.m.set 4 (.slice ta Q5.length tc); rw [ms_set4] at h; exact h) (Grown.setCell w20 g7 4 _ fun _ => rfl) (fun wx hw => by have h := D9.out.at_ wx hw; exact ⟨rfl, rfl, h.hd, h.bl, (HO5.out.grown hw (fun k hk e => absurd (HO5f.out k hk) (by omega))).row, h.bk⟩)⟩
                generalize w20.setCell ⟨g7, 4, none⟩ (.slice ta Q5.length tc) = w21 at *
                have k0 := D10.out.m.c 0 (ms_0 _)
                simp only [Act.put]
                refine WL.nil ?_
                refine hK59 _ _ ?_
                refine wp_seq_k fun K61 hK61 => ?_
                refine wp_seq_k fun K62 hK62 => ?_
                refine wp_region_list (WL.out ?_)
                refine WL.val (by kernel_rfl) (.pointer (some ⟨g7, 0, none⟩)) (by go_simp) ?_
                simp only [Act.put, List.setIfInBounds_toArray, List.set_cons_zero, List.set_cons_succ]
                refine WL.val (by kernel_rfl) (.int .i64 k) (by go_simp) ?_
                simp only [Act.put, List.setIfInBounds_toArray, List.set_cons_zero, List.set_cons_succ]
                refine WL.val (by kernel_rfl) (.bool false) (by go_simp) ?_
                simp only [Act.put, List.setIfInBounds_toArray, List.set_cons_zero, List.set_cons_succ]
                refine WL.val (by kernel_rfl) (.bool false) (by go_simp) ?_
                simp only [Act.put, List.setIfInBounds_toArray, List.set_cons_zero, List.set_cons_succ]
                refine WL.skip (by kernel_rfl) ?_
                simp only [Act.put, List.setIfInBounds_toArray, List.set_cons_zero, List.set_cons_succ]
                refine WL.skip (by kernel_rfl) ?_
                simp only [Act.put, List.setIfInBounds_toArray, List.set_cons_zero, List.set_cons_succ]
                refine WL.skip (by kernel_rfl) ?_
                simp only [Act.put, List.setIfInBounds_toArray, List.set_cons_zero, List.set_cons_succ]
                refine WL.skip (by kernel_rfl) ?_
                simp only [Act.put, List.setIfInBounds_toArray, List.set_cons_zero, List.set_cons_succ]
                refine WL.skip (by kernel_rfl) ?_
                simp only [Act.put, List.setIfInBounds_toArray, List.set_cons_zero, List.set_cons_succ]
                refine WL.skip (by kernel_rfl) ?_
                simp only [Act.put, List.setIfInBounds_toArray, List.set_cons_zero, List.set_cons_succ]
                refine WL.val (by kernel_rfl) (.bool false) (by go_simp) ?_
                simp only [Act.put, List.setIfInBounds_toArray, List.set_cons_zero, List.set_cons_succ]
                refine WL.nil ?_
                refine hK62 _ _ ?_
                refine wp_cond_false rfl ?_
                refine wp_skip ?_
                refine hK61 _ _ ?_
                refine wp_seq_k fun K63 hK63 => ?_
                obtain ⟨E, hE⟩ : ∃ E, E = stEnd L y5 a5 := ⟨_, rfl⟩
                have HC9 := Keep.mk (xend_y D10.out.rx)
                rw [← hE] at HC9
                obtain ⟨eb, heb⟩ : ∃ eb, eb = bOf E a5 := ⟨_, rfl⟩
                rw [← heb] at HC9
                have Heb := Keep.mk heb
                clear heb
                have hnw : nextW L 1 = 0 := by rw [← hW0.out]; exact h5_2
                have hL0 : L.getD 0 0 = k := by have h := hk.out; rw [if_pos h5_2] at h; exact h.symm
                have hhas : hasI (L.getD 0 0) = [0, 1, 2, 3] := by rw [hL0, hk1]; rfl
                have hd := decM_of hnw (by rw [hhas]; simp) _ rfl
                rw [hhas, hL0] at hd
                have hr1 := ref1_is { zeroM with k := k } HE1.out HE2.out HE3.out
                have hr2 := hr1.2.2 h18_2 hp
                rw [← HE5.out] at hr2
                simp only at hr2
                rw [hr2.1, hr2.2.1] at hd
                have Hdec : Keep ((decM L).1 = E ∧ (decM L).2.1 = a5) := ⟨by rw [hE]; exact ⟨hd.1, hd.2.1⟩⟩
                have HdM : Keep (E = 0 → (decM L).2.2 = { zeroM with k := k, hd := P, sa := hor sl sl.length, bl := dl, wt := Q5 }) := ⟨fun h => by
                  have hy : y5 = 0 := by
                    by_cases h0 : y5 = 0
                    · exact h0
                    · rw [hE, stEnd, if_neg h0] at h; exact absurd h h0
                  rw [hd.2.2 (by rw [← hE]; exact h), hr2.2.2 hy, HPe5.out hy, HPe.out (stRaw_0 HE2.out (stByt_0 HE3.out h18_2))]⟩
                clear hr1
                clear hd hhas hnw hL0
                clear hE
                refine wp_region_list (WL.out ?_)
                refine WL.val (by kernel_rfl) (.pointer (some ⟨x, 0, none⟩)) (by go_simp) ?_
                simp only [Act.put, List.setIfInBounds_toArray, List.set_cons_zero, List.set_cons_succ]
                refine WL.callF (by kernel_rfl) 44 _ _ rfl Try.in44 #[ptr x] (by simp [Act.eval]) ?_
                refine (HC9.out).mono ?_
                rintro e w30 ⟨rfl, h1, h2⟩
                refine ⟨_, rfl, ?_⟩
                have DE := Keep.mk (D10.out.rd h1 h2)
                clear h1 h2 HC9
                simp only [Act.put, List.setIfInBounds_toArray, List.set_cons_zero, List.set_cons_succ]
                refine WL.storeR (by kernel_rfl) 41 (.tmp 6) (.tmp 132) rfl g6 (erA E eb) rfl rfl 41 (erA W0 e0) DE.out.b6 (Try.size41B _ _) (erA_sizes _ _ _ _) (erA_one _ _) ?_
                have DF := Keep.mk (DE.out.setE E eb)
                generalize w30.setRow g6 (erA E eb) = w31 at *
                have e6 : w31.cell? ⟨g6, 0, none⟩ = some (.int .i64 E) := DF.out.b6.c 0 rfl
                simp only [Act.put]
                refine WL.nil ?_
                refine hK63 _ _ ?_
                refine wp_seq_k fun K64 hK64 => ?_
                refine wp_seq_k fun K65 hK65 => ?_
                refine wp_region_list (WL.out ?_)
                refine WL.val (by kernel_rfl) (.pointer (some ⟨g6, 0, none⟩)) (by go_simp) ?_
                simp only [Act.put, List.setIfInBounds_toArray, List.set_cons_zero, List.set_cons_succ]
                refine WL.val (by kernel_rfl) (.int .i64 E) (by go_simp) ?_
                simp only [Act.put, List.setIfInBounds_toArray, List.set_cons_zero, List.set_cons_succ]
                by_cases h26_2 : E = 0
                · skip
                  refine WL.val (by kernel_rfl) (.bool false) (by go_simp) ?_
                  simp only [Act.put, List.setIfInBounds_toArray, List.set_cons_zero, List.set_cons_succ]
                  refine WL.nil ?_
                  refine hK65 _ _ ?_
                  refine wp_cond_false rfl ?_
                  refine wp_skip ?_
                  refine hK64 _ _ ?_
                  refine wp_seq_k fun K66 hK66 => ?_
                  have HfM : Keep (MsAt w31 (decM L).2.2 ⟨k, .slice oa P.length oc, hor sl sl.length, .slice da dl.length dc, .slice ta Q5.length tc, noS⟩) := ⟨by
                    have h := HdM.out h26_2
                    rw [h]; exact DF.out.has⟩
                  have HAt : Keep (∀ wx, (Grown w31 wx fun k => k < B0) → MsAt wx (decM L).2.2 ⟨k, .slice oa P.length oc, hor sl sl.length, .slice da dl.length dc, .slice ta Q5.length tc, noS⟩) := ⟨fun wx hw => by
                    have h := HdM.out h26_2
                    rw [h]; exact DF.out.at_ wx hw⟩
                  refine wp_region_held_drew (S := fun wx => wx.rangeAt g7 0 (msA ⟨k, .slice oa P.length oc, hor sl sl.length, .slice da dl.length dc, .slice ta Q5.length tc, noS⟩).toList ∧ wx.rangeAt g6 0 (erA E eb).toList) (by kernel_rfl) (⟨blk_range DF.out.m.drew, blk_range DF.out.b6.drew⟩) (fun hHeld => ?_)
                  refine wpAnyH_take (i := 0) (oi := ⟨some 138, Op.load 28 (Operand.tmp 7), 28, _, _, none⟩) (v := .agg (msA ⟨k, .slice oa P.length oc, hor sl sl.length, .slice da dl.length dc, .slice ta Q5.length tc, noS⟩).toList.toArray) rfl (by kernel_rfl) (by kernel_rfl) (by kernel_rfl) (fun _ _ _ h => h) (yieldsIf_load_mid (by rfl) 28 (Operand.tmp 7) rfl g7 0 rfl (msA ⟨k, .slice oa P.length oc, hor sl sl.length, .slice da dl.length dc, .slice ta Q5.length tc, noS⟩).toList _ (fun w hS => hS.1) Try.underlying28 rfl (by rw [Array.length_toList]; exact Try.size28B _)) hHeld ?_
                  simp only [Act.put, List.setIfInBounds_toArray, List.set_cons_zero, List.set_cons_succ]
                  simp only [Array.toArray_toList]
                  refine wpAnyH_take (i := 1) (oi := ⟨some 139, Op.load 41 (Operand.tmp 6), 41, _, _, none⟩) (v := .agg (erA E eb).toList.toArray) rfl (by kernel_rfl) (by kernel_rfl) (by kernel_rfl) (fun _ _ _ h => h) (yieldsIf_load_mid (by rfl) 41 (Operand.tmp 6) rfl g6 0 rfl (erA E eb).toList _ (fun w hS => hS.2) Try.underlying41 rfl (by rw [Array.length_toList]; exact Try.size41B _ _)) hHeld ?_
                  simp only [Act.put, List.setIfInBounds_toArray, List.set_cons_zero, List.set_cons_succ]
                  simp only [Array.toArray_toList]
                  refine wpAnyH_ready (rs := [2]) (by kernel_rfl) (by simp) ?_
                  refine AllReadyH.cons (o := ⟨none, Op.store 28 (Operand.tmp 2) (Operand.tmp 138), 0, _, _, none⟩) rfl (fun K hK => ?_) AllReadyH.nil
                  rw [if_pos (by rfl)]
                  refine wp_store_row 28 (.tmp 2) (.tmp 138) rfl g2 (msA ⟨k, .slice oa P.length oc, hor sl sl.length, .slice da dl.length dc, .slice ta Q5.length tc, noS⟩) (by simp [Act.eval]) (by simp [Act.eval]) 28 (msA zeroC) DF.out.b2.drew (Try.size28B _) (ms_sizes _ _) (HfM.out.sl.one) ?_
                  refine hK.out _ _ (⟨blk_range (DF.out.m.drew.setRow_ne (fun e => DF.out.n27 e.symm) _), blk_range (DF.out.b6.drew.setRow_ne (blk_ne DF.out.b6 DF.out.b2 (by decide)) _)⟩) fun hHb => ?_
                  clear hK
                  simp only [Act.put, List.setIfInBounds_toArray, List.set_cons_zero, List.set_cons_succ]
                  refine wpAnyH_ready (rs := [3]) (by kernel_rfl) (by simp) ?_
                  refine AllReadyH.cons (o := ⟨none, Op.store 41 (Operand.tmp 3) (Operand.tmp 139), 0, _, _, none⟩) rfl (fun K hK => ?_) AllReadyH.nil
                  rw [if_pos (by rfl)]
                  refine wp_store_row 41 (.tmp 3) (.tmp 139) rfl g3 (erA E eb) (by simp [Act.eval]) (by simp [Act.eval]) 41 (erA 0 0) (DF.out.b3.drew.setRow_ne (blk_ne DF.out.b3 DF.out.b2 (by decide)) _) (Try.size41B _ _) (erA_sizes _ _ _ _) (erA_one _ _) ?_
                  refine hK.out _ _ (⟨blk_range ((DF.out.m.drew.setRow_ne (fun e => DF.out.n27 e.symm) _).setRow_ne (blk_ne DF.out.m DF.out.b3 (by decide)) _), blk_range ((DF.out.b6.drew.setRow_ne (blk_ne DF.out.b6 DF.out.b2 (by decide)) _).setRow_ne (fun e => DF.out.n36 e.symm) _)⟩) fun hHc => ?_
                  clear hK
                  simp only [Act.put, List.setIfInBounds_toArray, List.set_cons_zero, List.set_cons_succ]
                  refine wpAnyH_done (by kernel_rfl) ?_ _
                  refine hK66 _ _ ?_
                  refine wp_ret ?_
                  try simp only [Exit.then]
                  refine bodyPost_ret (v := .tuple #[.agg (msA ⟨k, .slice oa P.length oc, hor sl sl.length, .slice da dl.length dc, .slice ta Q5.length tc, noS⟩), .agg (erA E eb)]) (results_cell_cell_row Try.results14 _ _ g2 g3 28 41 _ _ (0, 0) (0, 0) _ _ rfl rfl ((DF.out.b2.drew.setRow (msA ⟨k, .slice oa P.length oc, hor sl sl.length, .slice da dl.length dc, .slice ta Q5.length tc, noS⟩)).setRow_ne (blk_ne DF.out.b2 DF.out.b3 (by decide)) _) ((DF.out.b3.drew.setRow_ne (blk_ne DF.out.b3 DF.out.b2 (by decide)) (msA ⟨k, .slice oa P.length oc, hor sl sl.length, .slice da dl.length dc, .slice ta Q5.length tc, noS⟩)).setRow _) Try.underlying28 rfl (Try.size28B _) Try.underlying41 rfl (Try.size41B _ _)) rfl ?_
                  refine ⟨below_setRow (below_setRow (DF.out.rx.bel.drew) DF.out.lo.1 _) DF.out.lo.2.1 _, .inl ⟨by rw [Hdec.out.1]; exact h26_2, _, ?_, HAt.out _ ?_⟩⟩
                  · rw [Heb.out, h26_2]; rfl
                  · exact (((Grown.refl w31 _).drew).trans (Grown.setRow w31.drew g2 _ fun _ => DF.out.hi.1)).trans (Grown.setRow _ g3 _ fun _ => DF.out.hi.2.1)
                · skip
                  refine WL.val (by kernel_rfl) (.bool true) (by go_simp) ?_
                  simp only [Act.put, List.setIfInBounds_toArray, List.set_cons_zero, List.set_cons_succ]
                  refine WL.nil ?_
                  refine hK65 _ _ ?_
                  refine wp_cond_true rfl ?_
                  refine wp_seq_k fun K67 hK67 => ?_
                  refine wp_region_held_drew (S := fun wx => wx.rangeAt g6 0 (erA E eb).toList) (by kernel_rfl) (blk_range DF.out.b6.drew) (fun hHeld => ?_)
                  refine wpAnyH_take (i := 0) (oi := ⟨some 136, Op.build 28 #[], 28, _, _, none⟩) (v := .agg (msA zeroC)) rfl (by kernel_rfl) (by kernel_rfl) (by kernel_rfl) (fun _ _ _ h => h) (Or.inl ⟨by rfl, fun w hS => by first | kernel_rfl | (have h := run_bldM w; go_simp)⟩) hHeld ?_
                  simp only [Act.put, List.setIfInBounds_toArray, List.set_cons_zero, List.set_cons_succ]
                  refine wpAnyH_take (i := 1) (oi := ⟨some 137, Op.load 41 (Operand.tmp 6), 41, _, _, none⟩) (v := .agg (erA E eb).toList.toArray) rfl (by kernel_rfl) (by kernel_rfl) (by kernel_rfl) (fun _ _ _ h => h) (yieldsIf_load_mid (by rfl) 41 (Operand.tmp 6) rfl g6 0 rfl (erA E eb).toList _ (fun w hS => hS) Try.underlying41 rfl (by rw [Array.length_toList]; exact Try.size41B _ _)) hHeld ?_
                  simp only [Act.put, List.setIfInBounds_toArray, List.set_cons_zero, List.set_cons_succ]
                  simp only [Array.toArray_toList]
                  refine wpAnyH_ready (rs := [2]) (by kernel_rfl) (by simp) ?_
                  refine AllReadyH.cons (o := ⟨none, Op.store 28 (Operand.tmp 2) (Operand.tmp 136), 0, _, _, none⟩) rfl (fun K hK => ?_) AllReadyH.nil
                  rw [if_pos (by rfl)]
                  refine wp_store_row 28 (.tmp 2) (.tmp 136) rfl g2 (msA zeroC) (by simp [Act.eval]) (by simp [Act.eval]) 28 (msA zeroC) DF.out.b2.drew (Try.size28B _) (ms_sizes _ _) (SlC.zero.one) ?_
                  refine hK.out _ _ (blk_range (DF.out.b6.drew.setRow_ne (blk_ne DF.out.b6 DF.out.b2 (by decide)) _)) fun hHb => ?_
                  clear hK
                  simp only [Act.put, List.setIfInBounds_toArray, List.set_cons_zero, List.set_cons_succ]
                  refine wpAnyH_ready (rs := [3]) (by kernel_rfl) (by simp) ?_
                  refine AllReadyH.cons (o := ⟨none, Op.store 41 (Operand.tmp 3) (Operand.tmp 137), 0, _, _, none⟩) rfl (fun K hK => ?_) AllReadyH.nil
                  rw [if_pos (by rfl)]
                  refine wp_store_row 41 (.tmp 3) (.tmp 137) rfl g3 (erA E eb) (by simp [Act.eval]) (by simp [Act.eval]) 41 (erA 0 0) (DF.out.b3.drew.setRow_ne (blk_ne DF.out.b3 DF.out.b2 (by decide)) _) (Try.size41B _ _) (erA_sizes _ _ _ _) (erA_one _ _) ?_
                  refine hK.out _ _ (blk_range ((DF.out.b6.drew.setRow_ne (blk_ne DF.out.b6 DF.out.b2 (by decide)) _).setRow_ne (fun e => DF.out.n36 e.symm) _)) fun hHc => ?_
                  clear hK
                  simp only [Act.put, List.setIfInBounds_toArray, List.set_cons_zero, List.set_cons_succ]
                  refine wpAnyH_done (by kernel_rfl) ?_ _
                  refine hK67 _ _ ?_
                  refine wp_ret ?_
                  try simp only [Exit.then]
                  refine bodyPost_ret (v := .tuple #[.agg (msA zeroC), .agg (erA E eb)]) (results_cell_cell_row Try.results14 _ _ g2 g3 28 41 _ _ (0, 0) (0, 0) _ _ rfl rfl ((DF.out.b2.drew.setRow (msA zeroC)).setRow_ne (blk_ne DF.out.b2 DF.out.b3 (by decide)) _) ((DF.out.b3.drew.setRow_ne (blk_ne DF.out.b3 DF.out.b2 (by decide)) (msA zeroC)).setRow _) Try.underlying28 rfl (Try.size28B _) Try.underlying41 rfl (Try.size41B _ _)) rfl ?_
                  refine ⟨below_setRow (below_setRow (DF.out.rx.bel.drew) DF.out.lo.1 _) DF.out.lo.2.1 _, .inr ⟨by rw [Hdec.out.1]; exact h26_2, ?_⟩⟩
                  rw [Hdec.out.1, Hdec.out.2, Heb.out, bOf_1 h26_2]
              · skip
                refine WL.val (by kernel_rfl) (.bool false) (by go_simp) ?_
                simp only [Act.put, List.setIfInBounds_toArray, List.set_cons_zero, List.set_cons_succ]
                refine WL.val (by kernel_rfl) (.bool false) (by go_simp) ?_
                simp only [Act.put, List.setIfInBounds_toArray, List.set_cons_zero, List.set_cons_succ]
                refine WL.skip (by kernel_rfl) ?_
                simp only [Act.put, List.setIfInBounds_toArray, List.set_cons_zero, List.set_cons_succ]
                refine WL.skip (by kernel_rfl) ?_
                simp only [Act.put, List.setIfInBounds_toArray, List.set_cons_zero, List.set_cons_succ]
                refine WL.val (by kernel_rfl) (.bool false) (by go_simp) ?_
                simp only [Act.put, List.setIfInBounds_toArray, List.set_cons_zero, List.set_cons_succ]
                refine WL.nil ?_
                refine hK58 _ _ ?_
                refine wp_cond_false rfl ?_
                refine wp_skip ?_
                refine hK57 _ _ ?_
                refine wp_region_list (WL.out ?_)
                refine WL.val (by kernel_rfl) (.slice da dl.length dc) (by go_simp) ?_
                simp only [Act.put, List.setIfInBounds_toArray, List.set_cons_zero, List.set_cons_succ]
                refine WL.val (by kernel_rfl) (.pointer (some ⟨g7, 3, none⟩)) (by go_simp) ?_
                simp only [Act.put, List.setIfInBounds_toArray, List.set_cons_zero, List.set_cons_succ]
                have c_o := D6.out.m.c 3 (ms_3 _)
                have f_o := D6.out.m.frozen 3
                refine WL.cell (by kernel_rfl) (w15.setCell ⟨g7, 3, none⟩ (.slice da dl.length dc)) (by go_simp) ?_
                clear c_o f_o
                have D8 : Keep (DS w g2 g3 x g6 g7 B0 (.slice va L.length vc) L y3 a3 W0 e0 (fun wx => MsAt wx { zeroM with k := k, hd := P, sa := hor sl sl.length, bl := dl } ⟨k, .slice oa P.length oc, hor sl sl.length, .slice da dl.length dc, noS, noS⟩) ⟨k, .slice oa P.length oc, hor sl sl.length, .slice da dl.length dc, noS, noS⟩ (w15.setCell ⟨g7, 3, none⟩ (.slice da dl.length dc))) := ⟨D6.out.setM (by have h := D6.out.m.set 3 (.slice da dl.length dc); rw [ms_set3] at h; exact h) (Grown.setCell w15 g7 3 _ fun _ => rfl) (fun wx hw => by have h := D6.out.at_ wx hw; exact ⟨rfl, rfl, h.hd, HD6.out.grown hw (fun k hk _ e => by have := HF5.out k hk; omega), h.wt, h.bk⟩)⟩
                generalize w15.setCell ⟨g7, 3, none⟩ (.slice da dl.length dc) = w17 at *
                have k0 := D8.out.m.c 0 (ms_0 _)
                have r2 := D8.out.rx.c2
                have hk3 : ¬ k = 3 := by omega
                simp only [Act.put]
                refine WL.nil ?_
                refine hK43 _ _ ?_
                refine wp_seq_k fun K68 hK68 => ?_
                refine wp_seq_k fun K69 hK69 => ?_
                have hk2' : k ≤ 2 := by omega
                refine wp_region_list (WL.out ?_)
                refine WL.val (by kernel_rfl) (.pointer (some ⟨g7, 0, none⟩)) (by go_simp) ?_
                simp only [Act.put, List.setIfInBounds_toArray, List.set_cons_zero, List.set_cons_succ]
                refine WL.val (by kernel_rfl) (.int .i64 k) (by go_simp) ?_
                simp only [Act.put, List.setIfInBounds_toArray, List.set_cons_zero, List.set_cons_succ]
                refine WL.val (by kernel_rfl) (.bool true) (by go_simp) ?_
                simp only [Act.put, List.setIfInBounds_toArray, List.set_cons_zero, List.set_cons_succ]
                refine WL.val (by kernel_rfl) (.bool true) (by go_simp) ?_
                simp only [Act.put, List.setIfInBounds_toArray, List.set_cons_zero, List.set_cons_succ]
                refine WL.val (by kernel_rfl) (.pointer (some ⟨x, 0, none⟩)) (by go_simp) ?_
                simp only [Act.put, List.setIfInBounds_toArray, List.set_cons_zero, List.set_cons_succ]
                refine WL.val (by kernel_rfl) (.pointer (some ⟨x, 0, none⟩)) (by go_simp) ?_
                simp only [Act.put, List.setIfInBounds_toArray, List.set_cons_zero, List.set_cons_succ]
                refine WL.val (by kernel_rfl) (.pointer (some ⟨x, 2, none⟩)) (by go_simp) ?_
                simp only [Act.put, List.setIfInBounds_toArray, List.set_cons_zero, List.set_cons_succ]
                refine WL.val (by kernel_rfl) (.pointer (some ⟨x, 2, none⟩)) (by go_simp) ?_
                simp only [Act.put, List.setIfInBounds_toArray, List.set_cons_zero, List.set_cons_succ]
                refine WL.val (by kernel_rfl) (.int .i64 y3) (by go_simp) ?_
                simp only [Act.put, List.setIfInBounds_toArray, List.set_cons_zero, List.set_cons_succ]
                refine WL.val (by kernel_rfl) (.bool false) (by go_simp) ?_
                simp only [Act.put, List.setIfInBounds_toArray, List.set_cons_zero, List.set_cons_succ]
                refine WL.val (by kernel_rfl) (.bool false) (by go_simp) ?_
                simp only [Act.put, List.setIfInBounds_toArray, List.set_cons_zero, List.set_cons_succ]
                refine WL.nil ?_
                refine hK69 _ _ ?_
                refine wp_cond_false rfl ?_
                refine wp_skip ?_
                refine hK68 _ _ ?_
                refine wp_seq_k fun K70 hK70 => ?_
                refine wp_seq_k fun K71 hK71 => ?_
                refine wp_region_list (WL.out ?_)
                refine WL.val (by kernel_rfl) (.pointer (some ⟨g7, 0, none⟩)) (by go_simp) ?_
                simp only [Act.put, List.setIfInBounds_toArray, List.set_cons_zero, List.set_cons_succ]
                refine WL.val (by kernel_rfl) (.int .i64 k) (by go_simp) ?_
                simp only [Act.put, List.setIfInBounds_toArray, List.set_cons_zero, List.set_cons_succ]
                refine WL.val (by kernel_rfl) (.bool false) (by go_simp) ?_
                simp only [Act.put, List.setIfInBounds_toArray, List.set_cons_zero, List.set_cons_succ]
                refine WL.val (by kernel_rfl) (.bool false) (by go_simp) ?_
                simp only [Act.put, List.setIfInBounds_toArray, List.set_cons_zero, List.set_cons_succ]
                refine WL.skip (by kernel_rfl) ?_
                simp only [Act.put, List.setIfInBounds_toArray, List.set_cons_zero, List.set_cons_succ]
                refine WL.skip (by kernel_rfl) ?_
                simp only [Act.put, List.setIfInBounds_toArray, List.set_cons_zero, List.set_cons_succ]
                refine WL.skip (by kernel_rfl) ?_
                simp only [Act.put, List.setIfInBounds_toArray, List.set_cons_zero, List.set_cons_succ]
                refine WL.skip (by kernel_rfl) ?_
                simp only [Act.put, List.setIfInBounds_toArray, List.set_cons_zero, List.set_cons_succ]
                refine WL.skip (by kernel_rfl) ?_
                simp only [Act.put, List.setIfInBounds_toArray, List.set_cons_zero, List.set_cons_succ]
                refine WL.skip (by kernel_rfl) ?_
                simp only [Act.put, List.setIfInBounds_toArray, List.set_cons_zero, List.set_cons_succ]
                refine WL.val (by kernel_rfl) (.bool false) (by go_simp) ?_
                simp only [Act.put, List.setIfInBounds_toArray, List.set_cons_zero, List.set_cons_succ]
                refine WL.nil ?_
                refine hK71 _ _ ?_
                refine wp_cond_false rfl ?_
                refine wp_skip ?_
                refine hK70 _ _ ?_
                refine wp_seq_k fun K72 hK72 => ?_
                obtain ⟨E, hE⟩ : ∃ E, E = stEnd L y3 a3 := ⟨_, rfl⟩
                have HC9 := Keep.mk (xend_y D8.out.rx)
                rw [← hE] at HC9
                obtain ⟨eb, heb⟩ : ∃ eb, eb = bOf E a3 := ⟨_, rfl⟩
                rw [← heb] at HC9
                have Heb := Keep.mk heb
                clear heb
                have hnw : nextW L 1 = 0 := by rw [← hW0.out]; exact h5_2
                have hL0 : L.getD 0 0 = k := by have h := hk.out; rw [if_pos h5_2] at h; exact h.symm
                have hhas : hasI (L.getD 0 0) = [0, 1, 2, 3] := by rw [hL0, hk1]; rfl
                have hd := decM_of hnw (by rw [hhas]; simp) _ rfl
                rw [hhas, hL0] at hd
                have hr1 := ref1_is { zeroM with k := k } HE1.out HE2.out HE3.out
                have hr2 := hr1.1 h18_2
                rw [hr2.1, hr2.2] at hd
                have hEn : ¬ E = 0 := by rw [hE, stEnd, if_neg h18_2]; exact h18_2
                have Hdec : Keep ((decM L).1 = E ∧ (decM L).2.1 = a3) := ⟨by rw [hE]; exact ⟨hd.1, hd.2.1⟩⟩
                clear hr1
                clear hd hhas hnw hL0
                clear hE
                have h26_2 := hEn
                refine wp_region_list (WL.out ?_)
                refine WL.val (by kernel_rfl) (.pointer (some ⟨x, 0, none⟩)) (by go_simp) ?_
                simp only [Act.put, List.setIfInBounds_toArray, List.set_cons_zero, List.set_cons_succ]
                refine WL.callF (by kernel_rfl) 44 _ _ rfl Try.in44 #[ptr x] (by simp [Act.eval]) ?_
                refine (HC9.out).mono ?_
                rintro e w30 ⟨rfl, h1, h2⟩
                refine ⟨_, rfl, ?_⟩
                have DE := Keep.mk (D8.out.rd h1 h2)
                clear h1 h2 HC9
                simp only [Act.put, List.setIfInBounds_toArray, List.set_cons_zero, List.set_cons_succ]
                refine WL.storeR (by kernel_rfl) 41 (.tmp 6) (.tmp 132) rfl g6 (erA E eb) rfl rfl 41 (erA W0 e0) DE.out.b6 (Try.size41B _ _) (erA_sizes _ _ _ _) (erA_one _ _) ?_
                have DF := Keep.mk (DE.out.setE E eb)
                generalize w30.setRow g6 (erA E eb) = w31 at *
                have e6 : w31.cell? ⟨g6, 0, none⟩ = some (.int .i64 E) := DF.out.b6.c 0 rfl
                simp only [Act.put]
                refine WL.nil ?_
                refine hK72 _ _ ?_
                refine wp_seq_k fun K73 hK73 => ?_
                refine wp_seq_k fun K74 hK74 => ?_
                refine wp_region_list (WL.out ?_)
                refine WL.val (by kernel_rfl) (.pointer (some ⟨g6, 0, none⟩)) (by go_simp) ?_
                simp only [Act.put, List.setIfInBounds_toArray, List.set_cons_zero, List.set_cons_succ]
                refine WL.val (by kernel_rfl) (.int .i64 E) (by go_simp) ?_
                simp only [Act.put, List.setIfInBounds_toArray, List.set_cons_zero, List.set_cons_succ]
                refine WL.val (by kernel_rfl) (.bool true) (by go_simp) ?_
                simp only [Act.put, List.setIfInBounds_toArray, List.set_cons_zero, List.set_cons_succ]
                refine WL.nil ?_
                refine hK74 _ _ ?_
                refine wp_cond_true rfl ?_
                refine wp_seq_k fun K75 hK75 => ?_
                refine wp_region_held_drew (S := fun wx => wx.rangeAt g6 0 (erA E eb).toList) (by kernel_rfl) (blk_range DF.out.b6.drew) (fun hHeld => ?_)
                refine wpAnyH_take (i := 0) (oi := ⟨some 136, Op.build 28 #[], 28, _, _, none⟩) (v := .agg (msA zeroC)) rfl (by kernel_rfl) (by kernel_rfl) (by kernel_rfl) (fun _ _ _ h => h) (Or.inl ⟨by rfl, fun w hS => by first | kernel_rfl | (have h := run_bldM w; go_simp)⟩) hHeld ?_
                simp only [Act.put, List.setIfInBounds_toArray, List.set_cons_zero, List.set_cons_succ]
                refine wpAnyH_take (i := 1) (oi := ⟨some 137, Op.load 41 (Operand.tmp 6), 41, _, _, none⟩) (v := .agg (erA E eb).toList.toArray) rfl (by kernel_rfl) (by kernel_rfl) (by kernel_rfl) (fun _ _ _ h => h) (yieldsIf_load_mid (by rfl) 41 (Operand.tmp 6) rfl g6 0 rfl (erA E eb).toList _ (fun w hS => hS) Try.underlying41 rfl (by rw [Array.length_toList]; exact Try.size41B _ _)) hHeld ?_
                simp only [Act.put, List.setIfInBounds_toArray, List.set_cons_zero, List.set_cons_succ]
                simp only [Array.toArray_toList]
                refine wpAnyH_ready (rs := [2]) (by kernel_rfl) (by simp) ?_
                refine AllReadyH.cons (o := ⟨none, Op.store 28 (Operand.tmp 2) (Operand.tmp 136), 0, _, _, none⟩) rfl (fun K hK => ?_) AllReadyH.nil
                rw [if_pos (by rfl)]
                refine wp_store_row 28 (.tmp 2) (.tmp 136) rfl g2 (msA zeroC) (by simp [Act.eval]) (by simp [Act.eval]) 28 (msA zeroC) DF.out.b2.drew (Try.size28B _) (ms_sizes _ _) (SlC.zero.one) ?_
                refine hK.out _ _ (blk_range (DF.out.b6.drew.setRow_ne (blk_ne DF.out.b6 DF.out.b2 (by decide)) _)) fun hHb => ?_
                clear hK
                simp only [Act.put, List.setIfInBounds_toArray, List.set_cons_zero, List.set_cons_succ]
                refine wpAnyH_ready (rs := [3]) (by kernel_rfl) (by simp) ?_
                refine AllReadyH.cons (o := ⟨none, Op.store 41 (Operand.tmp 3) (Operand.tmp 137), 0, _, _, none⟩) rfl (fun K hK => ?_) AllReadyH.nil
                rw [if_pos (by rfl)]
                refine wp_store_row 41 (.tmp 3) (.tmp 137) rfl g3 (erA E eb) (by simp [Act.eval]) (by simp [Act.eval]) 41 (erA 0 0) (DF.out.b3.drew.setRow_ne (blk_ne DF.out.b3 DF.out.b2 (by decide)) _) (Try.size41B _ _) (erA_sizes _ _ _ _) (erA_one _ _) ?_
                refine hK.out _ _ (blk_range ((DF.out.b6.drew.setRow_ne (blk_ne DF.out.b6 DF.out.b2 (by decide)) _).setRow_ne (fun e => DF.out.n36 e.symm) _)) fun hHc => ?_
                clear hK
                simp only [Act.put, List.setIfInBounds_toArray, List.set_cons_zero, List.set_cons_succ]
                refine wpAnyH_done (by kernel_rfl) ?_ _
                refine hK75 _ _ ?_
                refine wp_ret ?_
                try simp only [Exit.then]
                refine bodyPost_ret (v := .tuple #[.agg (msA zeroC), .agg (erA E eb)]) (results_cell_cell_row Try.results14 _ _ g2 g3 28 41 _ _ (0, 0) (0, 0) _ _ rfl rfl ((DF.out.b2.drew.setRow (msA zeroC)).setRow_ne (blk_ne DF.out.b2 DF.out.b3 (by decide)) _) ((DF.out.b3.drew.setRow_ne (blk_ne DF.out.b3 DF.out.b2 (by decide)) (msA zeroC)).setRow _) Try.underlying28 rfl (Try.size28B _) Try.underlying41 rfl (Try.size41B _ _)) rfl ?_
                refine ⟨below_setRow (below_setRow (DF.out.rx.bel.drew) DF.out.lo.1 _) DF.out.lo.2.1 _, .inr ⟨by rw [Hdec.out.1]; exact h26_2, ?_⟩⟩
                rw [Hdec.out.1, Hdec.out.2, Heb.out, bOf_1 h26_2]
            · rw [hp] at HCd
              refine wp_region_list (WL.out ?_)
              refine WL.val (by kernel_rfl) (.slice da dl.length dc) (by go_simp) ?_
              simp only [Act.put, List.setIfInBounds_toArray, List.set_cons_zero, List.set_cons_succ]
              refine WL.callF (by kernel_rfl) 42 _ _ rfl Try.in42 #[.slice da dl.length dc] (by simp [Act.eval]) ?_
              refine (HCd.out).mono ?_
              rintro e w0 ⟨rfl, hw0⟩
              rw [hw0]
              clear hw0 w0
              refine ⟨_, rfl, ?_⟩
              simp only [Act.put, List.setIfInBounds_toArray, List.set_cons_zero, List.set_cons_succ]
              refine WL.val (by kernel_rfl) (.bool false) (by go_simp) ?_
              simp only [Act.put, List.setIfInBounds_toArray, List.set_cons_zero, List.set_cons_succ]
              refine WL.nil ?_
              refine hK56 _ _ ?_
              refine wp_seq_k fun K76 hK76 => ?_
              refine wp_seq_k fun K77 hK77 => ?_
              refine wp_region_list (WL.out ?_)
              refine WL.val (by kernel_rfl) (.pointer (some ⟨g13, 0, none⟩)) (by go_simp) ?_
              simp only [Act.put, List.setIfInBounds_toArray, List.set_cons_zero, List.set_cons_succ]
              refine WL.val (by kernel_rfl) (.int .i64 y3) (by go_simp) ?_
              simp only [Act.put, List.setIfInBounds_toArray, List.set_cons_zero, List.set_cons_succ]
              by_cases h18_2 : y3 = 0
              · skip
                refine WL.val (by kernel_rfl) (.bool true) (by go_simp) ?_
                simp only [Act.put, List.setIfInBounds_toArray, List.set_cons_zero, List.set_cons_succ]
                refine WL.val (by kernel_rfl) (.bool true) (by go_simp) ?_
                simp only [Act.put, List.setIfInBounds_toArray, List.set_cons_zero, List.set_cons_succ]
                refine WL.val (by kernel_rfl) (.bool false) (by go_simp) ?_
                simp only [Act.put, List.setIfInBounds_toArray, List.set_cons_zero, List.set_cons_succ]
                refine WL.val (by kernel_rfl) (.bool true) (by go_simp) ?_
                simp only [Act.put, List.setIfInBounds_toArray, List.set_cons_zero, List.set_cons_succ]
                refine WL.val (by kernel_rfl) (.bool true) (by go_simp) ?_
                simp only [Act.put, List.setIfInBounds_toArray, List.set_cons_zero, List.set_cons_succ]
                refine WL.nil ?_
                refine hK77 _ _ ?_
                refine wp_cond_true rfl ?_
                refine wp_region_list (WL.out ?_)
                refine WL.val (by kernel_rfl) (.pointer (some ⟨x, 0, none⟩)) (by go_simp) ?_
                simp only [Act.put, List.setIfInBounds_toArray, List.set_cons_zero, List.set_cons_succ]
                refine WL.val (by kernel_rfl) (.int .i64 (a2 : Int)) (by go_simp) ?_
                simp only [Act.put, List.setIfInBounds_toArray, List.set_cons_zero, List.set_cons_succ]
                refine WL.callF (by kernel_rfl) 38 _ _ rfl Try.in38 #[ptr x, .int .i64 60, .int .i64 (a2 : Int)] (by simp [Act.eval]) ?_
                refine (xwrong_x a2 60 (by decide) HDr.out.rx.le (by have h := D6.out.rx; rw [h18_2] at h; exact h)).mono ?_
                rintro e w16 ⟨rfl, h1, h2⟩
                refine ⟨_, rfl, ?_⟩
                have D7 := Keep.mk (D6.out.rd h1 h2)
                have HD7 := Keep.mk (HD6.out.grown h2 (fun k hk _ e => by have := HF5.out k hk; have := D6.out.hi.2.2.2.2.1; omega))
                clear h1 h2 e30
                simp only [Act.put, List.setIfInBounds_toArray, List.set_cons_zero, List.set_cons_succ]
                refine WL.nil ?_
                refine hK76 _ _ ?_
                refine wp_region_list (WL.out ?_)
                refine WL.val (by kernel_rfl) (.slice da dl.length dc) (by go_simp) ?_
                simp only [Act.put, List.setIfInBounds_toArray, List.set_cons_zero, List.set_cons_succ]
                refine WL.val (by kernel_rfl) (.pointer (some ⟨g7, 3, none⟩)) (by go_simp) ?_
                simp only [Act.put, List.setIfInBounds_toArray, List.set_cons_zero, List.set_cons_succ]
                have c_o := D7.out.m.c 3 (ms_3 _)
                have f_o := D7.out.m.frozen 3
                refine WL.cell (by kernel_rfl) (w16.setCell ⟨g7, 3, none⟩ (.slice da dl.length dc)) (by go_simp) ?_
                clear c_o f_o
                have D8 : Keep (DS w g2 g3 x g6 g7 B0 (.slice va L.length vc) L 60 a2 W0 e0 (fun wx => MsAt wx { zeroM with k := k, hd := P, sa := hor sl sl.length, bl := dl } ⟨k, .slice oa P.length oc, hor sl sl.length, .slice da dl.length dc, noS, noS⟩) ⟨k, .slice oa P.length oc, hor sl sl.length, .slice da dl.length dc, noS, noS⟩ (w16.setCell ⟨g7, 3, none⟩ (.slice da dl.length dc))) := ⟨D7.out.setM (by have h := D7.out.m.set 3 (.slice da dl.length dc); rw [ms_set3] at h; exact h) (Grown.setCell w16 g7 3 _ fun _ => rfl) (fun wx hw => by have h := D7.out.at_ wx hw; exact ⟨rfl, rfl, h.hd, HD7.out.grown hw (fun k hk _ e => by have := HF5.out k hk; omega), h.wt, h.bk⟩)⟩
                generalize w16.setCell ⟨g7, 3, none⟩ (.slice da dl.length dc) = w17 at *
                have k0 := D8.out.m.c 0 (ms_0 _)
                have r2 := D8.out.rx.c2
                have hk3 : ¬ k = 3 := by omega
                simp only [Act.put]
                refine WL.nil ?_
                refine hK43 _ _ ?_
                refine wp_seq_k fun K78 hK78 => ?_
                refine wp_seq_k fun K79 hK79 => ?_
                have hk2' : k ≤ 2 := by omega
                refine wp_region_list (WL.out ?_)
                refine WL.val (by kernel_rfl) (.pointer (some ⟨g7, 0, none⟩)) (by go_simp) ?_
                simp only [Act.put, List.setIfInBounds_toArray, List.set_cons_zero, List.set_cons_succ]
                refine WL.val (by kernel_rfl) (.int .i64 k) (by go_simp) ?_
                simp only [Act.put, List.setIfInBounds_toArray, List.set_cons_zero, List.set_cons_succ]
                refine WL.val (by kernel_rfl) (.bool true) (by go_simp) ?_
                simp only [Act.put, List.setIfInBounds_toArray, List.set_cons_zero, List.set_cons_succ]
                refine WL.val (by kernel_rfl) (.bool true) (by go_simp) ?_
                simp only [Act.put, List.setIfInBounds_toArray, List.set_cons_zero, List.set_cons_succ]
                refine WL.val (by kernel_rfl) (.pointer (some ⟨x, 0, none⟩)) (by go_simp) ?_
                simp only [Act.put, List.setIfInBounds_toArray, List.set_cons_zero, List.set_cons_succ]
                refine WL.val (by kernel_rfl) (.pointer (some ⟨x, 0, none⟩)) (by go_simp) ?_
                simp only [Act.put, List.setIfInBounds_toArray, List.set_cons_zero, List.set_cons_succ]
                refine WL.val (by kernel_rfl) (.pointer (some ⟨x, 2, none⟩)) (by go_simp) ?_
                simp only [Act.put, List.setIfInBounds_toArray, List.set_cons_zero, List.set_cons_succ]
                refine WL.val (by kernel_rfl) (.pointer (some ⟨x, 2, none⟩)) (by go_simp) ?_
                simp only [Act.put, List.setIfInBounds_toArray, List.set_cons_zero, List.set_cons_succ]
                refine WL.val (by kernel_rfl) (.int .i64 60) (by go_simp) ?_
                simp only [Act.put, List.setIfInBounds_toArray, List.set_cons_zero, List.set_cons_succ]
                refine WL.val (by kernel_rfl) (.bool false) (by go_simp) ?_
                simp only [Act.put, List.setIfInBounds_toArray, List.set_cons_zero, List.set_cons_succ]
                refine WL.val (by kernel_rfl) (.bool false) (by go_simp) ?_
                simp only [Act.put, List.setIfInBounds_toArray, List.set_cons_zero, List.set_cons_succ]
                refine WL.nil ?_
                refine hK79 _ _ ?_
                refine wp_cond_false rfl ?_
                refine wp_skip ?_
                refine hK78 _ _ ?_
                refine wp_seq_k fun K80 hK80 => ?_
                refine wp_seq_k fun K81 hK81 => ?_
                refine wp_region_list (WL.out ?_)
                refine WL.val (by kernel_rfl) (.pointer (some ⟨g7, 0, none⟩)) (by go_simp) ?_
                simp only [Act.put, List.setIfInBounds_toArray, List.set_cons_zero, List.set_cons_succ]
                refine WL.val (by kernel_rfl) (.int .i64 k) (by go_simp) ?_
                simp only [Act.put, List.setIfInBounds_toArray, List.set_cons_zero, List.set_cons_succ]
                refine WL.val (by kernel_rfl) (.bool false) (by go_simp) ?_
                simp only [Act.put, List.setIfInBounds_toArray, List.set_cons_zero, List.set_cons_succ]
                refine WL.val (by kernel_rfl) (.bool false) (by go_simp) ?_
                simp only [Act.put, List.setIfInBounds_toArray, List.set_cons_zero, List.set_cons_succ]
                refine WL.skip (by kernel_rfl) ?_
                simp only [Act.put, List.setIfInBounds_toArray, List.set_cons_zero, List.set_cons_succ]
                refine WL.skip (by kernel_rfl) ?_
                simp only [Act.put, List.setIfInBounds_toArray, List.set_cons_zero, List.set_cons_succ]
                refine WL.skip (by kernel_rfl) ?_
                simp only [Act.put, List.setIfInBounds_toArray, List.set_cons_zero, List.set_cons_succ]
                refine WL.skip (by kernel_rfl) ?_
                simp only [Act.put, List.setIfInBounds_toArray, List.set_cons_zero, List.set_cons_succ]
                refine WL.skip (by kernel_rfl) ?_
                simp only [Act.put, List.setIfInBounds_toArray, List.set_cons_zero, List.set_cons_succ]
                refine WL.skip (by kernel_rfl) ?_
                simp only [Act.put, List.setIfInBounds_toArray, List.set_cons_zero, List.set_cons_succ]
                refine WL.val (by kernel_rfl) (.bool false) (by go_simp) ?_
                simp only [Act.put, List.setIfInBounds_toArray, List.set_cons_zero, List.set_cons_succ]
                refine WL.nil ?_
                refine hK81 _ _ ?_
                refine wp_cond_false rfl ?_
                refine wp_skip ?_
                refine hK80 _ _ ?_
                refine wp_seq_k fun K82 hK82 => ?_
                obtain ⟨E, hE⟩ : ∃ E, E = stEnd L 60 a2 := ⟨_, rfl⟩
                have HC9 := Keep.mk (xend_y D8.out.rx)
                rw [← hE] at HC9
                obtain ⟨eb, heb⟩ : ∃ eb, eb = bOf E a2 := ⟨_, rfl⟩
                rw [← heb] at HC9
                have Heb := Keep.mk heb
                clear heb
                have hnw : nextW L 1 = 0 := by rw [← hW0.out]; exact h5_2
                have hL0 : L.getD 0 0 = k := by have h := hk.out; rw [if_pos h5_2] at h; exact h.symm
                have hhas : hasI (L.getD 0 0) = [0, 1, 2, 3] := by rw [hL0, hk1]; rfl
                have hd := decM_of hnw (by rw [hhas]; simp) _ rfl
                rw [hhas, hL0] at hd
                have hr1 := ref1_is { zeroM with k := k } HE1.out HE2.out HE3.out
                have hr2 := hr1.2.1 h18_2 hp
                rw [hr2.1, hr2.2] at hd
                have hEn : ¬ E = 0 := by rw [hE, stEnd, if_neg (by decide)]; decide
                have Hdec : Keep ((decM L).1 = E ∧ (decM L).2.1 = a2) := ⟨by rw [hE]; exact ⟨hd.1, hd.2.1⟩⟩
                clear hr1
                clear hd hhas hnw hL0
                clear hE
                have h26_2 := hEn
                refine wp_region_list (WL.out ?_)
                refine WL.val (by kernel_rfl) (.pointer (some ⟨x, 0, none⟩)) (by go_simp) ?_
                simp only [Act.put, List.setIfInBounds_toArray, List.set_cons_zero, List.set_cons_succ]
                refine WL.callF (by kernel_rfl) 44 _ _ rfl Try.in44 #[ptr x] (by simp [Act.eval]) ?_
                refine (HC9.out).mono ?_
                rintro e w30 ⟨rfl, h1, h2⟩
                refine ⟨_, rfl, ?_⟩
                have DE := Keep.mk (D8.out.rd h1 h2)
                clear h1 h2 HC9
                simp only [Act.put, List.setIfInBounds_toArray, List.set_cons_zero, List.set_cons_succ]
                refine WL.storeR (by kernel_rfl) 41 (.tmp 6) (.tmp 132) rfl g6 (erA E eb) rfl rfl 41 (erA W0 e0) DE.out.b6 (Try.size41B _ _) (erA_sizes _ _ _ _) (erA_one _ _) ?_
                have DF := Keep.mk (DE.out.setE E eb)
                generalize w30.setRow g6 (erA E eb) = w31 at *
                have e6 : w31.cell? ⟨g6, 0, none⟩ = some (.int .i64 E) := DF.out.b6.c 0 rfl
                simp only [Act.put]
                refine WL.nil ?_
                refine hK82 _ _ ?_
                refine wp_seq_k fun K83 hK83 => ?_
                refine wp_seq_k fun K84 hK84 => ?_
                refine wp_region_list (WL.out ?_)
                refine WL.val (by kernel_rfl) (.pointer (some ⟨g6, 0, none⟩)) (by go_simp) ?_
                simp only [Act.put, List.setIfInBounds_toArray, List.set_cons_zero, List.set_cons_succ]
                refine WL.val (by kernel_rfl) (.int .i64 E) (by go_simp) ?_
                simp only [Act.put, List.setIfInBounds_toArray, List.set_cons_zero, List.set_cons_succ]
                refine WL.val (by kernel_rfl) (.bool true) (by go_simp) ?_
                simp only [Act.put, List.setIfInBounds_toArray, List.set_cons_zero, List.set_cons_succ]
                refine WL.nil ?_
                refine hK84 _ _ ?_
                refine wp_cond_true rfl ?_
                refine wp_seq_k fun K85 hK85 => ?_
                refine wp_region_held_drew (S := fun wx => wx.rangeAt g6 0 (erA E eb).toList) (by kernel_rfl) (blk_range DF.out.b6.drew) (fun hHeld => ?_)
                refine wpAnyH_take (i := 0) (oi := ⟨some 136, Op.build 28 #[], 28, _, _, none⟩) (v := .agg (msA zeroC)) rfl (by kernel_rfl) (by kernel_rfl) (by kernel_rfl) (fun _ _ _ h => h) (Or.inl ⟨by rfl, fun w hS => by first | kernel_rfl | (have h := run_bldM w; go_simp)⟩) hHeld ?_
                simp only [Act.put, List.setIfInBounds_toArray, List.set_cons_zero, List.set_cons_succ]
                refine wpAnyH_take (i := 1) (oi := ⟨some 137, Op.load 41 (Operand.tmp 6), 41, _, _, none⟩) (v := .agg (erA E eb).toList.toArray) rfl (by kernel_rfl) (by kernel_rfl) (by kernel_rfl) (fun _ _ _ h => h) (yieldsIf_load_mid (by rfl) 41 (Operand.tmp 6) rfl g6 0 rfl (erA E eb).toList _ (fun w hS => hS) Try.underlying41 rfl (by rw [Array.length_toList]; exact Try.size41B _ _)) hHeld ?_
                simp only [Act.put, List.setIfInBounds_toArray, List.set_cons_zero, List.set_cons_succ]
                simp only [Array.toArray_toList]
                refine wpAnyH_ready (rs := [2]) (by kernel_rfl) (by simp) ?_
                refine AllReadyH.cons (o := ⟨none, Op.store 28 (Operand.tmp 2) (Operand.tmp 136), 0, _, _, none⟩) rfl (fun K hK => ?_) AllReadyH.nil
                rw [if_pos (by rfl)]
                refine wp_store_row 28 (.tmp 2) (.tmp 136) rfl g2 (msA zeroC) (by simp [Act.eval]) (by simp [Act.eval]) 28 (msA zeroC) DF.out.b2.drew (Try.size28B _) (ms_sizes _ _) (SlC.zero.one) ?_
                refine hK.out _ _ (blk_range (DF.out.b6.drew.setRow_ne (blk_ne DF.out.b6 DF.out.b2 (by decide)) _)) fun hHb => ?_
                clear hK
                simp only [Act.put, List.setIfInBounds_toArray, List.set_cons_zero, List.set_cons_succ]
                refine wpAnyH_ready (rs := [3]) (by kernel_rfl) (by simp) ?_
                refine AllReadyH.cons (o := ⟨none, Op.store 41 (Operand.tmp 3) (Operand.tmp 137), 0, _, _, none⟩) rfl (fun K hK => ?_) AllReadyH.nil
                rw [if_pos (by rfl)]
                refine wp_store_row 41 (.tmp 3) (.tmp 137) rfl g3 (erA E eb) (by simp [Act.eval]) (by simp [Act.eval]) 41 (erA 0 0) (DF.out.b3.drew.setRow_ne (blk_ne DF.out.b3 DF.out.b2 (by decide)) _) (Try.size41B _ _) (erA_sizes _ _ _ _) (erA_one _ _) ?_
                refine hK.out _ _ (blk_range ((DF.out.b6.drew.setRow_ne (blk_ne DF.out.b6 DF.out.b2 (by decide)) _).setRow_ne (fun e => DF.out.n36 e.symm) _)) fun hHc => ?_
                clear hK
                simp only [Act.put, List.setIfInBounds_toArray, List.set_cons_zero, List.set_cons_succ]
                refine wpAnyH_done (by kernel_rfl) ?_ _
                refine hK85 _ _ ?_
                refine wp_ret ?_
                try simp only [Exit.then]
                refine bodyPost_ret (v := .tuple #[.agg (msA zeroC), .agg (erA E eb)]) (results_cell_cell_row Try.results14 _ _ g2 g3 28 41 _ _ (0, 0) (0, 0) _ _ rfl rfl ((DF.out.b2.drew.setRow (msA zeroC)).setRow_ne (blk_ne DF.out.b2 DF.out.b3 (by decide)) _) ((DF.out.b3.drew.setRow_ne (blk_ne DF.out.b3 DF.out.b2 (by decide)) (msA zeroC)).setRow _) Try.underlying28 rfl (Try.size28B _) Try.underlying41 rfl (Try.size41B _ _)) rfl ?_
                refine ⟨below_setRow (below_setRow (DF.out.rx.bel.drew) DF.out.lo.1 _) DF.out.lo.2.1 _, .inr ⟨by rw [Hdec.out.1]; exact h26_2, ?_⟩⟩
                rw [Hdec.out.1, Hdec.out.2, Heb.out, bOf_1 h26_2]
              · skip
                refine WL.val (by kernel_rfl) (.bool false) (by go_simp) ?_
                simp only [Act.put, List.setIfInBounds_toArray, List.set_cons_zero, List.set_cons_succ]
                refine WL.val (by kernel_rfl) (.bool false) (by go_simp) ?_
                simp only [Act.put, List.setIfInBounds_toArray, List.set_cons_zero, List.set_cons_succ]
                refine WL.skip (by kernel_rfl) ?_
                simp only [Act.put, List.setIfInBounds_toArray, List.set_cons_zero, List.set_cons_succ]
                refine WL.skip (by kernel_rfl) ?_
                simp only [Act.put, List.setIfInBounds_toArray, List.set_cons_zero, List.set_cons_succ]
                refine WL.val (by kernel_rfl) (.bool false) (by go_simp) ?_
                simp only [Act.put, List.setIfInBounds_toArray, List.set_cons_zero, List.set_cons_succ]
                refine WL.nil ?_
                refine hK77 _ _ ?_
                refine wp_cond_false rfl ?_
                refine wp_skip ?_
                refine hK76 _ _ ?_
                refine wp_region_list (WL.out ?_)
                refine WL.val (by kernel_rfl) (.slice da dl.length dc) (by go_simp) ?_
                simp only [Act.put, List.setIfInBounds_toArray, List.set_cons_zero, List.set_cons_succ]
                refine WL.val (by kernel_rfl) (.pointer (some ⟨g7, 3, none⟩)) (by go_simp) ?_
                simp only [Act.put, List.setIfInBounds_toArray, List.set_cons_zero, List.set_cons_succ]
                have c_o := D6.out.m.c 3 (ms_3 _)
                have f_o := D6.out.m.frozen 3
                refine WL.cell (by kernel_rfl) (w15.setCell ⟨g7, 3, none⟩ (.slice da dl.length dc)) (by go_simp) ?_
                clear c_o f_o
                have D8 : Keep (DS w g2 g3 x g6 g7 B0 (.slice va L.length vc) L y3 a3 W0 e0 (fun wx => MsAt wx { zeroM with k := k, hd := P, sa := hor sl sl.length, bl := dl } ⟨k, .slice oa P.length oc, hor sl sl.length, .slice da dl.length dc, noS, noS⟩) ⟨k, .slice oa P.length oc, hor sl sl.length, .slice da dl.length dc, noS, noS⟩ (w15.setCell ⟨g7, 3, none⟩ (.slice da dl.length dc))) := ⟨D6.out.setM (by have h := D6.out.m.set 3 (.slice da dl.length dc); rw [ms_set3] at h; exact h) (Grown.setCell w15 g7 3 _ fun _ => rfl) (fun wx hw => by have h := D6.out.at_ wx hw; exact ⟨rfl, rfl, h.hd, HD6.out.grown hw (fun k hk _ e => by have := HF5.out k hk; omega), h.wt, h.bk⟩)⟩
                generalize w15.setCell ⟨g7, 3, none⟩ (.slice da dl.length dc) = w17 at *
                have k0 := D8.out.m.c 0 (ms_0 _)
                have r2 := D8.out.rx.c2
                have hk3 : ¬ k = 3 := by omega
                simp only [Act.put]
                refine WL.nil ?_
                refine hK43 _ _ ?_
                refine wp_seq_k fun K86 hK86 => ?_
                refine wp_seq_k fun K87 hK87 => ?_
                have hk2' : k ≤ 2 := by omega
                refine wp_region_list (WL.out ?_)
                refine WL.val (by kernel_rfl) (.pointer (some ⟨g7, 0, none⟩)) (by go_simp) ?_
                simp only [Act.put, List.setIfInBounds_toArray, List.set_cons_zero, List.set_cons_succ]
                refine WL.val (by kernel_rfl) (.int .i64 k) (by go_simp) ?_
                simp only [Act.put, List.setIfInBounds_toArray, List.set_cons_zero, List.set_cons_succ]
                refine WL.val (by kernel_rfl) (.bool true) (by go_simp) ?_
                simp only [Act.put, List.setIfInBounds_toArray, List.set_cons_zero, List.set_cons_succ]
                refine WL.val (by kernel_rfl) (.bool true) (by go_simp) ?_
                simp only [Act.put, List.setIfInBounds_toArray, List.set_cons_zero, List.set_cons_succ]
                refine WL.val (by kernel_rfl) (.pointer (some ⟨x, 0, none⟩)) (by go_simp) ?_
                simp only [Act.put, List.setIfInBounds_toArray, List.set_cons_zero, List.set_cons_succ]
                refine WL.val (by kernel_rfl) (.pointer (some ⟨x, 0, none⟩)) (by go_simp) ?_
                simp only [Act.put, List.setIfInBounds_toArray, List.set_cons_zero, List.set_cons_succ]
                refine WL.val (by kernel_rfl) (.pointer (some ⟨x, 2, none⟩)) (by go_simp) ?_
                simp only [Act.put, List.setIfInBounds_toArray, List.set_cons_zero, List.set_cons_succ]
                refine WL.val (by kernel_rfl) (.pointer (some ⟨x, 2, none⟩)) (by go_simp) ?_
                simp only [Act.put, List.setIfInBounds_toArray, List.set_cons_zero, List.set_cons_succ]
                refine WL.val (by kernel_rfl) (.int .i64 y3) (by go_simp) ?_
                simp only [Act.put, List.setIfInBounds_toArray, List.set_cons_zero, List.set_cons_succ]
                refine WL.val (by kernel_rfl) (.bool false) (by go_simp) ?_
                simp only [Act.put, List.setIfInBounds_toArray, List.set_cons_zero, List.set_cons_succ]
                refine WL.val (by kernel_rfl) (.bool false) (by go_simp) ?_
                simp only [Act.put, List.setIfInBounds_toArray, List.set_cons_zero, List.set_cons_succ]
                refine WL.nil ?_
                refine hK87 _ _ ?_
                refine wp_cond_false rfl ?_
                refine wp_skip ?_
                refine hK86 _ _ ?_
                refine wp_seq_k fun K88 hK88 => ?_
                refine wp_seq_k fun K89 hK89 => ?_
                refine wp_region_list (WL.out ?_)
                refine WL.val (by kernel_rfl) (.pointer (some ⟨g7, 0, none⟩)) (by go_simp) ?_
                simp only [Act.put, List.setIfInBounds_toArray, List.set_cons_zero, List.set_cons_succ]
                refine WL.val (by kernel_rfl) (.int .i64 k) (by go_simp) ?_
                simp only [Act.put, List.setIfInBounds_toArray, List.set_cons_zero, List.set_cons_succ]
                refine WL.val (by kernel_rfl) (.bool false) (by go_simp) ?_
                simp only [Act.put, List.setIfInBounds_toArray, List.set_cons_zero, List.set_cons_succ]
                refine WL.val (by kernel_rfl) (.bool false) (by go_simp) ?_
                simp only [Act.put, List.setIfInBounds_toArray, List.set_cons_zero, List.set_cons_succ]
                refine WL.skip (by kernel_rfl) ?_
                simp only [Act.put, List.setIfInBounds_toArray, List.set_cons_zero, List.set_cons_succ]
                refine WL.skip (by kernel_rfl) ?_
                simp only [Act.put, List.setIfInBounds_toArray, List.set_cons_zero, List.set_cons_succ]
                refine WL.skip (by kernel_rfl) ?_
                simp only [Act.put, List.setIfInBounds_toArray, List.set_cons_zero, List.set_cons_succ]
                refine WL.skip (by kernel_rfl) ?_
                simp only [Act.put, List.setIfInBounds_toArray, List.set_cons_zero, List.set_cons_succ]
                refine WL.skip (by kernel_rfl) ?_
                simp only [Act.put, List.setIfInBounds_toArray, List.set_cons_zero, List.set_cons_succ]
                refine WL.skip (by kernel_rfl) ?_
                simp only [Act.put, List.setIfInBounds_toArray, List.set_cons_zero, List.set_cons_succ]
                refine WL.val (by kernel_rfl) (.bool false) (by go_simp) ?_
                simp only [Act.put, List.setIfInBounds_toArray, List.set_cons_zero, List.set_cons_succ]
                refine WL.nil ?_
                refine hK89 _ _ ?_
                refine wp_cond_false rfl ?_
                refine wp_skip ?_
                refine hK88 _ _ ?_
                refine wp_seq_k fun K90 hK90 => ?_
                obtain ⟨E, hE⟩ : ∃ E, E = stEnd L y3 a3 := ⟨_, rfl⟩
                have HC9 := Keep.mk (xend_y D8.out.rx)
                rw [← hE] at HC9
                obtain ⟨eb, heb⟩ : ∃ eb, eb = bOf E a3 := ⟨_, rfl⟩
                rw [← heb] at HC9
                have Heb := Keep.mk heb
                clear heb
                have hnw : nextW L 1 = 0 := by rw [← hW0.out]; exact h5_2
                have hL0 : L.getD 0 0 = k := by have h := hk.out; rw [if_pos h5_2] at h; exact h.symm
                have hhas : hasI (L.getD 0 0) = [0, 1, 2, 3] := by rw [hL0, hk1]; rfl
                have hd := decM_of hnw (by rw [hhas]; simp) _ rfl
                rw [hhas, hL0] at hd
                have hr1 := ref1_is { zeroM with k := k } HE1.out HE2.out HE3.out
                have hr2 := hr1.1 h18_2
                rw [hr2.1, hr2.2] at hd
                have hEn : ¬ E = 0 := by rw [hE, stEnd, if_neg h18_2]; exact h18_2
                have Hdec : Keep ((decM L).1 = E ∧ (decM L).2.1 = a3) := ⟨by rw [hE]; exact ⟨hd.1, hd.2.1⟩⟩
                clear hr1
                clear hd hhas hnw hL0
                clear hE
                have h26_2 := hEn
                refine wp_region_list (WL.out ?_)
                refine WL.val (by kernel_rfl) (.pointer (some ⟨x, 0, none⟩)) (by go_simp) ?_
                simp only [Act.put, List.setIfInBounds_toArray, List.set_cons_zero, List.set_cons_succ]
                refine WL.callF (by kernel_rfl) 44 _ _ rfl Try.in44 #[ptr x] (by simp [Act.eval]) ?_
                refine (HC9.out).mono ?_
                rintro e w30 ⟨rfl, h1, h2⟩
                refine ⟨_, rfl, ?_⟩
                have DE := Keep.mk (D8.out.rd h1 h2)
                clear h1 h2 HC9
                simp only [Act.put, List.setIfInBounds_toArray, List.set_cons_zero, List.set_cons_succ]
                refine WL.storeR (by kernel_rfl) 41 (.tmp 6) (.tmp 132) rfl g6 (erA E eb) rfl rfl 41 (erA W0 e0) DE.out.b6 (Try.size41B _ _) (erA_sizes _ _ _ _) (erA_one _ _) ?_
                have DF := Keep.mk (DE.out.setE E eb)
                generalize w30.setRow g6 (erA E eb) = w31 at *
                have e6 : w31.cell? ⟨g6, 0, none⟩ = some (.int .i64 E) := DF.out.b6.c 0 rfl
                simp only [Act.put]
                refine WL.nil ?_
                refine hK90 _ _ ?_
                refine wp_seq_k fun K91 hK91 => ?_
                refine wp_seq_k fun K92 hK92 => ?_
                refine wp_region_list (WL.out ?_)
                refine WL.val (by kernel_rfl) (.pointer (some ⟨g6, 0, none⟩)) (by go_simp) ?_
                simp only [Act.put, List.setIfInBounds_toArray, List.set_cons_zero, List.set_cons_succ]
                refine WL.val (by kernel_rfl) (.int .i64 E) (by go_simp) ?_
                simp only [Act.put, List.setIfInBounds_toArray, List.set_cons_zero, List.set_cons_succ]
                refine WL.val (by kernel_rfl) (.bool true) (by go_simp) ?_
                simp only [Act.put, List.setIfInBounds_toArray, List.set_cons_zero, List.set_cons_succ]
                refine WL.nil ?_
                refine hK92 _ _ ?_
                refine wp_cond_true rfl ?_
                refine wp_seq_k fun K93 hK93 => ?_
                refine wp_region_held_drew (S := fun wx => wx.rangeAt g6 0 (erA E eb).toList) (by kernel_rfl) (blk_range DF.out.b6.drew) (fun hHeld => ?_)
                refine wpAnyH_take (i := 0) (oi := ⟨some 136, Op.build 28 #[], 28, _, _, none⟩) (v := .agg (msA zeroC)) rfl (by kernel_rfl) (by kernel_rfl) (by kernel_rfl) (fun _ _ _ h => h) (Or.inl ⟨by rfl, fun w hS => by first | kernel_rfl | (have h := run_bldM w; go_simp)⟩) hHeld ?_
                simp only [Act.put, List.setIfInBounds_toArray, List.set_cons_zero, List.set_cons_succ]
                refine wpAnyH_take (i := 1) (oi := ⟨some 137, Op.load 41 (Operand.tmp 6), 41, _, _, none⟩) (v := .agg (erA E eb).toList.toArray) rfl (by kernel_rfl) (by kernel_rfl) (by kernel_rfl) (fun _ _ _ h => h) (yieldsIf_load_mid (by rfl) 41 (Operand.tmp 6) rfl g6 0 rfl (erA E eb).toList _ (fun w hS => hS) Try.underlying41 rfl (by rw [Array.length_toList]; exact Try.size41B _ _)) hHeld ?_
                simp only [Act.put, List.setIfInBounds_toArray, List.set_cons_zero, List.set_cons_succ]
                simp only [Array.toArray_toList]
                refine wpAnyH_ready (rs := [2]) (by kernel_rfl) (by simp) ?_
                refine AllReadyH.cons (o := ⟨none, Op.store 28 (Operand.tmp 2) (Operand.tmp 136), 0, _, _, none⟩) rfl (fun K hK => ?_) AllReadyH.nil
                rw [if_pos (by rfl)]
                refine wp_store_row 28 (.tmp 2) (.tmp 136) rfl g2 (msA zeroC) (by simp [Act.eval]) (by simp [Act.eval]) 28 (msA zeroC) DF.out.b2.drew (Try.size28B _) (ms_sizes _ _) (SlC.zero.one) ?_
                refine hK.out _ _ (blk_range (DF.out.b6.drew.setRow_ne (blk_ne DF.out.b6 DF.out.b2 (by decide)) _)) fun hHb => ?_
                clear hK
                simp only [Act.put, List.setIfInBounds_toArray, List.set_cons_zero, List.set_cons_succ]
                refine wpAnyH_ready (rs := [3]) (by kernel_rfl) (by simp) ?_
                refine AllReadyH.cons (o := ⟨none, Op.store 41 (Operand.tmp 3) (Operand.tmp 137), 0, _, _, none⟩) rfl (fun K hK => ?_) AllReadyH.nil
                rw [if_pos (by rfl)]
                refine wp_store_row 41 (.tmp 3) (.tmp 137) rfl g3 (erA E eb) (by simp [Act.eval]) (by simp [Act.eval]) 41 (erA 0 0) (DF.out.b3.drew.setRow_ne (blk_ne DF.out.b3 DF.out.b2 (by decide)) _) (Try.size41B _ _) (erA_sizes _ _ _ _) (erA_one _ _) ?_
                refine hK.out _ _ (blk_range ((DF.out.b6.drew.setRow_ne (blk_ne DF.out.b6 DF.out.b2 (by decide)) _).setRow_ne (fun e => DF.out.n36 e.symm) _)) fun hHc => ?_
                clear hK
                simp only [Act.put, List.setIfInBounds_toArray, List.set_cons_zero, List.set_cons_succ]
                refine wpAnyH_done (by kernel_rfl) ?_ _
                refine hK93 _ _ ?_
                refine wp_ret ?_
                try simp only [Exit.then]
                refine bodyPost_ret (v := .tuple #[.agg (msA zeroC), .agg (erA E eb)]) (results_cell_cell_row Try.results14 _ _ g2 g3 28 41 _ _ (0, 0) (0, 0) _ _ rfl rfl ((DF.out.b2.drew.setRow (msA zeroC)).setRow_ne (blk_ne DF.out.b2 DF.out.b3 (by decide)) _) ((DF.out.b3.drew.setRow_ne (blk_ne DF.out.b3 DF.out.b2 (by decide)) (msA zeroC)).setRow _) Try.underlying28 rfl (Try.size28B _) Try.underlying41 rfl (Try.size41B _ _)) rfl ?_
                refine ⟨below_setRow (below_setRow (DF.out.rx.bel.drew) DF.out.lo.1 _) DF.out.lo.2.1 _, .inr ⟨by rw [Hdec.out.1]; exact h26_2, ?_⟩⟩
                rw [Hdec.out.1, Hdec.out.2, Heb.out, bOf_1 h26_2]
        · by_cases hk3 : k = 3
          · skip
            refine wp_region_list (WL.out ?_)
            refine WL.val (by kernel_rfl) (.pointer (some ⟨g7, 0, none⟩)) (by go_simp) ?_
            simp only [Act.put, List.setIfInBounds_toArray, List.set_cons_zero, List.set_cons_succ]
            refine WL.val (by kernel_rfl) (.int .i64 k) (by go_simp) ?_
            simp only [Act.put, List.setIfInBounds_toArray, List.set_cons_zero, List.set_cons_succ]
            refine WL.val (by kernel_rfl) (.bool false) (by go_simp) ?_
            simp only [Act.put, List.setIfInBounds_toArray, List.set_cons_zero, List.set_cons_succ]
            refine WL.val (by kernel_rfl) (.bool false) (by go_simp) ?_
            simp only [Act.put, List.setIfInBounds_toArray, List.set_cons_zero, List.set_cons_succ]
            refine WL.skip (by kernel_rfl) ?_
            simp only [Act.put, List.setIfInBounds_toArray, List.set_cons_zero, List.set_cons_succ]
            refine WL.skip (by kernel_rfl) ?_
            simp only [Act.put, List.setIfInBounds_toArray, List.set_cons_zero, List.set_cons_succ]
            refine WL.skip (by kernel_rfl) ?_
            simp only [Act.put, List.setIfInBounds_toArray, List.set_cons_zero, List.set_cons_succ]
            refine WL.skip (by kernel_rfl) ?_
            simp only [Act.put, List.setIfInBounds_toArray, List.set_cons_zero, List.set_cons_succ]
            refine WL.skip (by kernel_rfl) ?_
            simp only [Act.put, List.setIfInBounds_toArray, List.set_cons_zero, List.set_cons_succ]
            refine WL.skip (by kernel_rfl) ?_
            simp only [Act.put, List.setIfInBounds_toArray, List.set_cons_zero, List.set_cons_succ]
            refine WL.val (by kernel_rfl) (.bool false) (by go_simp) ?_
            simp only [Act.put, List.setIfInBounds_toArray, List.set_cons_zero, List.set_cons_succ]
            refine WL.nil ?_
            refine hK44 _ _ ?_
            refine wp_cond_false rfl ?_
            refine wp_skip ?_
            refine hK43 _ _ ?_
            refine wp_seq_k fun K94 hK94 => ?_
            refine wp_seq_k fun K95 hK95 => ?_
            refine wp_region_list (WL.out ?_)
            refine WL.val (by kernel_rfl) (.pointer (some ⟨g7, 0, none⟩)) (by go_simp) ?_
            simp only [Act.put, List.setIfInBounds_toArray, List.set_cons_zero, List.set_cons_succ]
            refine WL.val (by kernel_rfl) (.int .i64 k) (by go_simp) ?_
            simp only [Act.put, List.setIfInBounds_toArray, List.set_cons_zero, List.set_cons_succ]
            refine WL.val (by kernel_rfl) (.bool false) (by go_simp) ?_
            simp only [Act.put, List.setIfInBounds_toArray, List.set_cons_zero, List.set_cons_succ]
            refine WL.val (by kernel_rfl) (.bool false) (by go_simp) ?_
            simp only [Act.put, List.setIfInBounds_toArray, List.set_cons_zero, List.set_cons_succ]
            refine WL.skip (by kernel_rfl) ?_
            simp only [Act.put, List.setIfInBounds_toArray, List.set_cons_zero, List.set_cons_succ]
            refine WL.skip (by kernel_rfl) ?_
            simp only [Act.put, List.setIfInBounds_toArray, List.set_cons_zero, List.set_cons_succ]
            refine WL.skip (by kernel_rfl) ?_
            simp only [Act.put, List.setIfInBounds_toArray, List.set_cons_zero, List.set_cons_succ]
            refine WL.skip (by kernel_rfl) ?_
            simp only [Act.put, List.setIfInBounds_toArray, List.set_cons_zero, List.set_cons_succ]
            refine WL.skip (by kernel_rfl) ?_
            simp only [Act.put, List.setIfInBounds_toArray, List.set_cons_zero, List.set_cons_succ]
            refine WL.skip (by kernel_rfl) ?_
            simp only [Act.put, List.setIfInBounds_toArray, List.set_cons_zero, List.set_cons_succ]
            refine WL.val (by kernel_rfl) (.bool false) (by go_simp) ?_
            simp only [Act.put, List.setIfInBounds_toArray, List.set_cons_zero, List.set_cons_succ]
            refine WL.nil ?_
            refine hK95 _ _ ?_
            refine wp_cond_false rfl ?_
            refine wp_skip ?_
            refine hK94 _ _ ?_
            refine wp_seq_k fun K96 hK96 => ?_
            refine wp_seq_k fun K97 hK97 => ?_
            refine wp_region_list (WL.out ?_)
            refine WL.val (by kernel_rfl) (.pointer (some ⟨g7, 0, none⟩)) (by go_simp) ?_
            simp only [Act.put, List.setIfInBounds_toArray, List.set_cons_zero, List.set_cons_succ]
            refine WL.val (by kernel_rfl) (.int .i64 k) (by go_simp) ?_
            simp only [Act.put, List.setIfInBounds_toArray, List.set_cons_zero, List.set_cons_succ]
            refine WL.val (by kernel_rfl) (.bool true) (by go_simp) ?_
            simp only [Act.put, List.setIfInBounds_toArray, List.set_cons_zero, List.set_cons_succ]
            refine WL.val (by kernel_rfl) (.bool true) (by go_simp) ?_
            simp only [Act.put, List.setIfInBounds_toArray, List.set_cons_zero, List.set_cons_succ]
            refine WL.val (by kernel_rfl) (.pointer (some ⟨x, 0, none⟩)) (by go_simp) ?_
            simp only [Act.put, List.setIfInBounds_toArray, List.set_cons_zero, List.set_cons_succ]
            refine WL.val (by kernel_rfl) (.pointer (some ⟨x, 0, none⟩)) (by go_simp) ?_
            simp only [Act.put, List.setIfInBounds_toArray, List.set_cons_zero, List.set_cons_succ]
            refine WL.val (by kernel_rfl) (.pointer (some ⟨x, 2, none⟩)) (by go_simp) ?_
            simp only [Act.put, List.setIfInBounds_toArray, List.set_cons_zero, List.set_cons_succ]
            refine WL.val (by kernel_rfl) (.pointer (some ⟨x, 2, none⟩)) (by go_simp) ?_
            simp only [Act.put, List.setIfInBounds_toArray, List.set_cons_zero, List.set_cons_succ]
            refine WL.val (by kernel_rfl) (.int .i64 0) (by go_simp) ?_
            simp only [Act.put, List.setIfInBounds_toArray, List.set_cons_zero, List.set_cons_succ]
            refine WL.val (by kernel_rfl) (.bool true) (by go_simp) ?_
            simp only [Act.put, List.setIfInBounds_toArray, List.set_cons_zero, List.set_cons_succ]
            refine WL.val (by kernel_rfl) (.bool true) (by go_simp) ?_
            simp only [Act.put, List.setIfInBounds_toArray, List.set_cons_zero, List.set_cons_succ]
            refine WL.nil ?_
            refine hK97 _ _ ?_
            refine wp_cond_true rfl ?_
            obtain ⟨R5, hR5⟩ : ∃ R5, R5 = bkR L 1 := ⟨_, rfl⟩
            have HC1 := Keep.mk (xblocks_any w x _ L 1 w9 D0.out.rx)
            rw [← hR5] at HC1
            obtain ⟨y5, a5, H5⟩ := R5
            have HE5 := Keep.mk hR5
            clear hR5 r2
            refine wp_region_list (WL.out ?_)
            refine WL.val (by kernel_rfl) (.pointer (some ⟨x, 0, none⟩)) (by go_simp) ?_
            simp only [Act.put, List.setIfInBounds_toArray, List.set_cons_zero, List.set_cons_succ]
            refine WL.callF (by kernel_rfl) 43 _ _ rfl Try.in43 #[ptr x] (by simp [Act.eval]) ?_
            refine (HC1.out).mono ?_
            rintro e w20 ⟨v, rfl, h1, h2, vs, h3, h4, h5⟩
            refine ⟨_, rfl, ?_⟩
            obtain ⟨ta, tc, rfl⟩ := h3.sl
            have D9 := Keep.mk (D0.out.rd h1 h2)
            have HO5 := Keep.mk h3
            have HO5f : Keep (∀ k, (Value.slice ta vs.length tc).ownBlock = some k → B0 ≤ k) := ⟨fun k hk => Nat.le_trans D0.out.hi.2.2.2.2.2 (h4 k hk)⟩
            have HZ5 : Keep (y5 = 0 → RowsZ B0 w20 (.slice ta vs.length tc) vs H5) := ⟨fun h => ⟨(h5 h).1, fun i hi => ⟨((h5 h).2 i hi).1, fun k hk => ⟨Nat.le_trans D0.out.hi.2.2.2.2.2 (((h5 h).2 i hi).2 k hk).1, (((h5 h).2 i hi).2 k hk).2⟩⟩⟩⟩
            clear h1 h2 h3 h4 h5 HC1 k0
            simp only [Act.put, List.setIfInBounds_toArray, List.set_cons_zero, List.set_cons_succ]
            refine WL.val (by kernel_rfl) (.pointer (some ⟨g7, 5, none⟩)) (by go_simp) ?_
            simp only [Act.put, List.setIfInBounds_toArray, List.set_cons_zero, List.set_cons_succ]
            have c_o := D9.out.m.c 5 (ms_5 _)
            have f_o := D9.out.m.frozen 5
            refine WL.cell (by kernel_rfl) (w20.setCell ⟨g7, 5, none⟩ (.slice ta vs.length tc)) (by go_simp) ?_
            clear c_o f_o
            have D10 : Keep (DS w g2 g3 x g6 g7 B0 (.slice va L.length vc) L y5 a5 W0 e0 (fun wx => y5 = 0 → MsAt wx { zeroM with k := k, bk := H5 } ⟨k, noS, 0, noS, noS, .slice ta vs.length tc⟩) ⟨k, noS, 0, noS, noS, .slice ta vs.length tc⟩ (w20.setCell ⟨g7, 5, none⟩ (.slice ta vs.length tc))) := ⟨D9.out.setM (by have h := D9.out.m.set 5 (.slice ta vs.length tc); rw [ms_set5] at h; exact h) (Grown.setCell w20 g7 5 _ fun _ => rfl) (fun wx hw h5 => ⟨rfl, rfl, hrow_nil wx, .inl ⟨rfl, rfl⟩, hrow_nil wx, ((HZ5.out h5).step hw (fun k hk _ _ e => by omega) (.inl rfl)).rws (HO5.out.grown hw (fun k hk e => absurd (HO5f.out k hk) (by omega)))⟩)⟩
            generalize w20.setCell ⟨g7, 5, none⟩ (.slice ta vs.length tc) = w21 at *
            simp only [Act.put]
            refine WL.nil ?_
            refine hK96 _ _ ?_
            refine wp_seq_k fun K98 hK98 => ?_
            obtain ⟨E, hE⟩ : ∃ E, E = stEnd L y5 a5 := ⟨_, rfl⟩
            have HC9 := Keep.mk (xend_y D10.out.rx)
            rw [← hE] at HC9
            obtain ⟨eb, heb⟩ : ∃ eb, eb = bOf E a5 := ⟨_, rfl⟩
            rw [← heb] at HC9
            have Heb := Keep.mk heb
            clear heb
            have hnw : nextW L 1 = 0 := by rw [← hW0.out]; exact h5_2
            have hL0 : L.getD 0 0 = k := by have h := hk.out; rw [if_pos h5_2] at h; exact h.symm
            have hhas : hasI (L.getD 0 0) = [4] := by rw [hL0, hk3]; rfl
            have hd := decM_of hnw (by rw [hhas]; simp) _ rfl
            rw [hhas, hL0] at hd
            have hg : getFs L [4] { zeroM with k := k } 1 = (y5, a5, { zeroM with k := k, bk := H5 }) := by
              rw [getFs_sing]; unfold getF; rw [if_neg (by decide), if_neg (by decide), if_neg (by decide), if_neg (by decide), ← HE5.out]
            rw [hg] at hd
            have Hdec : Keep ((decM L).1 = E ∧ (decM L).2.1 = a5) := ⟨by rw [hE]; exact ⟨hd.1, hd.2.1⟩⟩
            have HdM : Keep (E = 0 → (decM L).2.2 = { zeroM with k := k, bk := H5 } ∧ y5 = 0) := ⟨fun h => by
              have hy : y5 = 0 := by
                by_cases h0 : y5 = 0
                · exact h0
                · rw [hE, stEnd, if_neg h0] at h; exact absurd h h0
              exact ⟨hd.2.2 (by rw [← hE]; exact h), hy⟩⟩
            clear hd hhas hnw hL0
            clear hE
            refine wp_region_list (WL.out ?_)
            refine WL.val (by kernel_rfl) (.pointer (some ⟨x, 0, none⟩)) (by go_simp) ?_
            simp only [Act.put, List.setIfInBounds_toArray, List.set_cons_zero, List.set_cons_succ]
            refine WL.callF (by kernel_rfl) 44 _ _ rfl Try.in44 #[ptr x] (by simp [Act.eval]) ?_
            refine (HC9.out).mono ?_
            rintro e w30 ⟨rfl, h1, h2⟩
            refine ⟨_, rfl, ?_⟩
            have DE := Keep.mk (D10.out.rd h1 h2)
            clear h1 h2 HC9
            simp only [Act.put, List.setIfInBounds_toArray, List.set_cons_zero, List.set_cons_succ]
            refine WL.storeR (by kernel_rfl) 41 (.tmp 6) (.tmp 132) rfl g6 (erA E eb) rfl rfl 41 (erA W0 e0) DE.out.b6 (Try.size41B _ _) (erA_sizes _ _ _ _) (erA_one _ _) ?_
            have DF := Keep.mk (DE.out.setE E eb)
            generalize w30.setRow g6 (erA E eb) = w31 at *
            have e6 : w31.cell? ⟨g6, 0, none⟩ = some (.int .i64 E) := DF.out.b6.c 0 rfl
            simp only [Act.put]
            refine WL.nil ?_
            refine hK98 _ _ ?_
            refine wp_seq_k fun K99 hK99 => ?_
            refine wp_seq_k fun K100 hK100 => ?_
            refine wp_region_list (WL.out ?_)
            refine WL.val (by kernel_rfl) (.pointer (some ⟨g6, 0, none⟩)) (by go_simp) ?_
            simp only [Act.put, List.setIfInBounds_toArray, List.set_cons_zero, List.set_cons_succ]
            refine WL.val (by kernel_rfl) (.int .i64 E) (by go_simp) ?_
            simp only [Act.put, List.setIfInBounds_toArray, List.set_cons_zero, List.set_cons_succ]
            by_cases h26_2 : E = 0
            · skip
              refine WL.val (by kernel_rfl) (.bool false) (by go_simp) ?_
              simp only [Act.put, List.setIfInBounds_toArray, List.set_cons_zero, List.set_cons_succ]
              refine WL.nil ?_
              refine hK100 _ _ ?_
              refine wp_cond_false rfl ?_
              refine wp_skip ?_
              refine hK99 _ _ ?_
              refine wp_seq_k fun K101 hK101 => ?_
              have HfM : Keep (MsAt w31 (decM L).2.2 ⟨k, noS, 0, noS, noS, .slice ta vs.length tc⟩) := ⟨by
                have h := HdM.out h26_2
                rw [h.1]; exact DF.out.has h.2⟩
              have HAt : Keep (∀ wx, (Grown w31 wx fun k => k < B0) → MsAt wx (decM L).2.2 ⟨k, noS, 0, noS, noS, .slice ta vs.length tc⟩) := ⟨fun wx hw => by
                have h := HdM.out h26_2
                rw [h.1]; exact DF.out.at_ wx hw h.2⟩
              refine wp_region_held_drew (S := fun wx => wx.rangeAt g7 0 (msA ⟨k, noS, 0, noS, noS, .slice ta vs.length tc⟩).toList ∧ wx.rangeAt g6 0 (erA E eb).toList) (by kernel_rfl) (⟨blk_range DF.out.m.drew, blk_range DF.out.b6.drew⟩) (fun hHeld => ?_)
              refine wpAnyH_take (i := 0) (oi := ⟨some 138, Op.load 28 (Operand.tmp 7), 28, _, _, none⟩) (v := .agg (msA ⟨k, noS, 0, noS, noS, .slice ta vs.length tc⟩).toList.toArray) rfl (by kernel_rfl) (by kernel_rfl) (by kernel_rfl) (fun _ _ _ h => h) (yieldsIf_load_mid (by rfl) 28 (Operand.tmp 7) rfl g7 0 rfl (msA ⟨k, noS, 0, noS, noS, .slice ta vs.length tc⟩).toList _ (fun w hS => hS.1) Try.underlying28 rfl (by rw [Array.length_toList]; exact Try.size28B _)) hHeld ?_
              simp only [Act.put, List.setIfInBounds_toArray, List.set_cons_zero, List.set_cons_succ]
              simp only [Array.toArray_toList]
              refine wpAnyH_take (i := 1) (oi := ⟨some 139, Op.load 41 (Operand.tmp 6), 41, _, _, none⟩) (v := .agg (erA E eb).toList.toArray) rfl (by kernel_rfl) (by kernel_rfl) (by kernel_rfl) (fun _ _ _ h => h) (yieldsIf_load_mid (by rfl) 41 (Operand.tmp 6) rfl g6 0 rfl (erA E eb).toList _ (fun w hS => hS.2) Try.underlying41 rfl (by rw [Array.length_toList]; exact Try.size41B _ _)) hHeld ?_
              simp only [Act.put, List.setIfInBounds_toArray, List.set_cons_zero, List.set_cons_succ]
              simp only [Array.toArray_toList]
              refine wpAnyH_ready (rs := [2]) (by kernel_rfl) (by simp) ?_
              refine AllReadyH.cons (o := ⟨none, Op.store 28 (Operand.tmp 2) (Operand.tmp 138), 0, _, _, none⟩) rfl (fun K hK => ?_) AllReadyH.nil
              rw [if_pos (by rfl)]
              refine wp_store_row 28 (.tmp 2) (.tmp 138) rfl g2 (msA ⟨k, noS, 0, noS, noS, .slice ta vs.length tc⟩) (by simp [Act.eval]) (by simp [Act.eval]) 28 (msA zeroC) DF.out.b2.drew (Try.size28B _) (ms_sizes _ _) (HfM.out.sl.one) ?_
              refine hK.out _ _ (⟨blk_range (DF.out.m.drew.setRow_ne (fun e => DF.out.n27 e.symm) _), blk_range (DF.out.b6.drew.setRow_ne (blk_ne DF.out.b6 DF.out.b2 (by decide)) _)⟩) fun hHb => ?_
              clear hK
              simp only [Act.put, List.setIfInBounds_toArray, List.set_cons_zero, List.set_cons_succ]
              refine wpAnyH_ready (rs := [3]) (by kernel_rfl) (by simp) ?_
              refine AllReadyH.cons (o := ⟨none, Op.store 41 (Operand.tmp 3) (Operand.tmp 139), 0, _, _, none⟩) rfl (fun K hK => ?_) AllReadyH.nil
              rw [if_pos (by rfl)]
              refine wp_store_row 41 (.tmp 3) (.tmp 139) rfl g3 (erA E eb) (by simp [Act.eval]) (by simp [Act.eval]) 41 (erA 0 0) (DF.out.b3.drew.setRow_ne (blk_ne DF.out.b3 DF.out.b2 (by decide)) _) (Try.size41B _ _) (erA_sizes _ _ _ _) (erA_one _ _) ?_
              refine hK.out _ _ (⟨blk_range ((DF.out.m.drew.setRow_ne (fun e => DF.out.n27 e.symm) _).setRow_ne (blk_ne DF.out.m DF.out.b3 (by decide)) _), blk_range ((DF.out.b6.drew.setRow_ne (blk_ne DF.out.b6 DF.out.b2 (by decide)) _).setRow_ne (fun e => DF.out.n36 e.symm) _)⟩) fun hHc => ?_
              clear hK
              simp only [Act.put, List.setIfInBounds_toArray, List.set_cons_zero, List.set_cons_succ]
              refine wpAnyH_done (by kernel_rfl) ?_ _
              refine hK101 _ _ ?_
              refine wp_ret ?_
              try simp only [Exit.then]
              refine bodyPost_ret (v := .tuple #[.agg (msA ⟨k, noS, 0, noS, noS, .slice ta vs.length tc⟩), .agg (erA E eb)]) (results_cell_cell_row Try.results14 _ _ g2 g3 28 41 _ _ (0, 0) (0, 0) _ _ rfl rfl ((DF.out.b2.drew.setRow (msA ⟨k, noS, 0, noS, noS, .slice ta vs.length tc⟩)).setRow_ne (blk_ne DF.out.b2 DF.out.b3 (by decide)) _) ((DF.out.b3.drew.setRow_ne (blk_ne DF.out.b3 DF.out.b2 (by decide)) (msA ⟨k, noS, 0, noS, noS, .slice ta vs.length tc⟩)).setRow _) Try.underlying28 rfl (Try.size28B _) Try.underlying41 rfl (Try.size41B _ _)) rfl ?_
              refine ⟨below_setRow (below_setRow (DF.out.rx.bel.drew) DF.out.lo.1 _) DF.out.lo.2.1 _, .inl ⟨by rw [Hdec.out.1]; exact h26_2, _, ?_, HAt.out _ ?_⟩⟩
              · rw [Heb.out, h26_2]; rfl
              · exact (((Grown.refl w31 _).drew).trans (Grown.setRow w31.drew g2 _ fun _ => DF.out.hi.1)).trans (Grown.setRow _ g3 _ fun _ => DF.out.hi.2.1)
            · skip
              refine WL.val (by kernel_rfl) (.bool true) (by go_simp) ?_
              simp only [Act.put, List.setIfInBounds_toArray, List.set_cons_zero, List.set_cons_succ]
              refine WL.nil ?_
              refine hK100 _ _ ?_
              refine wp_cond_true rfl ?_
              refine wp_seq_k fun K102 hK102 => ?_
              refine wp_region_held_drew (S := fun wx => wx.rangeAt g6 0 (erA E eb).toList) (by kernel_rfl) (blk_range DF.out.b6.drew) (fun hHeld => ?_)
              refine wpAnyH_take (i := 0) (oi := ⟨some 136, Op.build 28 #[], 28, _, _, none⟩) (v := .agg (msA zeroC)) rfl (by kernel_rfl) (by kernel_rfl) (by kernel_rfl) (fun _ _ _ h => h) (Or.inl ⟨by rfl, fun w hS => by first | kernel_rfl | (have h := run_bldM w; go_simp)⟩) hHeld ?_
              simp only [Act.put, List.setIfInBounds_toArray, List.set_cons_zero, List.set_cons_succ]
              refine wpAnyH_take (i := 1) (oi := ⟨some 137, Op.load 41 (Operand.tmp 6), 41, _, _, none⟩) (v := .agg (erA E eb).toList.toArray) rfl (by kernel_rfl) (by kernel_rfl) (by kernel_rfl) (fun _ _ _ h => h) (yieldsIf_load_mid (by rfl) 41 (Operand.tmp 6) rfl g6 0 rfl (erA E eb).toList _ (fun w hS => hS) Try.underlying41 rfl (by rw [Array.length_toList]; exact Try.size41B _ _)) hHeld ?_
              simp only [Act.put, List.setIfInBounds_toArray, List.set_cons_zero, List.set_cons_succ]
              simp only [Array.toArray_toList]
              refine wpAnyH_ready (rs := [2]) (by kernel_rfl) (by simp) ?_
              refine AllReadyH.cons (o := ⟨none, Op.store 28 (Operand.tmp 2) (Operand.tmp 136), 0, _, _, none⟩) rfl (fun K hK => ?_) AllReadyH.nil
              rw [if_pos (by rfl)]
              refine wp_store_row 28 (.tmp 2) (.tmp 136) rfl g2 (msA zeroC) (by simp [Act.eval]) (by simp [Act.eval]) 28 (msA zeroC) DF.out.b2.drew (Try.size28B _) (ms_sizes _ _) (SlC.zero.one) ?_
              refine hK.out _ _ (blk_range (DF.out.b6.drew.setRow_ne (blk_ne DF.out.b6 DF.out.b2 (by decide)) _)) fun hHb => ?_
              clear hK
              simp only [Act.put, List.setIfInBounds_toArray, List.set_cons_zero, List.set_cons_succ]
              refine wpAnyH_ready (rs := [3]) (by kernel_rfl) (by simp) ?_
              refine AllReadyH.cons (o := ⟨none, Op.store 41 (Operand.tmp 3) (Operand.tmp 137), 0, _, _, none⟩) rfl (fun K hK => ?_) AllReadyH.nil
              rw [if_pos (by rfl)]
              refine wp_store_row 41 (.tmp 3) (.tmp 137) rfl g3 (erA E eb) (by simp [Act.eval]) (by simp [Act.eval]) 41 (erA 0 0) (DF.out.b3.drew.setRow_ne (blk_ne DF.out.b3 DF.out.b2 (by decide)) _) (Try.size41B _ _) (erA_sizes _ _ _ _) (erA_one _ _) ?_
              refine hK.out _ _ (blk_range ((DF.out.b6.drew.setRow_ne (blk_ne DF.out.b6 DF.out.b2 (by decide)) _).setRow_ne (fun e => DF.out.n36 e.symm) _)) fun hHc => ?_
              clear hK
              simp only [Act.put, List.setIfInBounds_toArray, List.set_cons_zero, List.set_cons_succ]
              refine wpAnyH_done (by kernel_rfl) ?_ _
              refine hK102 _ _ ?_
              refine wp_ret ?_
              try simp only [Exit.then]
              refine bodyPost_ret (v := .tuple #[.agg (msA zeroC), .agg (erA E eb)]) (results_cell_cell_row Try.results14 _ _ g2 g3 28 41 _ _ (0, 0) (0, 0) _ _ rfl rfl ((DF.out.b2.drew.setRow (msA zeroC)).setRow_ne (blk_ne DF.out.b2 DF.out.b3 (by decide)) _) ((DF.out.b3.drew.setRow_ne (blk_ne DF.out.b3 DF.out.b2 (by decide)) (msA zeroC)).setRow _) Try.underlying28 rfl (Try.size28B _) Try.underlying41 rfl (Try.size41B _ _)) rfl ?_
              refine ⟨below_setRow (below_setRow (DF.out.rx.bel.drew) DF.out.lo.1 _) DF.out.lo.2.1 _, .inr ⟨by rw [Hdec.out.1]; exact h26_2, ?_⟩⟩
              rw [Hdec.out.1, Hdec.out.2, Heb.out, bOf_1 h26_2]
          · have hk2 : k = 2 := by omega
            refine wp_region_list (WL.out ?_)
            refine WL.val (by kernel_rfl) (.pointer (some ⟨g7, 0, none⟩)) (by go_simp) ?_
            simp only [Act.put, List.setIfInBounds_toArray, List.set_cons_zero, List.set_cons_succ]
            refine WL.val (by kernel_rfl) (.int .i64 k) (by go_simp) ?_
            simp only [Act.put, List.setIfInBounds_toArray, List.set_cons_zero, List.set_cons_succ]
            refine WL.val (by kernel_rfl) (.bool false) (by go_simp) ?_
            simp only [Act.put, List.setIfInBounds_toArray, List.set_cons_zero, List.set_cons_succ]
            refine WL.val (by kernel_rfl) (.bool false) (by go_simp) ?_
            simp only [Act.put, List.setIfInBounds_toArray, List.set_cons_zero, List.set_cons_succ]
            refine WL.skip (by kernel_rfl) ?_
            simp only [Act.put, List.setIfInBounds_toArray, List.set_cons_zero, List.set_cons_succ]
            refine WL.skip (by kernel_rfl) ?_
            simp only [Act.put, List.setIfInBounds_toArray, List.set_cons_zero, List.set_cons_succ]
            refine WL.skip (by kernel_rfl) ?_
            simp only [Act.put, List.setIfInBounds_toArray, List.set_cons_zero, List.set_cons_succ]
            refine WL.skip (by kernel_rfl) ?_
            simp only [Act.put, List.setIfInBounds_toArray, List.set_cons_zero, List.set_cons_succ]
            refine WL.skip (by kernel_rfl) ?_
            simp only [Act.put, List.setIfInBounds_toArray, List.set_cons_zero, List.set_cons_succ]
            refine WL.skip (by kernel_rfl) ?_
            simp only [Act.put, List.setIfInBounds_toArray, List.set_cons_zero, List.set_cons_succ]
            refine WL.val (by kernel_rfl) (.bool false) (by go_simp) ?_
            simp only [Act.put, List.setIfInBounds_toArray, List.set_cons_zero, List.set_cons_succ]
            refine WL.nil ?_
            refine hK44 _ _ ?_
            refine wp_cond_false rfl ?_
            refine wp_skip ?_
            refine hK43 _ _ ?_
            refine wp_seq_k fun K103 hK103 => ?_
            refine wp_seq_k fun K104 hK104 => ?_
            have hk2' : k ≤ 2 := by omega
            refine wp_region_list (WL.out ?_)
            refine WL.val (by kernel_rfl) (.pointer (some ⟨g7, 0, none⟩)) (by go_simp) ?_
            simp only [Act.put, List.setIfInBounds_toArray, List.set_cons_zero, List.set_cons_succ]
            refine WL.val (by kernel_rfl) (.int .i64 k) (by go_simp) ?_
            simp only [Act.put, List.setIfInBounds_toArray, List.set_cons_zero, List.set_cons_succ]
            refine WL.val (by kernel_rfl) (.bool true) (by go_simp) ?_
            simp only [Act.put, List.setIfInBounds_toArray, List.set_cons_zero, List.set_cons_succ]
            refine WL.val (by kernel_rfl) (.bool true) (by go_simp) ?_
            simp only [Act.put, List.setIfInBounds_toArray, List.set_cons_zero, List.set_cons_succ]
            refine WL.val (by kernel_rfl) (.pointer (some ⟨x, 0, none⟩)) (by go_simp) ?_
            simp only [Act.put, List.setIfInBounds_toArray, List.set_cons_zero, List.set_cons_succ]
            refine WL.val (by kernel_rfl) (.pointer (some ⟨x, 0, none⟩)) (by go_simp) ?_
            simp only [Act.put, List.setIfInBounds_toArray, List.set_cons_zero, List.set_cons_succ]
            refine WL.val (by kernel_rfl) (.pointer (some ⟨x, 2, none⟩)) (by go_simp) ?_
            simp only [Act.put, List.setIfInBounds_toArray, List.set_cons_zero, List.set_cons_succ]
            refine WL.val (by kernel_rfl) (.pointer (some ⟨x, 2, none⟩)) (by go_simp) ?_
            simp only [Act.put, List.setIfInBounds_toArray, List.set_cons_zero, List.set_cons_succ]
            refine WL.val (by kernel_rfl) (.int .i64 0) (by go_simp) ?_
            simp only [Act.put, List.setIfInBounds_toArray, List.set_cons_zero, List.set_cons_succ]
            refine WL.val (by kernel_rfl) (.bool true) (by go_simp) ?_
            simp only [Act.put, List.setIfInBounds_toArray, List.set_cons_zero, List.set_cons_succ]
            refine WL.val (by kernel_rfl) (.bool true) (by go_simp) ?_
            simp only [Act.put, List.setIfInBounds_toArray, List.set_cons_zero, List.set_cons_succ]
            refine WL.nil ?_
            refine hK104 _ _ ?_
            refine wp_cond_true rfl ?_
            obtain ⟨R5, hR5⟩ : ∃ R5, R5 = hsR L 4096 1 := ⟨_, rfl⟩
            have HC1 := Keep.mk (xread_any w x _ L 1 4096 (by decide) w9 D0.out.rx)
            rw [show ((4096 : Nat) : Int) = 4096 from rfl, ← hR5] at HC1
            obtain ⟨y5, a5, H5⟩ := R5
            have HE5 := Keep.mk hR5
            clear hR5 r2
            refine wp_region_list (WL.out ?_)
            refine WL.val (by kernel_rfl) (.pointer (some ⟨x, 0, none⟩)) (by go_simp) ?_
            simp only [Act.put, List.setIfInBounds_toArray, List.set_cons_zero, List.set_cons_succ]
            refine WL.callF (by kernel_rfl) 39 _ _ rfl Try.in39 #[ptr x, .int .u64 4096] (by simp [Act.eval]) ?_
            refine (HC1.out).mono ?_
            rintro e w20 ⟨v, rfl, h1, h2, Q5, h3, h4, h5⟩
            refine ⟨_, rfl, ?_⟩
            obtain ⟨ta, tc, rfl⟩ := h3.sl
            have D9 := Keep.mk (D0.out.rd h1 h2)
            have HO5 := Keep.mk h3
            have HO5f : Keep (∀ k, (Value.slice ta Q5.length tc).ownBlock = some k → B0 ≤ k) := ⟨fun k hk => Nat.le_trans D0.out.hi.2.2.2.2.2 (h4 k hk)⟩
            have HPe5 : Keep (y5 = 0 → Q5 = H5) := ⟨h5⟩
            clear h1 h2 h3 h4 h5 HC1 k0
            simp only [Act.put, List.setIfInBounds_toArray, List.set_cons_zero, List.set_cons_succ]
            refine WL.val (by kernel_rfl) (.pointer (some ⟨g7, 4, none⟩)) (by go_simp) ?_
            simp only [Act.put, List.setIfInBounds_toArray, List.set_cons_zero, List.set_cons_succ]
            have c_o := D9.out.m.c 4 (ms_4 _)
            have f_o := D9.out.m.frozen 4
            refine WL.cell (by kernel_rfl) (w20.setCell ⟨g7, 4, none⟩ (.slice ta Q5.length tc)) (by go_simp) ?_
            clear c_o f_o
            have D10 : Keep (DS w g2 g3 x g6 g7 B0 (.slice va L.length vc) L y5 a5 W0 e0 (fun wx => MsAt wx { zeroM with k := k, wt := Q5 } ⟨k, noS, 0, noS, .slice ta Q5.length tc, noS⟩) ⟨k, noS, 0, noS, .slice ta Q5.length tc, noS⟩ (w20.setCell ⟨g7, 4, none⟩ (.slice ta Q5.length tc))) := ⟨D9.out.setM (by have h := D9.out.m.set 4 (.slice ta Q5.length tc); rw [ms_set4] at h; exact h) (Grown.setCell w20 g7 4 _ fun _ => rfl) (fun wx hw => by have h := D9.out.at_ wx hw; exact ⟨rfl, rfl, h.hd, h.bl, (HO5.out.grown hw (fun k hk e => absurd (HO5f.out k hk) (by omega))).row, h.bk⟩)⟩
            generalize w20.setCell ⟨g7, 4, none⟩ (.slice ta Q5.length tc) = w21 at *
            have k0 := D10.out.m.c 0 (ms_0 _)
            simp only [Act.put]
            refine WL.nil ?_
            refine hK103 _ _ ?_
            refine wp_seq_k fun K105 hK105 => ?_
            refine wp_seq_k fun K106 hK106 => ?_
            refine wp_region_list (WL.out ?_)
            refine WL.val (by kernel_rfl) (.pointer (some ⟨g7, 0, none⟩)) (by go_simp) ?_
            simp only [Act.put, List.setIfInBounds_toArray, List.set_cons_zero, List.set_cons_succ]
            refine WL.val (by kernel_rfl) (.int .i64 k) (by go_simp) ?_
            simp only [Act.put, List.setIfInBounds_toArray, List.set_cons_zero, List.set_cons_succ]
            refine WL.val (by kernel_rfl) (.bool false) (by go_simp) ?_
            simp only [Act.put, List.setIfInBounds_toArray, List.set_cons_zero, List.set_cons_succ]
            refine WL.val (by kernel_rfl) (.bool false) (by go_simp) ?_
            simp only [Act.put, List.setIfInBounds_toArray, List.set_cons_zero, List.set_cons_succ]
            refine WL.skip (by kernel_rfl) ?_
            simp only [Act.put, List.setIfInBounds_toArray, List.set_cons_zero, List.set_cons_succ]
            refine WL.skip (by kernel_rfl) ?_
            simp only [Act.put, List.setIfInBounds_toArray, List.set_cons_zero, List.set_cons_succ]
            refine WL.skip (by kernel_rfl) ?_
            simp only [Act.put, List.setIfInBounds_toArray, List.set_cons_zero, List.set_cons_succ]
            refine WL.skip (by kernel_rfl) ?_
            simp only [Act.put, List.setIfInBounds_toArray, List.set_cons_zero, List.set_cons_succ]
            refine WL.skip (by kernel_rfl) ?_
            simp only [Act.put, List.setIfInBounds_toArray, List.set_cons_zero, List.set_cons_succ]
            refine WL.skip (by kernel_rfl) ?_
            simp only [Act.put, List.setIfInBounds_toArray, List.set_cons_zero, List.set_cons_succ]
            refine WL.val (by kernel_rfl) (.bool false) (by go_simp) ?_
            simp only [Act.put, List.setIfInBounds_toArray, List.set_cons_zero, List.set_cons_succ]
            refine WL.nil ?_
            refine hK106 _ _ ?_
            refine wp_cond_false rfl ?_
            refine wp_skip ?_
            refine hK105 _ _ ?_
            refine wp_seq_k fun K107 hK107 => ?_
            obtain ⟨E, hE⟩ : ∃ E, E = stEnd L y5 a5 := ⟨_, rfl⟩
            have HC9 := Keep.mk (xend_y D10.out.rx)
            rw [← hE] at HC9
            obtain ⟨eb, heb⟩ : ∃ eb, eb = bOf E a5 := ⟨_, rfl⟩
            rw [← heb] at HC9
            have Heb := Keep.mk heb
            clear heb
            have hnw : nextW L 1 = 0 := by rw [← hW0.out]; exact h5_2
            have hL0 : L.getD 0 0 = k := by have h := hk.out; rw [if_pos h5_2] at h; exact h.symm
            have hhas : hasI (L.getD 0 0) = [3] := by rw [hL0, hk2]; rfl
            have hd := decM_of hnw (by rw [hhas]; simp) _ rfl
            rw [hhas, hL0] at hd
            have hg : getFs L [3] { zeroM with k := k } 1 = (y5, a5, { zeroM with k := k, wt := H5 }) := by
              rw [getFs_sing]; unfold getF; rw [if_neg (by decide), if_neg (by decide), if_neg (by decide), if_pos rfl, ← HE5.out]
            rw [hg] at hd
            have Hdec : Keep ((decM L).1 = E ∧ (decM L).2.1 = a5) := ⟨by rw [hE]; exact ⟨hd.1, hd.2.1⟩⟩
            have HdM : Keep (E = 0 → (decM L).2.2 = { zeroM with k := k, wt := Q5 }) := ⟨fun h => by
              have hy : y5 = 0 := by
                by_cases h0 : y5 = 0
                · exact h0
                · rw [hE, stEnd, if_neg h0] at h; exact absurd h h0
              rw [hd.2.2 (by rw [← hE]; exact h), HPe5.out hy]⟩
            clear hd hhas hnw hL0
            clear hE
            refine wp_region_list (WL.out ?_)
            refine WL.val (by kernel_rfl) (.pointer (some ⟨x, 0, none⟩)) (by go_simp) ?_
            simp only [Act.put, List.setIfInBounds_toArray, List.set_cons_zero, List.set_cons_succ]
            refine WL.callF (by kernel_rfl) 44 _ _ rfl Try.in44 #[ptr x] (by simp [Act.eval]) ?_
            refine (HC9.out).mono ?_
            rintro e w30 ⟨rfl, h1, h2⟩
            refine ⟨_, rfl, ?_⟩
            have DE := Keep.mk (D10.out.rd h1 h2)
            clear h1 h2 HC9
            simp only [Act.put, List.setIfInBounds_toArray, List.set_cons_zero, List.set_cons_succ]
            refine WL.storeR (by kernel_rfl) 41 (.tmp 6) (.tmp 132) rfl g6 (erA E eb) rfl rfl 41 (erA W0 e0) DE.out.b6 (Try.size41B _ _) (erA_sizes _ _ _ _) (erA_one _ _) ?_
            have DF := Keep.mk (DE.out.setE E eb)
            generalize w30.setRow g6 (erA E eb) = w31 at *
            have e6 : w31.cell? ⟨g6, 0, none⟩ = some (.int .i64 E) := DF.out.b6.c 0 rfl
            simp only [Act.put]
            refine WL.nil ?_
            refine hK107 _ _ ?_
            refine wp_seq_k fun K108 hK108 => ?_
            refine wp_seq_k fun K109 hK109 => ?_
            refine wp_region_list (WL.out ?_)
            refine WL.val (by kernel_rfl) (.pointer (some ⟨g6, 0, none⟩)) (by go_simp) ?_
            simp only [Act.put, List.setIfInBounds_toArray, List.set_cons_zero, List.set_cons_succ]
            refine WL.val (by kernel_rfl) (.int .i64 E) (by go_simp) ?_
            simp only [Act.put, List.setIfInBounds_toArray, List.set_cons_zero, List.set_cons_succ]
            by_cases h26_2 : E = 0
            · skip
              refine WL.val (by kernel_rfl) (.bool false) (by go_simp) ?_
              simp only [Act.put, List.setIfInBounds_toArray, List.set_cons_zero, List.set_cons_succ]
              refine WL.nil ?_
              refine hK109 _ _ ?_
              refine wp_cond_false rfl ?_
              refine wp_skip ?_
              refine hK108 _ _ ?_
              refine wp_seq_k fun K110 hK110 => ?_
              have HfM : Keep (MsAt w31 (decM L).2.2 ⟨k, noS, 0, noS, .slice ta Q5.length tc, noS⟩) := ⟨by
                have h := HdM.out h26_2
                rw [h]; exact DF.out.has⟩
              have HAt : Keep (∀ wx, (Grown w31 wx fun k => k < B0) → MsAt wx (decM L).2.2 ⟨k, noS, 0, noS, .slice ta Q5.length tc, noS⟩) := ⟨fun wx hw => by
                have h := HdM.out h26_2
                rw [h]; exact DF.out.at_ wx hw⟩
              refine wp_region_held_drew (S := fun wx => wx.rangeAt g7 0 (msA ⟨k, noS, 0, noS, .slice ta Q5.length tc, noS⟩).toList ∧ wx.rangeAt g6 0 (erA E eb).toList) (by kernel_rfl) (⟨blk_range DF.out.m.drew, blk_range DF.out.b6.drew⟩) (fun hHeld => ?_)
              refine wpAnyH_take (i := 0) (oi := ⟨some 138, Op.load 28 (Operand.tmp 7), 28, _, _, none⟩) (v := .agg (msA ⟨k, noS, 0, noS, .slice ta Q5.length tc, noS⟩).toList.toArray) rfl (by kernel_rfl) (by kernel_rfl) (by kernel_rfl) (fun _ _ _ h => h) (yieldsIf_load_mid (by rfl) 28 (Operand.tmp 7) rfl g7 0 rfl (msA ⟨k, noS, 0, noS, .slice ta Q5.length tc, noS⟩).toList _ (fun w hS => hS.1) Try.underlying28 rfl (by rw [Array.length_toList]; exact Try.size28B _)) hHeld ?_
              simp only [Act.put, List.setIfInBounds_toArray, List.set_cons_zero, List.set_cons_succ]
              simp only [Array.toArray_toList]
              refine wpAnyH_take (i := 1) (oi := ⟨some 139, Op.load 41 (Operand.tmp 6), 41, _, _, none⟩) (v := .agg (erA E eb).toList.toArray) rfl (by kernel_rfl) (by kernel_rfl) (by kernel_rfl) (fun _ _ _ h => h) (yieldsIf_load_mid (by rfl) 41 (Operand.tmp 6) rfl g6 0 rfl (erA E eb).toList _ (fun w hS => hS.2) Try.underlying41 rfl (by rw [Array.length_toList]; exact Try.size41B _ _)) hHeld ?_
              simp only [Act.put, List.setIfInBounds_toArray, List.set_cons_zero, List.set_cons_succ]
              simp only [Array.toArray_toList]
              refine wpAnyH_ready (rs := [2]) (by kernel_rfl) (by simp) ?_
              refine AllReadyH.cons (o := ⟨none, Op.store 28 (Operand.tmp 2) (Operand.tmp 138), 0, _, _, none⟩) rfl (fun K hK => ?_) AllReadyH.nil
              rw [if_pos (by rfl)]
              refine wp_store_row 28 (.tmp 2) (.tmp 138) rfl g2 (msA ⟨k, noS, 0, noS, .slice ta Q5.length tc, noS⟩) (by simp [Act.eval]) (by simp [Act.eval]) 28 (msA zeroC) DF.out.b2.drew (Try.size28B _) (ms_sizes _ _) (HfM.out.sl.one) ?_
              refine hK.out _ _ (⟨blk_range (DF.out.m.drew.setRow_ne (fun e => DF.out.n27 e.symm) _), blk_range (DF.out.b6.drew.setRow_ne (blk_ne DF.out.b6 DF.out.b2 (by decide)) _)⟩) fun hHb => ?_
              clear hK
              simp only [Act.put, List.setIfInBounds_toArray, List.set_cons_zero, List.set_cons_succ]
              refine wpAnyH_ready (rs := [3]) (by kernel_rfl) (by simp) ?_
              refine AllReadyH.cons (o := ⟨none, Op.store 41 (Operand.tmp 3) (Operand.tmp 139), 0, _, _, none⟩) rfl (fun K hK => ?_) AllReadyH.nil
              rw [if_pos (by rfl)]
              refine wp_store_row 41 (.tmp 3) (.tmp 139) rfl g3 (erA E eb) (by simp [Act.eval]) (by simp [Act.eval]) 41 (erA 0 0) (DF.out.b3.drew.setRow_ne (blk_ne DF.out.b3 DF.out.b2 (by decide)) _) (Try.size41B _ _) (erA_sizes _ _ _ _) (erA_one _ _) ?_
              refine hK.out _ _ (⟨blk_range ((DF.out.m.drew.setRow_ne (fun e => DF.out.n27 e.symm) _).setRow_ne (blk_ne DF.out.m DF.out.b3 (by decide)) _), blk_range ((DF.out.b6.drew.setRow_ne (blk_ne DF.out.b6 DF.out.b2 (by decide)) _).setRow_ne (fun e => DF.out.n36 e.symm) _)⟩) fun hHc => ?_
              clear hK
              simp only [Act.put, List.setIfInBounds_toArray, List.set_cons_zero, List.set_cons_succ]
              refine wpAnyH_done (by kernel_rfl) ?_ _
              refine hK110 _ _ ?_
              refine wp_ret ?_
              try simp only [Exit.then]
              refine bodyPost_ret (v := .tuple #[.agg (msA ⟨k, noS, 0, noS, .slice ta Q5.length tc, noS⟩), .agg (erA E eb)]) (results_cell_cell_row Try.results14 _ _ g2 g3 28 41 _ _ (0, 0) (0, 0) _ _ rfl rfl ((DF.out.b2.drew.setRow (msA ⟨k, noS, 0, noS, .slice ta Q5.length tc, noS⟩)).setRow_ne (blk_ne DF.out.b2 DF.out.b3 (by decide)) _) ((DF.out.b3.drew.setRow_ne (blk_ne DF.out.b3 DF.out.b2 (by decide)) (msA ⟨k, noS, 0, noS, .slice ta Q5.length tc, noS⟩)).setRow _) Try.underlying28 rfl (Try.size28B _) Try.underlying41 rfl (Try.size41B _ _)) rfl ?_
              refine ⟨below_setRow (below_setRow (DF.out.rx.bel.drew) DF.out.lo.1 _) DF.out.lo.2.1 _, .inl ⟨by rw [Hdec.out.1]; exact h26_2, _, ?_, HAt.out _ ?_⟩⟩
              · rw [Heb.out, h26_2]; rfl
              · exact (((Grown.refl w31 _).drew).trans (Grown.setRow w31.drew g2 _ fun _ => DF.out.hi.1)).trans (Grown.setRow _ g3 _ fun _ => DF.out.hi.2.1)
            · skip
              refine WL.val (by kernel_rfl) (.bool true) (by go_simp) ?_
              simp only [Act.put, List.setIfInBounds_toArray, List.set_cons_zero, List.set_cons_succ]
              refine WL.nil ?_
              refine hK109 _ _ ?_
              refine wp_cond_true rfl ?_
              refine wp_seq_k fun K111 hK111 => ?_
              refine wp_region_held_drew (S := fun wx => wx.rangeAt g6 0 (erA E eb).toList) (by kernel_rfl) (blk_range DF.out.b6.drew) (fun hHeld => ?_)
              refine wpAnyH_take (i := 0) (oi := ⟨some 136, Op.build 28 #[], 28, _, _, none⟩) (v := .agg (msA zeroC)) rfl (by kernel_rfl) (by kernel_rfl) (by kernel_rfl) (fun _ _ _ h => h) (Or.inl ⟨by rfl, fun w hS => by first | kernel_rfl | (have h := run_bldM w; go_simp)⟩) hHeld ?_
              simp only [Act.put, List.setIfInBounds_toArray, List.set_cons_zero, List.set_cons_succ]
              refine wpAnyH_take (i := 1) (oi := ⟨some 137, Op.load 41 (Operand.tmp 6), 41, _, _, none⟩) (v := .agg (erA E eb).toList.toArray) rfl (by kernel_rfl) (by kernel_rfl) (by kernel_rfl) (fun _ _ _ h => h) (yieldsIf_load_mid (by rfl) 41 (Operand.tmp 6) rfl g6 0 rfl (erA E eb).toList _ (fun w hS => hS) Try.underlying41 rfl (by rw [Array.length_toList]; exact Try.size41B _ _)) hHeld ?_
              simp only [Act.put, List.setIfInBounds_toArray, List.set_cons_zero, List.set_cons_succ]
              simp only [Array.toArray_toList]
              refine wpAnyH_ready (rs := [2]) (by kernel_rfl) (by simp) ?_
              refine AllReadyH.cons (o := ⟨none, Op.store 28 (Operand.tmp 2) (Operand.tmp 136), 0, _, _, none⟩) rfl (fun K hK => ?_) AllReadyH.nil
              rw [if_pos (by rfl)]
              refine wp_store_row 28 (.tmp 2) (.tmp 136) rfl g2 (msA zeroC) (by simp [Act.eval]) (by simp [Act.eval]) 28 (msA zeroC) DF.out.b2.drew (Try.size28B _) (ms_sizes _ _) (SlC.zero.one) ?_
              refine hK.out _ _ (blk_range (DF.out.b6.drew.setRow_ne (blk_ne DF.out.b6 DF.out.b2 (by decide)) _)) fun hHb => ?_
              clear hK
              simp only [Act.put, List.setIfInBounds_toArray, List.set_cons_zero, List.set_cons_succ]
              refine wpAnyH_ready (rs := [3]) (by kernel_rfl) (by simp) ?_
              refine AllReadyH.cons (o := ⟨none, Op.store 41 (Operand.tmp 3) (Operand.tmp 137), 0, _, _, none⟩) rfl (fun K hK => ?_) AllReadyH.nil
              rw [if_pos (by rfl)]
              refine wp_store_row 41 (.tmp 3) (.tmp 137) rfl g3 (erA E eb) (by simp [Act.eval]) (by simp [Act.eval]) 41 (erA 0 0) (DF.out.b3.drew.setRow_ne (blk_ne DF.out.b3 DF.out.b2 (by decide)) _) (Try.size41B _ _) (erA_sizes _ _ _ _) (erA_one _ _) ?_
              refine hK.out _ _ (blk_range ((DF.out.b6.drew.setRow_ne (blk_ne DF.out.b6 DF.out.b2 (by decide)) _).setRow_ne (fun e => DF.out.n36 e.symm) _)) fun hHc => ?_
              clear hK
              simp only [Act.put, List.setIfInBounds_toArray, List.set_cons_zero, List.set_cons_succ]
              refine wpAnyH_done (by kernel_rfl) ?_ _
              refine hK111 _ _ ?_
              refine wp_ret ?_
              try simp only [Exit.then]
              refine bodyPost_ret (v := .tuple #[.agg (msA zeroC), .agg (erA E eb)]) (results_cell_cell_row Try.results14 _ _ g2 g3 28 41 _ _ (0, 0) (0, 0) _ _ rfl rfl ((DF.out.b2.drew.setRow (msA zeroC)).setRow_ne (blk_ne DF.out.b2 DF.out.b3 (by decide)) _) ((DF.out.b3.drew.setRow_ne (blk_ne DF.out.b3 DF.out.b2 (by decide)) (msA zeroC)).setRow _) Try.underlying28 rfl (Try.size28B _) Try.underlying41 rfl (Try.size41B _ _)) rfl ?_
              refine ⟨below_setRow (below_setRow (DF.out.rx.bel.drew) DF.out.lo.1 _) DF.out.lo.2.1 _, .inr ⟨by rw [Hdec.out.1]; exact h26_2, ?_⟩⟩
              rw [Hdec.out.1, Hdec.out.2, Heb.out, bOf_1 h26_2]
  · skip
    refine WL.val (by kernel_rfl) (.bool false) (by go_simp) ?_
    simp only [Act.put, List.setIfInBounds_toArray, List.set_cons_zero, List.set_cons_succ]
    refine WL.val (by kernel_rfl) (.bool false) (by go_simp) ?_
    simp only [Act.put, List.setIfInBounds_toArray, List.set_cons_zero, List.set_cons_succ]
    refine WL.skip (by kernel_rfl) ?_
    simp only [Act.put, List.setIfInBounds_toArray, List.set_cons_zero, List.set_cons_succ]
    refine WL.skip (by kernel_rfl) ?_
    simp only [Act.put, List.setIfInBounds_toArray, List.set_cons_zero, List.set_cons_succ]
    refine WL.skip (by kernel_rfl) ?_
    simp only [Act.put, List.setIfInBounds_toArray, List.set_cons_zero, List.set_cons_succ]
    refine WL.skip (by kernel_rfl) ?_
    simp only [Act.put, List.setIfInBounds_toArray, List.set_cons_zero, List.set_cons_succ]
    refine WL.skip (by kernel_rfl) ?_
    simp only [Act.put, List.setIfInBounds_toArray, List.set_cons_zero, List.set_cons_succ]
    refine WL.skip (by kernel_rfl) ?_
    simp only [Act.put, List.setIfInBounds_toArray, List.set_cons_zero, List.set_cons_succ]
    refine WL.val (by kernel_rfl) (.bool false) (by go_simp) ?_
    simp only [Act.put, List.setIfInBounds_toArray, List.set_cons_zero, List.set_cons_succ]
    refine WL.nil ?_
    refine hK7 _ _ ?_
    refine wp_cond_false rfl ?_
    refine wp_skip ?_
    refine hK6 _ _ ?_
    refine wp_seq_k fun K112 hK112 => ?_
    have Hk0 : Keep (k = 0) := ⟨by rw [hk.out, if_neg h5_2]⟩
    have hk1 : ¬ k = 1 := by have := Hk0.out; omega
    have hk3 : ¬ k = 3 := by have := Hk0.out; omega
    clear c60
    refine wp_region_list (WL.out ?_)
    refine WL.val (by kernel_rfl) (.int .u8 k) (by go_simp) ?_
    simp only [Act.put, List.setIfInBounds_toArray, List.set_cons_zero, List.set_cons_succ]
    refine WL.val (by kernel_rfl) (.int .i64 k) (by go_simp) ?_
    simp only [Act.put, List.setIfInBounds_toArray, List.set_cons_zero, List.set_cons_succ]
    refine WL.bld (by kernel_rfl) 28 _ rfl [(0, .int .i64 k)] (by simp [Act.eval]) (msA ⟨k, noS, 0, noS, noS, noS⟩) (ms_built1 k) ?_
    simp only [Act.put, List.setIfInBounds_toArray, List.set_cons_zero, List.set_cons_succ]
    refine WL.new (by kernel_rfl) 28 rfl _ Try.new28M ?_
    have b7 := Keep.mk (Blk.new w6 28 (msA zeroC))
    have BB := Keep.mk (below_new w6 (.cells (msA zeroC) 28))
    generalize w6.alloc (.cells (msA zeroC) 28) = w8 at *
    obtain ⟨g7, hg7⟩ : ∃ g, Keep (g = w6.heap.size) := ⟨_, ⟨rfl⟩⟩
    rw [← hg7.out] at b7 ⊢
    simp only [Act.put, List.setIfInBounds_toArray, List.set_cons_zero, List.set_cons_succ]
    refine WL.storeR (by kernel_rfl) 28 (.tmp 7) (.tmp 43) rfl g7 (msA ⟨k, noS, 0, noS, noS, noS⟩) rfl rfl 28 (msA zeroC) b7.out (Try.size28B _) (ms_sizes _ _) (SlC.one ⟨⟨_, _, _, rfl⟩, ⟨_, _, _, rfl⟩, ⟨_, _, _, rfl⟩, ⟨_, _, _, rfl⟩⟩) ?_
    have BC := Keep.mk (below_setRow BB.out (b := g7) (by rw [hg7.out]; exact Nat.le_refl _) (msA ⟨k, noS, 0, noS, noS, noS⟩))
    have b7e := Keep.mk (b7.out.setRow (msA ⟨k, noS, 0, noS, noS, noS⟩))
    generalize w8.setRow g7 (msA ⟨k, noS, 0, noS, noS, noS⟩) = w9 at *
    obtain ⟨B0, hB0⟩ : ∃ B, Keep (B = w9.heap.size) := ⟨_, ⟨rfl⟩⟩
    have D0 : Keep (DS w g2 g3 x g6 g7 B0 (.slice va L.length vc) L W0 N0 W0 e0 (fun wx => MsAt wx { zeroM with k := k } ⟨k, noS, 0, noS, noS, noS⟩) ⟨k, noS, 0, noS, noS, noS⟩ w9) := ⟨⟨HX6.out.below BC.out, b7e.out, b2e.out.below BC.out b2e.out.lt, b3e.out.below BC.out b3e.out.lt, b6e.out.below BC.out b6e.out.lt, fun wx _ => ⟨rfl, rfl, hrow_nil wx, .inl ⟨rfl, rfl⟩, hrow_nil wx, RwsAt.nil wx⟩, fun e => by have := b2e.out.lt; have := hg7.out; omega, n36.out, ⟨by rw [hg2.out]; exact Nat.le_refl _, hz3.out, hz6.out, by rw [hg7.out]; exact HX6.out.bel.size⟩, by rw [hB0.out]; exact ⟨(b2e.out.below BC.out b2e.out.lt).lt, (b3e.out.below BC.out b3e.out.lt).lt, (b6e.out.below BC.out b6e.out.lt).lt, b7e.out.lt, (HX6.out.below BC.out).blk.lt, Nat.le_refl _⟩⟩⟩
    clear HX6 b2e b3e b6e b7 b7e BB BC n36 hz6 hz3 hg7 hg2 hB0
    have k0 := D0.out.m.c 0 (ms_0 _)
    skip
    simp only [Act.put]
    refine WL.nil ?_
    refine hK112 _ _ ?_
    refine wp_seq_k fun K113 hK113 => ?_
    refine wp_seq_k fun K114 hK114 => ?_
    refine wp_region_list (WL.out ?_)
    refine WL.val (by kernel_rfl) (.pointer (some ⟨g7, 0, none⟩)) (by go_simp) ?_
    simp only [Act.put, List.setIfInBounds_toArray, List.set_cons_zero, List.set_cons_succ]
    refine WL.val (by kernel_rfl) (.int .i64 k) (by go_simp) ?_
    simp only [Act.put, List.setIfInBounds_toArray, List.set_cons_zero, List.set_cons_succ]
    refine WL.val (by kernel_rfl) (.bool false) (by go_simp) ?_
    simp only [Act.put, List.setIfInBounds_toArray, List.set_cons_zero, List.set_cons_succ]
    refine WL.val (by kernel_rfl) (.bool false) (by go_simp) ?_
    simp only [Act.put, List.setIfInBounds_toArray, List.set_cons_zero, List.set_cons_succ]
    refine WL.skip (by kernel_rfl) ?_
    simp only [Act.put, List.setIfInBounds_toArray, List.set_cons_zero, List.set_cons_succ]
    refine WL.skip (by kernel_rfl) ?_
    simp only [Act.put, List.setIfInBounds_toArray, List.set_cons_zero, List.set_cons_succ]
    refine WL.skip (by kernel_rfl) ?_
    simp only [Act.put, List.setIfInBounds_toArray, List.set_cons_zero, List.set_cons_succ]
    refine WL.skip (by kernel_rfl) ?_
    simp only [Act.put, List.setIfInBounds_toArray, List.set_cons_zero, List.set_cons_succ]
    refine WL.skip (by kernel_rfl) ?_
    simp only [Act.put, List.setIfInBounds_toArray, List.set_cons_zero, List.set_cons_succ]
    refine WL.skip (by kernel_rfl) ?_
    simp only [Act.put, List.setIfInBounds_toArray, List.set_cons_zero, List.set_cons_succ]
    refine WL.val (by kernel_rfl) (.bool false) (by go_simp) ?_
    simp only [Act.put, List.setIfInBounds_toArray, List.set_cons_zero, List.set_cons_succ]
    refine WL.nil ?_
    refine hK114 _ _ ?_
    refine wp_cond_false rfl ?_
    refine wp_skip ?_
    refine hK113 _ _ ?_
    refine wp_seq_k fun K115 hK115 => ?_
    refine wp_seq_k fun K116 hK116 => ?_
    have hk2 : k ≤ 2 := by have := Hk0.out; omega
    have r2 := D0.out.rx.c2
    refine wp_region_list (WL.out ?_)
    refine WL.val (by kernel_rfl) (.pointer (some ⟨g7, 0, none⟩)) (by go_simp) ?_
    simp only [Act.put, List.setIfInBounds_toArray, List.set_cons_zero, List.set_cons_succ]
    refine WL.val (by kernel_rfl) (.int .i64 k) (by go_simp) ?_
    simp only [Act.put, List.setIfInBounds_toArray, List.set_cons_zero, List.set_cons_succ]
    refine WL.val (by kernel_rfl) (.bool true) (by go_simp) ?_
    simp only [Act.put, List.setIfInBounds_toArray, List.set_cons_zero, List.set_cons_succ]
    refine WL.val (by kernel_rfl) (.bool true) (by go_simp) ?_
    simp only [Act.put, List.setIfInBounds_toArray, List.set_cons_zero, List.set_cons_succ]
    refine WL.val (by kernel_rfl) (.pointer (some ⟨x, 0, none⟩)) (by go_simp) ?_
    simp only [Act.put, List.setIfInBounds_toArray, List.set_cons_zero, List.set_cons_succ]
    refine WL.val (by kernel_rfl) (.pointer (some ⟨x, 0, none⟩)) (by go_simp) ?_
    simp only [Act.put, List.setIfInBounds_toArray, List.set_cons_zero, List.set_cons_succ]
    refine WL.val (by kernel_rfl) (.pointer (some ⟨x, 2, none⟩)) (by go_simp) ?_
    simp only [Act.put, List.setIfInBounds_toArray, List.set_cons_zero, List.set_cons_succ]
    refine WL.val (by kernel_rfl) (.pointer (some ⟨x, 2, none⟩)) (by go_simp) ?_
    simp only [Act.put, List.setIfInBounds_toArray, List.set_cons_zero, List.set_cons_succ]
    refine WL.val (by kernel_rfl) (.int .i64 W0) (by go_simp) ?_
    simp only [Act.put, List.setIfInBounds_toArray, List.set_cons_zero, List.set_cons_succ]
    refine WL.val (by kernel_rfl) (.bool false) (by go_simp) ?_
    simp only [Act.put, List.setIfInBounds_toArray, List.set_cons_zero, List.set_cons_succ]
    refine WL.val (by kernel_rfl) (.bool false) (by go_simp) ?_
    simp only [Act.put, List.setIfInBounds_toArray, List.set_cons_zero, List.set_cons_succ]
    refine WL.nil ?_
    refine hK116 _ _ ?_
    refine wp_cond_false rfl ?_
    refine wp_skip ?_
    refine hK115 _ _ ?_
    refine wp_seq_k fun K117 hK117 => ?_
    refine wp_seq_k fun K118 hK118 => ?_
    refine wp_region_list (WL.out ?_)
    refine WL.val (by kernel_rfl) (.pointer (some ⟨g7, 0, none⟩)) (by go_simp) ?_
    simp only [Act.put, List.setIfInBounds_toArray, List.set_cons_zero, List.set_cons_succ]
    refine WL.val (by kernel_rfl) (.int .i64 k) (by go_simp) ?_
    simp only [Act.put, List.setIfInBounds_toArray, List.set_cons_zero, List.set_cons_succ]
    refine WL.val (by kernel_rfl) (.bool false) (by go_simp) ?_
    simp only [Act.put, List.setIfInBounds_toArray, List.set_cons_zero, List.set_cons_succ]
    refine WL.val (by kernel_rfl) (.bool false) (by go_simp) ?_
    simp only [Act.put, List.setIfInBounds_toArray, List.set_cons_zero, List.set_cons_succ]
    refine WL.skip (by kernel_rfl) ?_
    simp only [Act.put, List.setIfInBounds_toArray, List.set_cons_zero, List.set_cons_succ]
    refine WL.skip (by kernel_rfl) ?_
    simp only [Act.put, List.setIfInBounds_toArray, List.set_cons_zero, List.set_cons_succ]
    refine WL.skip (by kernel_rfl) ?_
    simp only [Act.put, List.setIfInBounds_toArray, List.set_cons_zero, List.set_cons_succ]
    refine WL.skip (by kernel_rfl) ?_
    simp only [Act.put, List.setIfInBounds_toArray, List.set_cons_zero, List.set_cons_succ]
    refine WL.skip (by kernel_rfl) ?_
    simp only [Act.put, List.setIfInBounds_toArray, List.set_cons_zero, List.set_cons_succ]
    refine WL.skip (by kernel_rfl) ?_
    simp only [Act.put, List.setIfInBounds_toArray, List.set_cons_zero, List.set_cons_succ]
    refine WL.val (by kernel_rfl) (.bool false) (by go_simp) ?_
    simp only [Act.put, List.setIfInBounds_toArray, List.set_cons_zero, List.set_cons_succ]
    refine WL.nil ?_
    refine hK118 _ _ ?_
    refine wp_cond_false rfl ?_
    refine wp_skip ?_
    refine hK117 _ _ ?_
    refine wp_seq_k fun K119 hK119 => ?_
    obtain ⟨E, hE⟩ : ∃ E, E = stEnd L W0 N0 := ⟨_, rfl⟩
    have HC9 := Keep.mk (xend_y D0.out.rx)
    rw [← hE] at HC9
    obtain ⟨eb, heb⟩ : ∃ eb, eb = bOf E N0 := ⟨_, rfl⟩
    rw [← heb] at HC9
    have Heb := Keep.mk heb
    clear heb
    have hEn : ¬ E = 0 := by rw [hE, stEnd, if_neg h5_2]; exact h5_2
    have Hdec : Keep ((decM L).1 = E ∧ (decM L).2.1 = N0) := ⟨by
      unfold decM
      rw [← hW0.out, if_pos h5_2, hE, stEnd, if_neg h5_2, hN0.out]
      exact ⟨rfl, (Nat.zero_add _).symm⟩⟩
    clear hE
    have h26_2 := hEn
    refine wp_region_list (WL.out ?_)
    refine WL.val (by kernel_rfl) (.pointer (some ⟨x, 0, none⟩)) (by go_simp) ?_
    simp only [Act.put, List.setIfInBounds_toArray, List.set_cons_zero, List.set_cons_succ]
    refine WL.callF (by kernel_rfl) 44 _ _ rfl Try.in44 #[ptr x] (by simp [Act.eval]) ?_
    refine (HC9.out).mono ?_
    rintro e w30 ⟨rfl, h1, h2⟩
    refine ⟨_, rfl, ?_⟩
    have DE := Keep.mk (D0.out.rd h1 h2)
    clear h1 h2 HC9
    simp only [Act.put, List.setIfInBounds_toArray, List.set_cons_zero, List.set_cons_succ]
    refine WL.storeR (by kernel_rfl) 41 (.tmp 6) (.tmp 132) rfl g6 (erA E eb) rfl rfl 41 (erA W0 e0) DE.out.b6 (Try.size41B _ _) (erA_sizes _ _ _ _) (erA_one _ _) ?_
    have DF := Keep.mk (DE.out.setE E eb)
    generalize w30.setRow g6 (erA E eb) = w31 at *
    have e6 : w31.cell? ⟨g6, 0, none⟩ = some (.int .i64 E) := DF.out.b6.c 0 rfl
    simp only [Act.put]
    refine WL.nil ?_
    refine hK119 _ _ ?_
    refine wp_seq_k fun K120 hK120 => ?_
    refine wp_seq_k fun K121 hK121 => ?_
    refine wp_region_list (WL.out ?_)
    refine WL.val (by kernel_rfl) (.pointer (some ⟨g6, 0, none⟩)) (by go_simp) ?_
    simp only [Act.put, List.setIfInBounds_toArray, List.set_cons_zero, List.set_cons_succ]
    refine WL.val (by kernel_rfl) (.int .i64 E) (by go_simp) ?_
    simp only [Act.put, List.setIfInBounds_toArray, List.set_cons_zero, List.set_cons_succ]
    refine WL.val (by kernel_rfl) (.bool true) (by go_simp) ?_
    simp only [Act.put, List.setIfInBounds_toArray, List.set_cons_zero, List.set_cons_succ]
    refine WL.nil ?_
    refine hK121 _ _ ?_
    refine wp_cond_true rfl ?_
    refine wp_seq_k fun K122 hK122 => ?_
    refine wp_region_held_drew (S := fun wx => wx.rangeAt g6 0 (erA E eb).toList) (by kernel_rfl) (blk_range DF.out.b6.drew) (fun hHeld => ?_)
    refine wpAnyH_take (i := 0) (oi := ⟨some 136, Op.build 28 #[], 28, _, _, none⟩) (v := .agg (msA zeroC)) rfl (by kernel_rfl) (by kernel_rfl) (by kernel_rfl) (fun _ _ _ h => h) (Or.inl ⟨by rfl, fun w hS => by first | kernel_rfl | (have h := run_bldM w; go_simp)⟩) hHeld ?_
    simp only [Act.put, List.setIfInBounds_toArray, List.set_cons_zero, List.set_cons_succ]
    refine wpAnyH_take (i := 1) (oi := ⟨some 137, Op.load 41 (Operand.tmp 6), 41, _, _, none⟩) (v := .agg (erA E eb).toList.toArray) rfl (by kernel_rfl) (by kernel_rfl) (by kernel_rfl) (fun _ _ _ h => h) (yieldsIf_load_mid (by rfl) 41 (Operand.tmp 6) rfl g6 0 rfl (erA E eb).toList _ (fun w hS => hS) Try.underlying41 rfl (by rw [Array.length_toList]; exact Try.size41B _ _)) hHeld ?_
    simp only [Act.put, List.setIfInBounds_toArray, List.set_cons_zero, List.set_cons_succ]
    simp only [Array.toArray_toList]
    refine wpAnyH_ready (rs := [2]) (by kernel_rfl) (by simp) ?_
    refine AllReadyH.cons (o := ⟨none, Op.store 28 (Operand.tmp 2) (Operand.tmp 136), 0, _, _, none⟩) rfl (fun K hK => ?_) AllReadyH.nil
    rw [if_pos (by rfl)]
    refine wp_store_row 28 (.tmp 2) (.tmp 136) rfl g2 (msA zeroC) (by simp [Act.eval]) (by simp [Act.eval]) 28 (msA zeroC) DF.out.b2.drew (Try.size28B _) (ms_sizes _ _) (SlC.zero.one) ?_
    refine hK.out _ _ (blk_range (DF.out.b6.drew.setRow_ne (blk_ne DF.out.b6 DF.out.b2 (by decide)) _)) fun hHb => ?_
    clear hK
    simp only [Act.put, List.setIfInBounds_toArray, List.set_cons_zero, List.set_cons_succ]
    refine wpAnyH_ready (rs := [3]) (by kernel_rfl) (by simp) ?_
    refine AllReadyH.cons (o := ⟨none, Op.store 41 (Operand.tmp 3) (Operand.tmp 137), 0, _, _, none⟩) rfl (fun K hK => ?_) AllReadyH.nil
    rw [if_pos (by rfl)]
    refine wp_store_row 41 (.tmp 3) (.tmp 137) rfl g3 (erA E eb) (by simp [Act.eval]) (by simp [Act.eval]) 41 (erA 0 0) (DF.out.b3.drew.setRow_ne (blk_ne DF.out.b3 DF.out.b2 (by decide)) _) (Try.size41B _ _) (erA_sizes _ _ _ _) (erA_one _ _) ?_
    refine hK.out _ _ (blk_range ((DF.out.b6.drew.setRow_ne (blk_ne DF.out.b6 DF.out.b2 (by decide)) _).setRow_ne (fun e => DF.out.n36 e.symm) _)) fun hHc => ?_
    clear hK
    simp only [Act.put, List.setIfInBounds_toArray, List.set_cons_zero, List.set_cons_succ]
    refine wpAnyH_done (by kernel_rfl) ?_ _
    refine hK122 _ _ ?_
    refine wp_ret ?_
    try simp only [Exit.then]
    refine bodyPost_ret (v := .tuple #[.agg (msA zeroC), .agg (erA E eb)]) (results_cell_cell_row Try.results14 _ _ g2 g3 28 41 _ _ (0, 0) (0, 0) _ _ rfl rfl ((DF.out.b2.drew.setRow (msA zeroC)).setRow_ne (blk_ne DF.out.b2 DF.out.b3 (by decide)) _) ((DF.out.b3.drew.setRow_ne (blk_ne DF.out.b3 DF.out.b2 (by decide)) (msA zeroC)).setRow _) Try.underlying28 rfl (Try.size28B _) Try.underlying41 rfl (Try.size41B _ _)) rfl ?_
    refine ⟨below_setRow (below_setRow (DF.out.rx.bel.drew) DF.out.lo.1 _) DF.out.lo.2.1 _, .inr ⟨by rw [Hdec.out.1]; exact h26_2, ?_⟩⟩
    rw [Hdec.out.1, Hdec.out.2, Heb.out, bOf_1 h26_2]
set_option maxRecDepth 8000 in
set_option maxHeartbeats 4000000 in
theorem decodes_any (v : Value) (l : List Int) (w : World) (hr : RowAt w v l) (hB : Byts l) (hln : l.length ≤ 140737488355328) : Calls Try.prog 5 #[v] w fun e w' => e = .returned (.bool true) ∧ Below w.heap.size w w' := by
  obtain ⟨va, vc, rfl⟩ := row_form hr
  have HR := Keep.mk hr
  have HBy := Keep.mk hB
  have HLn := Keep.mk hln
  clear hr hB hln
  go_enter Try.func5, Try.ntmps5
  refine wp_seq_k fun K1 hK1 => ?_
  refine wp_region_list (WL.out ?_)
  refine WL.val (by kernel_rfl) (.bool false) (by go_simp) ?_
  simp only [Act.put, List.setIfInBounds_toArray, List.set_cons_zero, List.set_cons_succ]
  refine WL.nil ?_
  refine hK1 _ _ ?_
  refine wp_seq_k fun K2 hK2 => ?_
  refine wp_region_list (WL.out ?_)
  refine WL.val (by kernel_rfl) (.slice va l.length vc) (by go_simp) ?_
  simp only [Act.put, List.setIfInBounds_toArray, List.set_cons_zero, List.set_cons_succ]
  refine WL.callF (by kernel_rfl) 13 _ _ rfl Try.in13 #[.slice va l.length vc] (by simp [Act.eval]) ?_
  refine (decode_any _ l w HR.out HBy.out HLn.out).mono ?_
  rintro e w2 ⟨hb2, h1⟩
  have B2 := Keep.mk hb2
  have HR2 := Keep.mk (HR.out.below hb2)
  clear hb2
  rcases h1 with ⟨hbig, rfl⟩ | ⟨hsm, h0, cm, rfl, hD⟩ | ⟨hsm, h0, q, hq, rfl, hbad⟩
  · refine ⟨_, rfl, ?_⟩
    simp only [Act.put, List.setIfInBounds_toArray, List.set_cons_zero, List.set_cons_succ]
    refine WL.val (by kernel_rfl) (.tuple #[.agg (msA zeroC), .iface 29 (.int .i64 4)]) (by go_simp) ?_
    simp only [Act.put, List.setIfInBounds_toArray, List.set_cons_zero, List.set_cons_succ]
    refine WL.val (by kernel_rfl) (.agg (msA zeroC)) (by go_simp) ?_
    simp only [Act.put, List.setIfInBounds_toArray, List.set_cons_zero, List.set_cons_succ]
    refine WL.val (by kernel_rfl) (.iface 29 (.int .i64 4)) (by go_simp) ?_
    simp only [Act.put, List.setIfInBounds_toArray, List.set_cons_zero, List.set_cons_succ]
    refine WL.new (by kernel_rfl) 28 rfl _ Try.new28M ?_
    have HNg3 := Keep.mk (Blk.new w2 28 (msA zeroC))
    have BNg3 := Keep.mk (below_new w2 (.cells (msA zeroC) 28))
    generalize w2.alloc (.cells (msA zeroC) 28) = w3a at *
    have Hsg3 : Keep (w2.heap.size = w2.heap.size) := ⟨rfl⟩
    simp only [Act.put, List.setIfInBounds_toArray, List.set_cons_zero, List.set_cons_succ]
    refine WL.storeR (by kernel_rfl) 28 (.tmp 3) (.tmp 12) rfl w2.heap.size (msA zeroC) rfl rfl 28 (msA zeroC) HNg3.out (Try.size28B _) rfl (SlC.zero.one) ?_
    have HMg3 := Keep.mk (HNg3.out.setRow (msA zeroC))
    have Bmg3 : Keep (Below w2.heap.size w2 (w3a.setRow w2.heap.size (msA zeroC))) := ⟨below_setRow BNg3.out (Nat.le_refl _) _⟩
    generalize w3a.setRow w2.heap.size (msA zeroC) = w3 at *
    generalize w2.heap.size = g3 at HMg3 ⊢
    clear HNg3 BNg3 Hsg3
    have B3 : Keep (Below w.heap.size w w3) := ⟨B2.out.trans (Bmg3.out.mono B2.out.size)⟩
    have HR3 := Keep.mk (HR2.out.below Bmg3.out)
    simp only [Act.put]
    refine WL.val (by kernel_rfl) (.iface 29 (.int .i64 4)) (by go_simp) ?_
    simp only [Act.put, List.setIfInBounds_toArray, List.set_cons_zero, List.set_cons_succ]
    refine WL.nil ?_
    refine hK2 _ _ ?_
    refine wp_seq_k fun K3 hK3 => ?_
    refine wp_region_list (WL.out ?_)
    refine WL.val (by kernel_rfl) (.slice va l.length vc) (by go_simp) ?_
    simp only [Act.put, List.setIfInBounds_toArray, List.set_cons_zero, List.set_cons_succ]
    refine WL.callF (by kernel_rfl) 14 _ _ rfl Try.in14 #[.slice va l.length vc] (by simp [Act.eval]) ?_
    refine (rdec_big _ l w3 HR3.out hbig (by have := HLn.out; omega)).mono ?_
    rintro e w4 ⟨rfl, hb4⟩
    refine ⟨_, rfl, ?_⟩
    have B4 : Keep (Below w.heap.size w w4) := ⟨B3.out.trans (hb4.mono B3.out.size)⟩
    have HG4 := Keep.mk (HMg3.out.below hb4 HMg3.out.lt)
    clear hb4
    simp only [Act.put, List.setIfInBounds_toArray, List.set_cons_zero, List.set_cons_succ]
    refine WL.val (by kernel_rfl) (.tuple #[.agg (msA zeroC), .agg (erA 4 (-1))]) (by go_simp) ?_
    simp only [Act.put, List.setIfInBounds_toArray, List.set_cons_zero, List.set_cons_succ]
    refine WL.val (by kernel_rfl) (.agg (msA zeroC)) (by go_simp) ?_
    simp only [Act.put, List.setIfInBounds_toArray, List.set_cons_zero, List.set_cons_succ]
    refine WL.val (by kernel_rfl) (.agg (erA 4 (-1))) (by go_simp) ?_
    simp only [Act.put, List.setIfInBounds_toArray, List.set_cons_zero, List.set_cons_succ]
    refine WL.new (by kernel_rfl) 28 rfl _ Try.new28M ?_
    have n5 := Keep.mk (Blk.new w4 28 (msA zeroC))
    have nb5 := Keep.mk (below_new w4 (.cells (msA zeroC) 28))
    generalize w4.alloc (.cells (msA zeroC) 28) = w5 at *
    obtain ⟨g5, hg5⟩ : ∃ g, Keep (g = w4.heap.size) := ⟨_, ⟨rfl⟩⟩
    rw [← hg5.out] at n5 ⊢
    simp only [Act.put, List.setIfInBounds_toArray, List.set_cons_zero, List.set_cons_succ]
    refine WL.new (by kernel_rfl) 41 rfl _ Try.new41E ?_
    have n6 := Keep.mk (Blk.new w5 41 (erA 0 0))
    have n5b := Keep.mk (n5.out.alloc (.cells (erA 0 0) 41))
    have nb6 : Keep (Below w4.heap.size w4 (w5.alloc (.cells (erA 0 0) 41))) := ⟨nb5.out.trans ((below_new w5 _).mono nb5.out.size)⟩
    generalize w5.alloc (.cells (erA 0 0) 41) = w6 at *
    obtain ⟨g6, hg6⟩ : ∃ g, Keep (g = w5.heap.size) := ⟨_, ⟨rfl⟩⟩
    rw [← hg6.out] at n6 ⊢
    simp only [Act.put, List.setIfInBounds_toArray, List.set_cons_zero, List.set_cons_succ]
    refine WL.storeR (by kernel_rfl) 28 (.tmp 5) (.tmp 17) rfl g5 (msA zeroC) rfl rfl 28 (msA zeroC) n5b.out (Try.size28B _) (ms_sizes _ _) (SlC.zero.one) ?_
    have n5c := Keep.mk (n5b.out.setRow (msA zeroC))
    have n6c := Keep.mk (n6.out.setRow_ne (b' := g5) (blk_ne n6.out n5b.out (by decide)) (msA zeroC))
    have nb7 := Keep.mk (below_setRow nb6.out (b := g5) (by rw [hg5.out]; exact Nat.le_refl _) (msA zeroC))
    generalize w6.setRow g5 (msA zeroC) = w7 at *
    simp only [Act.put]
    refine WL.storeR (by kernel_rfl) 41 (.tmp 6) (.tmp 18) rfl g6 (erA 4 (-1)) rfl rfl 41 (erA 0 0) n6c.out (Try.size41B _ _) (erA_sizes _ _ _ _) (erA_one _ _) ?_
    have n6d := Keep.mk (n6c.out.setRow (erA 4 (-1)))
    have n5d := Keep.mk (n5c.out.setRow_ne (b' := g6) (blk_ne n5c.out n6c.out (by decide)) (erA 4 (-1)))
    have nb8 := Keep.mk (below_setRow nb7.out (b := g6) (by rw [hg6.out]; exact nb5.out.size) (erA 4 (-1)))
    generalize w7.setRow g6 (erA 4 (-1)) = w8 at *
    have B8 : Keep (Below w.heap.size w w8) := ⟨B4.out.trans (nb8.out.mono B4.out.size)⟩
    have HG8 := Keep.mk (HG4.out.below nb8.out HG4.out.lt)
    simp only [Act.put]
    refine WL.nil ?_
    refine hK3 _ _ ?_
    refine wp_seq_k fun K4 hK4 => ?_
    refine wp_region_list (WL.out ?_)
    refine WL.val (by kernel_rfl) (.iface 29 (.int .i64 4)) (by go_simp) ?_
    simp only [Act.put, List.setIfInBounds_toArray, List.set_cons_zero, List.set_cons_succ]
    refine WL.callF (by kernel_rfl) 15 _ _ rfl Try.in15 #[.iface 29 (.int .i64 4)] (by simp [Act.eval, err, ptr]) ?_
    refine (told_errno w8).mono ?_
    rintro e w9 ⟨rfl, hb9⟩
    refine ⟨_, rfl, ?_⟩
    have B9 : Keep (Below w.heap.size w w9) := ⟨B8.out.trans (hb9.mono B8.out.size)⟩
    have HG9 := Keep.mk (HG8.out.below hb9 HG8.out.lt)
    have n69 := Keep.mk (n6d.out.below hb9 n6d.out.lt)
    have n59 := Keep.mk (n5d.out.below hb9 n5d.out.lt)
    clear hb9
    simp only [Act.put, List.setIfInBounds_toArray, List.set_cons_zero, List.set_cons_succ]
    refine WL.val (by kernel_rfl) (.tuple #[.agg (erA 4 (-1)), .bool true]) (by go_simp) ?_
    simp only [Act.put, List.setIfInBounds_toArray, List.set_cons_zero, List.set_cons_succ]
    refine WL.val (by kernel_rfl) (.agg (erA 4 (-1))) (by go_simp) ?_
    simp only [Act.put, List.setIfInBounds_toArray, List.set_cons_zero, List.set_cons_succ]
    refine WL.val (by kernel_rfl) (.bool true) (by go_simp) ?_
    simp only [Act.put, List.setIfInBounds_toArray, List.set_cons_zero, List.set_cons_succ]
    refine WL.new (by kernel_rfl) 41 rfl _ Try.new41E ?_
    have HNg7 := Keep.mk (Blk.new w9 41 (erA 0 0))
    have BNg7 := Keep.mk (below_new w9 (.cells (erA 0 0) 41))
    generalize w9.alloc (.cells (erA 0 0) 41) = w10a at *
    simp only [Act.put, List.setIfInBounds_toArray, List.set_cons_zero, List.set_cons_succ]
    refine WL.storeR (by kernel_rfl) 41 (.tmp 7) (.tmp 22) rfl w9.heap.size (erA 4 (-1)) rfl rfl 41 (erA 0 0) HNg7.out (Try.size41B _ _) (erA_sizes _ _ _ _) (erA_one _ _) ?_
    have HMg7 := Keep.mk (HNg7.out.setRow (erA 4 (-1)))
    have Bmg7 : Keep (Below w9.heap.size w9 (w10a.setRow w9.heap.size (erA 4 (-1)))) := ⟨below_setRow BNg7.out (Nat.le_refl _) _⟩
    generalize w10a.setRow w9.heap.size (erA 4 (-1)) = w10 at *
    generalize w9.heap.size = g7 at HMg7 ⊢
    clear HNg7 BNg7
    have B10 : Keep (Below w.heap.size w w10) := ⟨B9.out.trans (Bmg7.out.mono B9.out.size)⟩
    have HG10 := Keep.mk (HG9.out.below Bmg7.out HG9.out.lt)
    have n6x := Keep.mk (n69.out.below Bmg7.out n69.out.lt)
    have n5x := Keep.mk (n59.out.below Bmg7.out n59.out.lt)
    simp only [Act.put]
    refine WL.val (by kernel_rfl) (.bool true) (by go_simp) ?_
    simp only [Act.put, List.setIfInBounds_toArray, List.set_cons_zero, List.set_cons_succ]
    refine WL.nil ?_
    refine hK4 _ _ ?_
    refine wp_seq_k fun K5 hK5 => ?_
    refine wp_region_list (WL.out ?_)
    refine WL.val (by kernel_rfl) (.bool true) (by go_simp) ?_
    simp only [Act.put, List.setIfInBounds_toArray, List.set_cons_zero, List.set_cons_succ]
    refine WL.val (by kernel_rfl) (.bool true) (by go_simp) ?_
    simp only [Act.put, List.setIfInBounds_toArray, List.set_cons_zero, List.set_cons_succ]
    refine WL.row (by kernel_rfl) 41 (.tmp 7) rfl g7 rfl 41 (erA 4 (-1)) _ HMg7.out Try.underlying41 rfl (Try.size41B _ _) ?_
    simp only [Act.put, List.setIfInBounds_toArray, List.set_cons_zero, List.set_cons_succ]
    refine WL.row (by kernel_rfl) 41 (.tmp 6) rfl g6 rfl 41 (erA 4 (-1)) _ n6x.out Try.underlying41 rfl (Try.size41B _ _) ?_
    simp only [Act.put, List.setIfInBounds_toArray, List.set_cons_zero, List.set_cons_succ]
    refine WL.val (by kernel_rfl) (.bool true) (by unfold erA; go_simp) ?_
    simp only [Act.put, List.setIfInBounds_toArray, List.set_cons_zero, List.set_cons_succ]
    refine WL.val (by kernel_rfl) (.bool true) (by go_simp) ?_
    simp only [Act.put, List.setIfInBounds_toArray, List.set_cons_zero, List.set_cons_succ]
    refine WL.val (by kernel_rfl) (.bool true) (by go_simp) ?_
    simp only [Act.put, List.setIfInBounds_toArray, List.set_cons_zero, List.set_cons_succ]
    refine WL.row (by kernel_rfl) 28 (.tmp 3) rfl g3 rfl 28 (msA zeroC) _ HG10.out Try.underlying28 rfl (Try.size28B _) ?_
    simp only [Act.put, List.setIfInBounds_toArray, List.set_cons_zero, List.set_cons_succ]
    refine WL.row (by kernel_rfl) 28 (.tmp 5) rfl g5 rfl 28 (msA zeroC) _ n5x.out Try.underlying28 rfl (Try.size28B _) ?_
    simp only [Act.put, List.setIfInBounds_toArray, List.set_cons_zero, List.set_cons_succ]
    refine WL.callF (by kernel_rfl) 16 _ _ rfl Try.in16 #[.agg (msA zeroC), .agg (msA zeroC)] (by simp [Act.eval]) ?_
    refine (same_refl zeroM zeroM_ok zeroC zeroC w10 (zero_at _) (zero_at _)).mono ?_
    rintro e w11 ⟨rfl, hb11⟩
    refine ⟨_, rfl, ?_⟩
    have B11 : Keep (Below w.heap.size w w11) := ⟨B10.out.trans (hb11.mono B10.out.size)⟩
    clear hb11
    simp only [Act.put, List.setIfInBounds_toArray, List.set_cons_zero, List.set_cons_succ]
    refine WL.val (by kernel_rfl) (.bool true) (by go_simp) ?_
    simp only [Act.put, List.setIfInBounds_toArray, List.set_cons_zero, List.set_cons_succ]
    refine WL.val (by kernel_rfl) (.bool true) (by go_simp) ?_
    simp only [Act.put, List.setIfInBounds_toArray, List.set_cons_zero, List.set_cons_succ]
    refine WL.callF (by kernel_rfl) 9 _ _ rfl Try.in9 #[] (by simp [Act.eval]) ?_
    refine (fixed_any w11).mono ?_
    rintro e w12 ⟨rfl, hb12⟩
    refine ⟨_, rfl, ?_⟩
    have B12 : Keep (Below w.heap.size w w12) := ⟨B11.out.trans (hb12.mono B11.out.size)⟩
    clear hb12
    simp only [Act.put, List.setIfInBounds_toArray, List.set_cons_zero, List.set_cons_succ]
    refine WL.val (by kernel_rfl) (.bool true) (by go_simp) ?_
    simp only [Act.put, List.setIfInBounds_toArray, List.set_cons_zero, List.set_cons_succ]
    refine WL.val (by kernel_rfl) (.bool true) (by go_simp) ?_
    simp only [Act.put, List.setIfInBounds_toArray, List.set_cons_zero, List.set_cons_succ]
    refine WL.nil ?_
    refine hK5 _ _ ?_
    refine wp_ret ?_
    go_ret
    exact ⟨rfl, B12.out⟩
  · obtain ⟨p1, p2, p3⟩ := decM_back HBy.out hsm h0
    obtain ⟨M, hM⟩ : ∃ M, M = (decM l).2.2 := ⟨_, rfl⟩
    rw [← hM] at hD p1 p2 p3
    have HO := Keep.mk (ok_of_dec p1 p3 (by rw [p2]; exact HBy.out))
    have HA2 := Keep.mk hD.ms
    have HM0 := Keep.mk hM
    have Hsm := Keep.mk hsm
    have Hz := Keep.mk h0
    clear hD p1 p2 p3 hM hsm h0
    refine ⟨_, rfl, ?_⟩
    simp only [Act.put, List.setIfInBounds_toArray, List.set_cons_zero, List.set_cons_succ]
    refine WL.val (by kernel_rfl) (.tuple #[.agg (msA cm), .nilIface]) (by go_simp) ?_
    simp only [Act.put, List.setIfInBounds_toArray, List.set_cons_zero, List.set_cons_succ]
    refine WL.val (by kernel_rfl) (.agg (msA cm)) (by go_simp) ?_
    simp only [Act.put, List.setIfInBounds_toArray, List.set_cons_zero, List.set_cons_succ]
    refine WL.val (by kernel_rfl) (.nilIface) (by go_simp) ?_
    simp only [Act.put, List.setIfInBounds_toArray, List.set_cons_zero, List.set_cons_succ]
    refine WL.new (by kernel_rfl) 28 rfl _ Try.new28M ?_
    have HNg3 := Keep.mk (Blk.new w2 28 (msA zeroC))
    have BNg3 := Keep.mk (below_new w2 (.cells (msA zeroC) 28))
    generalize w2.alloc (.cells (msA zeroC) 28) = w3a at *
    have Hsg3 : Keep (w2.heap.size = w2.heap.size) := ⟨rfl⟩
    simp only [Act.put, List.setIfInBounds_toArray, List.set_cons_zero, List.set_cons_succ]
    refine WL.storeR (by kernel_rfl) 28 (.tmp 3) (.tmp 12) rfl w2.heap.size (msA cm) rfl rfl 28 (msA zeroC) HNg3.out (Try.size28B _) rfl (HA2.out.sl.one) ?_
    have HMg3 := Keep.mk (HNg3.out.setRow (msA cm))
    have Bmg3 : Keep (Below w2.heap.size w2 (w3a.setRow w2.heap.size (msA cm))) := ⟨below_setRow BNg3.out (Nat.le_refl _) _⟩
    generalize w3a.setRow w2.heap.size (msA cm) = w3 at *
    generalize w2.heap.size = g3 at HMg3 ⊢
    clear HNg3 BNg3 Hsg3
    have B3 : Keep (Below w.heap.size w w3) := ⟨B2.out.trans (Bmg3.out.mono B2.out.size)⟩
    have HR3 := Keep.mk (HR2.out.below Bmg3.out)
    have HA3 := Keep.mk (HA2.out.below Bmg3.out)
    simp only [Act.put]
    refine WL.val (by kernel_rfl) (.nilIface) (by go_simp) ?_
    simp only [Act.put, List.setIfInBounds_toArray, List.set_cons_zero, List.set_cons_succ]
    refine WL.nil ?_
    refine hK2 _ _ ?_
    refine wp_seq_k fun K6 hK6 => ?_
    refine wp_region_list (WL.out ?_)
    refine WL.val (by kernel_rfl) (.slice va l.length vc) (by go_simp) ?_
    simp only [Act.put, List.setIfInBounds_toArray, List.set_cons_zero, List.set_cons_succ]
    refine WL.callF (by kernel_rfl) 14 _ _ rfl Try.in14 #[.slice va l.length vc] (by simp [Act.eval]) ?_
    refine (rdec_small _ l w3 HR3.out HBy.out Hsm.out).mono ?_
    rintro e w4 ⟨hb4, h1⟩
    obtain ⟨cu, rfl, hU⟩ : ∃ c, e = .returned (.tuple #[.agg (msA c), .agg (erA 0 0)]) ∧ MsAt w4 M c := by
      rw [HM0.out]
      rcases h1 with h | h
      · exact h.2
      · exact absurd Hz.out h.1
    have HU4 := Keep.mk hU
    clear h1 hU
    refine ⟨_, rfl, ?_⟩
    have B4 : Keep (Below w.heap.size w w4) := ⟨B3.out.trans (hb4.mono B3.out.size)⟩
    have HG4 := Keep.mk (HMg3.out.below hb4 HMg3.out.lt)
    have HA4 := Keep.mk (HA3.out.below hb4)
    clear hb4
    simp only [Act.put, List.setIfInBounds_toArray, List.set_cons_zero, List.set_cons_succ]
    refine WL.val (by kernel_rfl) (.tuple #[.agg (msA cu), .agg (erA 0 0)]) (by go_simp) ?_
    simp only [Act.put, List.setIfInBounds_toArray, List.set_cons_zero, List.set_cons_succ]
    refine WL.val (by kernel_rfl) (.agg (msA cu)) (by go_simp) ?_
    simp only [Act.put, List.setIfInBounds_toArray, List.set_cons_zero, List.set_cons_succ]
    refine WL.val (by kernel_rfl) (.agg (erA 0 0)) (by go_simp) ?_
    simp only [Act.put, List.setIfInBounds_toArray, List.set_cons_zero, List.set_cons_succ]
    refine WL.new (by kernel_rfl) 28 rfl _ Try.new28M ?_
    have n5 := Keep.mk (Blk.new w4 28 (msA zeroC))
    have nb5 := Keep.mk (below_new w4 (.cells (msA zeroC) 28))
    generalize w4.alloc (.cells (msA zeroC) 28) = w5 at *
    obtain ⟨g5, hg5⟩ : ∃ g, Keep (g = w4.heap.size) := ⟨_, ⟨rfl⟩⟩
    rw [← hg5.out] at n5 ⊢
    simp only [Act.put, List.setIfInBounds_toArray, List.set_cons_zero, List.set_cons_succ]
    refine WL.new (by kernel_rfl) 41 rfl _ Try.new41E ?_
    have n6 := Keep.mk (Blk.new w5 41 (erA 0 0))
    have n5b := Keep.mk (n5.out.alloc (.cells (erA 0 0) 41))
    have nb6 : Keep (Below w4.heap.size w4 (w5.alloc (.cells (erA 0 0) 41))) := ⟨nb5.out.trans ((below_new w5 _).mono nb5.out.size)⟩
    generalize w5.alloc (.cells (erA 0 0) 41) = w6 at *
    obtain ⟨g6, hg6⟩ : ∃ g, Keep (g = w5.heap.size) := ⟨_, ⟨rfl⟩⟩
    rw [← hg6.out] at n6 ⊢
    simp only [Act.put, List.setIfInBounds_toArray, List.set_cons_zero, List.set_cons_succ]
    refine WL.storeR (by kernel_rfl) 28 (.tmp 5) (.tmp 17) rfl g5 (msA cu) rfl rfl 28 (msA zeroC) n5b.out (Try.size28B _) (ms_sizes _ _) (HU4.out.sl.one) ?_
    have n5c := Keep.mk (n5b.out.setRow (msA cu))
    have n6c := Keep.mk (n6.out.setRow_ne (b' := g5) (blk_ne n6.out n5b.out (by decide)) (msA cu))
    have nb7 := Keep.mk (below_setRow nb6.out (b := g5) (by rw [hg5.out]; exact Nat.le_refl _) (msA cu))
    generalize w6.setRow g5 (msA cu) = w7 at *
    simp only [Act.put]
    refine WL.storeR (by kernel_rfl) 41 (.tmp 6) (.tmp 18) rfl g6 (erA 0 0) rfl rfl 41 (erA 0 0) n6c.out (Try.size41B _ _) (erA_sizes _ _ _ _) (erA_one _ _) ?_
    have n6d := Keep.mk (n6c.out.setRow (erA 0 0))
    have n5d := Keep.mk (n5c.out.setRow_ne (b' := g6) (blk_ne n5c.out n6c.out (by decide)) (erA 0 0))
    have nb8 := Keep.mk (below_setRow nb7.out (b := g6) (by rw [hg6.out]; exact nb5.out.size) (erA 0 0))
    generalize w7.setRow g6 (erA 0 0) = w8 at *
    have B8 : Keep (Below w.heap.size w w8) := ⟨B4.out.trans (nb8.out.mono B4.out.size)⟩
    have HG8 := Keep.mk (HG4.out.below nb8.out HG4.out.lt)
    have HA8 := Keep.mk (HA4.out.below nb8.out)
    have HU8 := Keep.mk (HU4.out.below nb8.out)
    simp only [Act.put]
    refine WL.nil ?_
    refine hK6 _ _ ?_
    refine wp_seq_k fun K7 hK7 => ?_
    refine wp_region_list (WL.out ?_)
    refine WL.val (by kernel_rfl) (.nilIface) (by go_simp) ?_
    simp only [Act.put, List.setIfInBounds_toArray, List.set_cons_zero, List.set_cons_succ]
    refine WL.callF (by kernel_rfl) 15 _ _ rfl Try.in15 #[.nilIface] (by simp [Act.eval, err, ptr]) ?_
    refine (told_nil w8).mono ?_
    rintro e w9 ⟨rfl, hb9⟩
    refine ⟨_, rfl, ?_⟩
    have B9 : Keep (Below w.heap.size w w9) := ⟨B8.out.trans (hb9.mono B8.out.size)⟩
    have HG9 := Keep.mk (HG8.out.below hb9 HG8.out.lt)
    have n69 := Keep.mk (n6d.out.below hb9 n6d.out.lt)
    have n59 := Keep.mk (n5d.out.below hb9 n5d.out.lt)
    have HA9 := Keep.mk (HA8.out.below hb9)
    have HU9 := Keep.mk (HU8.out.below hb9)
    clear hb9
    simp only [Act.put, List.setIfInBounds_toArray, List.set_cons_zero, List.set_cons_succ]
    refine WL.val (by kernel_rfl) (.tuple #[.agg (erA 0 0), .bool true]) (by go_simp) ?_
    simp only [Act.put, List.setIfInBounds_toArray, List.set_cons_zero, List.set_cons_succ]
    refine WL.val (by kernel_rfl) (.agg (erA 0 0)) (by go_simp) ?_
    simp only [Act.put, List.setIfInBounds_toArray, List.set_cons_zero, List.set_cons_succ]
    refine WL.val (by kernel_rfl) (.bool true) (by go_simp) ?_
    simp only [Act.put, List.setIfInBounds_toArray, List.set_cons_zero, List.set_cons_succ]
    refine WL.new (by kernel_rfl) 41 rfl _ Try.new41E ?_
    have HNg7 := Keep.mk (Blk.new w9 41 (erA 0 0))
    have BNg7 := Keep.mk (below_new w9 (.cells (erA 0 0) 41))
    generalize w9.alloc (.cells (erA 0 0) 41) = w10a at *
    simp only [Act.put, List.setIfInBounds_toArray, List.set_cons_zero, List.set_cons_succ]
    refine WL.storeR (by kernel_rfl) 41 (.tmp 7) (.tmp 22) rfl w9.heap.size (erA 0 0) rfl rfl 41 (erA 0 0) HNg7.out (Try.size41B _ _) (erA_sizes _ _ _ _) (erA_one _ _) ?_
    have HMg7 := Keep.mk (HNg7.out.setRow (erA 0 0))
    have Bmg7 : Keep (Below w9.heap.size w9 (w10a.setRow w9.heap.size (erA 0 0))) := ⟨below_setRow BNg7.out (Nat.le_refl _) _⟩
    generalize w10a.setRow w9.heap.size (erA 0 0) = w10 at *
    generalize w9.heap.size = g7 at HMg7 ⊢
    clear HNg7 BNg7
    have B10 : Keep (Below w.heap.size w w10) := ⟨B9.out.trans (Bmg7.out.mono B9.out.size)⟩
    have HG10 := Keep.mk (HG9.out.below Bmg7.out HG9.out.lt)
    have n6x := Keep.mk (n69.out.below Bmg7.out n69.out.lt)
    have n5x := Keep.mk (n59.out.below Bmg7.out n59.out.lt)
    have HAx := Keep.mk (HA9.out.below Bmg7.out)
    have HUx := Keep.mk (HU9.out.below Bmg7.out)
    simp only [Act.put]
    refine WL.val (by kernel_rfl) (.bool true) (by go_simp) ?_
    simp only [Act.put, List.setIfInBounds_toArray, List.set_cons_zero, List.set_cons_succ]
    refine WL.nil ?_
    refine hK7 _ _ ?_
    refine wp_seq_k fun K8 hK8 => ?_
    refine wp_region_list (WL.out ?_)
    refine WL.val (by kernel_rfl) (.bool true) (by go_simp) ?_
    simp only [Act.put, List.setIfInBounds_toArray, List.set_cons_zero, List.set_cons_succ]
    refine WL.val (by kernel_rfl) (.bool true) (by go_simp) ?_
    simp only [Act.put, List.setIfInBounds_toArray, List.set_cons_zero, List.set_cons_succ]
    refine WL.row (by kernel_rfl) 41 (.tmp 7) rfl g7 rfl 41 (erA 0 0) _ HMg7.out Try.underlying41 rfl (Try.size41B _ _) ?_
    simp only [Act.put, List.setIfInBounds_toArray, List.set_cons_zero, List.set_cons_succ]
    refine WL.row (by kernel_rfl) 41 (.tmp 6) rfl g6 rfl 41 (erA 0 0) _ n6x.out Try.underlying41 rfl (Try.size41B _ _) ?_
    simp only [Act.put, List.setIfInBounds_toArray, List.set_cons_zero, List.set_cons_succ]
    refine WL.val (by kernel_rfl) (.bool true) (by unfold erA; go_simp) ?_
    simp only [Act.put, List.setIfInBounds_toArray, List.set_cons_zero, List.set_cons_succ]
    refine WL.val (by kernel_rfl) (.bool true) (by go_simp) ?_
    simp only [Act.put, List.setIfInBounds_toArray, List.set_cons_zero, List.set_cons_succ]
    refine WL.val (by kernel_rfl) (.bool true) (by go_simp) ?_
    simp only [Act.put, List.setIfInBounds_toArray, List.set_cons_zero, List.set_cons_succ]
    refine WL.row (by kernel_rfl) 28 (.tmp 3) rfl g3 rfl 28 (msA cm) _ HG10.out Try.underlying28 rfl (Try.size28B _) ?_
    simp only [Act.put, List.setIfInBounds_toArray, List.set_cons_zero, List.set_cons_succ]
    refine WL.row (by kernel_rfl) 28 (.tmp 5) rfl g5 rfl 28 (msA cu) _ n5x.out Try.underlying28 rfl (Try.size28B _) ?_
    simp only [Act.put, List.setIfInBounds_toArray, List.set_cons_zero, List.set_cons_succ]
    refine WL.callF (by kernel_rfl) 16 _ _ rfl Try.in16 #[.agg (msA cm), .agg (msA cu)] (by simp [Act.eval]) ?_
    refine (same_refl M HO.out cm cu w10 HAx.out HUx.out).mono ?_
    rintro e w11 ⟨rfl, hb11⟩
    refine ⟨_, rfl, ?_⟩
    have B11 : Keep (Below w.heap.size w w11) := ⟨B10.out.trans (hb11.mono B10.out.size)⟩
    clear hb11
    simp only [Act.put, List.setIfInBounds_toArray, List.set_cons_zero, List.set_cons_succ]
    refine WL.val (by kernel_rfl) (.bool true) (by go_simp) ?_
    simp only [Act.put, List.setIfInBounds_toArray, List.set_cons_zero, List.set_cons_succ]
    refine WL.val (by kernel_rfl) (.bool true) (by go_simp) ?_
    simp only [Act.put, List.setIfInBounds_toArray, List.set_cons_zero, List.set_cons_succ]
    refine WL.callF (by kernel_rfl) 9 _ _ rfl Try.in9 #[] (by simp [Act.eval]) ?_
    refine (fixed_any w11).mono ?_
    rintro e w12 ⟨rfl, hb12⟩
    refine ⟨_, rfl, ?_⟩
    have B12 : Keep (Below w.heap.size w w12) := ⟨B11.out.trans (hb12.mono B11.out.size)⟩
    clear hb12
    simp only [Act.put, List.setIfInBounds_toArray, List.set_cons_zero, List.set_cons_succ]
    refine WL.val (by kernel_rfl) (.bool true) (by go_simp) ?_
    simp only [Act.put, List.setIfInBounds_toArray, List.set_cons_zero, List.set_cons_succ]
    refine WL.val (by kernel_rfl) (.bool true) (by go_simp) ?_
    simp only [Act.put, List.setIfInBounds_toArray, List.set_cons_zero, List.set_cons_succ]
    refine WL.nil ?_
    refine hK8 _ _ ?_
    refine wp_ret ?_
    go_ret
    exact ⟨rfl, B12.out⟩
  · have Hbad := Keep.mk hbad
    have Hsm := Keep.mk hsm
    have Hz := Keep.mk h0
    clear hbad hsm h0
    unfold err
    refine ⟨_, rfl, ?_⟩
    simp only [Act.put, List.setIfInBounds_toArray, List.set_cons_zero, List.set_cons_succ]
    refine WL.val (by kernel_rfl) (.tuple #[.agg (msA zeroC), .iface 116 (ptr q)]) (by go_simp) ?_
    simp only [Act.put, List.setIfInBounds_toArray, List.set_cons_zero, List.set_cons_succ]
    refine WL.val (by kernel_rfl) (.agg (msA zeroC)) (by go_simp) ?_
    simp only [Act.put, List.setIfInBounds_toArray, List.set_cons_zero, List.set_cons_succ]
    refine WL.val (by kernel_rfl) (.iface 116 (ptr q)) (by go_simp) ?_
    simp only [Act.put, List.setIfInBounds_toArray, List.set_cons_zero, List.set_cons_succ]
    refine WL.new (by kernel_rfl) 28 rfl _ Try.new28M ?_
    have HNg3 := Keep.mk (Blk.new w2 28 (msA zeroC))
    have BNg3 := Keep.mk (below_new w2 (.cells (msA zeroC) 28))
    generalize w2.alloc (.cells (msA zeroC) 28) = w3a at *
    have Hsg3 : Keep (w2.heap.size = w2.heap.size) := ⟨rfl⟩
    simp only [Act.put, List.setIfInBounds_toArray, List.set_cons_zero, List.set_cons_succ]
    refine WL.storeR (by kernel_rfl) 28 (.tmp 3) (.tmp 12) rfl w2.heap.size (msA zeroC) rfl rfl 28 (msA zeroC) HNg3.out (Try.size28B _) rfl (SlC.zero.one) ?_
    have HMg3 := Keep.mk (HNg3.out.setRow (msA zeroC))
    have Bmg3 : Keep (Below w2.heap.size w2 (w3a.setRow w2.heap.size (msA zeroC))) := ⟨below_setRow BNg3.out (Nat.le_refl _) _⟩
    generalize w3a.setRow w2.heap.size (msA zeroC) = w3 at *
    generalize w2.heap.size = g3 at HMg3 ⊢
    clear HNg3 BNg3 Hsg3
    have B3 : Keep (Below w.heap.size w w3) := ⟨B2.out.trans (Bmg3.out.mono B2.out.size)⟩
    have HR3 := Keep.mk (HR2.out.below Bmg3.out)
    have HQ3 : Keep (BadAt w3 q (decM l).1 (decM l).2.1) := ⟨Hbad.out.below Bmg3.out Hbad.out.lt⟩
    simp only [Act.put]
    refine WL.val (by kernel_rfl) (.iface 116 (ptr q)) (by go_simp) ?_
    simp only [Act.put, List.setIfInBounds_toArray, List.set_cons_zero, List.set_cons_succ]
    refine WL.nil ?_
    refine hK2 _ _ ?_
    refine wp_seq_k fun K9 hK9 => ?_
    refine wp_region_list (WL.out ?_)
    refine WL.val (by kernel_rfl) (.slice va l.length vc) (by go_simp) ?_
    simp only [Act.put, List.setIfInBounds_toArray, List.set_cons_zero, List.set_cons_succ]
    refine WL.callF (by kernel_rfl) 14 _ _ rfl Try.in14 #[.slice va l.length vc] (by simp [Act.eval]) ?_
    refine (rdec_small _ l w3 HR3.out HBy.out Hsm.out).mono ?_
    rintro e w4 ⟨hb4, h1⟩
    obtain rfl : e = .returned (.tuple #[.agg (msA zeroC), .agg (erA (decM l).1 ((decM l).2.1 : Int))]) := by
      rcases h1 with h | h
      · exact absurd h.1 Hz.out
      · exact h.2
    clear h1
    refine ⟨_, rfl, ?_⟩
    have B4 : Keep (Below w.heap.size w w4) := ⟨B3.out.trans (hb4.mono B3.out.size)⟩
    have HG4 := Keep.mk (HMg3.out.below hb4 HMg3.out.lt)
    have HQ4 : Keep (BadAt w4 q (decM l).1 (decM l).2.1) := ⟨HQ3.out.below hb4 HQ3.out.lt⟩
    clear hb4
    simp only [Act.put, List.setIfInBounds_toArray, List.set_cons_zero, List.set_cons_succ]
    refine WL.val (by kernel_rfl) (.tuple #[.agg (msA zeroC), .agg (erA (decM l).1 ((decM l).2.1 : Int))]) (by go_simp) ?_
    simp only [Act.put, List.setIfInBounds_toArray, List.set_cons_zero, List.set_cons_succ]
    refine WL.val (by kernel_rfl) (.agg (msA zeroC)) (by go_simp) ?_
    simp only [Act.put, List.setIfInBounds_toArray, List.set_cons_zero, List.set_cons_succ]
    refine WL.val (by kernel_rfl) (.agg (erA (decM l).1 ((decM l).2.1 : Int))) (by go_simp) ?_
    simp only [Act.put, List.setIfInBounds_toArray, List.set_cons_zero, List.set_cons_succ]
    refine WL.new (by kernel_rfl) 28 rfl _ Try.new28M ?_
    have n5 := Keep.mk (Blk.new w4 28 (msA zeroC))
    have nb5 := Keep.mk (below_new w4 (.cells (msA zeroC) 28))
    generalize w4.alloc (.cells (msA zeroC) 28) = w5 at *
    obtain ⟨g5, hg5⟩ : ∃ g, Keep (g = w4.heap.size) := ⟨_, ⟨rfl⟩⟩
    rw [← hg5.out] at n5 ⊢
    simp only [Act.put, List.setIfInBounds_toArray, List.set_cons_zero, List.set_cons_succ]
    refine WL.new (by kernel_rfl) 41 rfl _ Try.new41E ?_
    have n6 := Keep.mk (Blk.new w5 41 (erA 0 0))
    have n5b := Keep.mk (n5.out.alloc (.cells (erA 0 0) 41))
    have nb6 : Keep (Below w4.heap.size w4 (w5.alloc (.cells (erA 0 0) 41))) := ⟨nb5.out.trans ((below_new w5 _).mono nb5.out.size)⟩
    generalize w5.alloc (.cells (erA 0 0) 41) = w6 at *
    obtain ⟨g6, hg6⟩ : ∃ g, Keep (g = w5.heap.size) := ⟨_, ⟨rfl⟩⟩
    rw [← hg6.out] at n6 ⊢
    simp only [Act.put, List.setIfInBounds_toArray, List.set_cons_zero, List.set_cons_succ]
    refine WL.storeR (by kernel_rfl) 28 (.tmp 5) (.tmp 17) rfl g5 (msA zeroC) rfl rfl 28 (msA zeroC) n5b.out (Try.size28B _) (ms_sizes _ _) (SlC.zero.one) ?_
    have n5c := Keep.mk (n5b.out.setRow (msA zeroC))
    have n6c := Keep.mk (n6.out.setRow_ne (b' := g5) (blk_ne n6.out n5b.out (by decide)) (msA zeroC))
    have nb7 := Keep.mk (below_setRow nb6.out (b := g5) (by rw [hg5.out]; exact Nat.le_refl _) (msA zeroC))
    generalize w6.setRow g5 (msA zeroC) = w7 at *
    simp only [Act.put]
    refine WL.storeR (by kernel_rfl) 41 (.tmp 6) (.tmp 18) rfl g6 (erA (decM l).1 ((decM l).2.1 : Int)) rfl rfl 41 (erA 0 0) n6c.out (Try.size41B _ _) (erA_sizes _ _ _ _) (erA_one _ _) ?_
    have n6d := Keep.mk (n6c.out.setRow (erA (decM l).1 ((decM l).2.1 : Int)))
    have n5d := Keep.mk (n5c.out.setRow_ne (b' := g6) (blk_ne n5c.out n6c.out (by decide)) (erA (decM l).1 ((decM l).2.1 : Int)))
    have nb8 := Keep.mk (below_setRow nb7.out (b := g6) (by rw [hg6.out]; exact nb5.out.size) (erA (decM l).1 ((decM l).2.1 : Int)))
    generalize w7.setRow g6 (erA (decM l).1 ((decM l).2.1 : Int)) = w8 at *
    have B8 : Keep (Below w.heap.size w w8) := ⟨B4.out.trans (nb8.out.mono B4.out.size)⟩
    have HG8 := Keep.mk (HG4.out.below nb8.out HG4.out.lt)
    have HQ8 : Keep (BadAt w8 q (decM l).1 (decM l).2.1) := ⟨HQ4.out.below nb8.out HQ4.out.lt⟩
    simp only [Act.put]
    refine WL.nil ?_
    refine hK9 _ _ ?_
    refine wp_seq_k fun K10 hK10 => ?_
    refine wp_region_list (WL.out ?_)
    refine WL.val (by kernel_rfl) (.iface 116 (ptr q)) (by go_simp) ?_
    simp only [Act.put, List.setIfInBounds_toArray, List.set_cons_zero, List.set_cons_succ]
    refine WL.callF (by kernel_rfl) 15 _ _ rfl Try.in15 #[err q] (by simp [Act.eval, err, ptr]) ?_
    refine (told_err q (decM l).1 (decM l).2.1 w8 HQ8.out Hz.out).mono ?_
    rintro e w9 ⟨rfl, hb9⟩
    refine ⟨_, rfl, ?_⟩
    have B9 : Keep (Below w.heap.size w w9) := ⟨B8.out.trans (hb9.mono B8.out.size)⟩
    have HG9 := Keep.mk (HG8.out.below hb9 HG8.out.lt)
    have n69 := Keep.mk (n6d.out.below hb9 n6d.out.lt)
    have n59 := Keep.mk (n5d.out.below hb9 n5d.out.lt)
    clear hb9
    simp only [Act.put, List.setIfInBounds_toArray, List.set_cons_zero, List.set_cons_succ]
    refine WL.val (by kernel_rfl) (.tuple #[.agg (erA (decM l).1 ((decM l).2.1 : Int)), .bool true]) (by go_simp) ?_
    simp only [Act.put, List.setIfInBounds_toArray, List.set_cons_zero, List.set_cons_succ]
    refine WL.val (by kernel_rfl) (.agg (erA (decM l).1 ((decM l).2.1 : Int))) (by go_simp) ?_
    simp only [Act.put, List.setIfInBounds_toArray, List.set_cons_zero, List.set_cons_succ]
    refine WL.val (by kernel_rfl) (.bool true) (by go_simp) ?_
    simp only [Act.put, List.setIfInBounds_toArray, List.set_cons_zero, List.set_cons_succ]
    refine WL.new (by kernel_rfl) 41 rfl _ Try.new41E ?_
    have HNg7 := Keep.mk (Blk.new w9 41 (erA 0 0))
    have BNg7 := Keep.mk (below_new w9 (.cells (erA 0 0) 41))
    generalize w9.alloc (.cells (erA 0 0) 41) = w10a at *
    simp only [Act.put, List.setIfInBounds_toArray, List.set_cons_zero, List.set_cons_succ]
    refine WL.storeR (by kernel_rfl) 41 (.tmp 7) (.tmp 22) rfl w9.heap.size (erA (decM l).1 ((decM l).2.1 : Int)) rfl rfl 41 (erA 0 0) HNg7.out (Try.size41B _ _) (erA_sizes _ _ _ _) (erA_one _ _) ?_
    have HMg7 := Keep.mk (HNg7.out.setRow (erA (decM l).1 ((decM l).2.1 : Int)))
    have Bmg7 : Keep (Below w9.heap.size w9 (w10a.setRow w9.heap.size (erA (decM l).1 ((decM l).2.1 : Int)))) := ⟨below_setRow BNg7.out (Nat.le_refl _) _⟩
    generalize w10a.setRow w9.heap.size (erA (decM l).1 ((decM l).2.1 : Int)) = w10 at *
    generalize w9.heap.size = g7 at HMg7 ⊢
    clear HNg7 BNg7
    have B10 : Keep (Below w.heap.size w w10) := ⟨B9.out.trans (Bmg7.out.mono B9.out.size)⟩
    have HG10 := Keep.mk (HG9.out.below Bmg7.out HG9.out.lt)
    have n6x := Keep.mk (n69.out.below Bmg7.out n69.out.lt)
    have n5x := Keep.mk (n59.out.below Bmg7.out n59.out.lt)
    simp only [Act.put]
    refine WL.val (by kernel_rfl) (.bool true) (by go_simp) ?_
    simp only [Act.put, List.setIfInBounds_toArray, List.set_cons_zero, List.set_cons_succ]
    refine WL.nil ?_
    refine hK10 _ _ ?_
    refine wp_seq_k fun K11 hK11 => ?_
    refine wp_region_list (WL.out ?_)
    refine WL.val (by kernel_rfl) (.bool true) (by go_simp) ?_
    simp only [Act.put, List.setIfInBounds_toArray, List.set_cons_zero, List.set_cons_succ]
    refine WL.val (by kernel_rfl) (.bool true) (by go_simp) ?_
    simp only [Act.put, List.setIfInBounds_toArray, List.set_cons_zero, List.set_cons_succ]
    refine WL.row (by kernel_rfl) 41 (.tmp 7) rfl g7 rfl 41 (erA (decM l).1 ((decM l).2.1 : Int)) _ HMg7.out Try.underlying41 rfl (Try.size41B _ _) ?_
    simp only [Act.put, List.setIfInBounds_toArray, List.set_cons_zero, List.set_cons_succ]
    refine WL.row (by kernel_rfl) 41 (.tmp 6) rfl g6 rfl 41 (erA (decM l).1 ((decM l).2.1 : Int)) _ n6x.out Try.underlying41 rfl (Try.size41B _ _) ?_
    simp only [Act.put, List.setIfInBounds_toArray, List.set_cons_zero, List.set_cons_succ]
    refine WL.val (by kernel_rfl) (.bool true) (by unfold erA; go_simp) ?_
    simp only [Act.put, List.setIfInBounds_toArray, List.set_cons_zero, List.set_cons_succ]
    refine WL.val (by kernel_rfl) (.bool true) (by go_simp) ?_
    simp only [Act.put, List.setIfInBounds_toArray, List.set_cons_zero, List.set_cons_succ]
    refine WL.val (by kernel_rfl) (.bool true) (by go_simp) ?_
    simp only [Act.put, List.setIfInBounds_toArray, List.set_cons_zero, List.set_cons_succ]
    refine WL.row (by kernel_rfl) 28 (.tmp 3) rfl g3 rfl 28 (msA zeroC) _ HG10.out Try.underlying28 rfl (Try.size28B _) ?_
    simp only [Act.put, List.setIfInBounds_toArray, List.set_cons_zero, List.set_cons_succ]
    refine WL.row (by kernel_rfl) 28 (.tmp 5) rfl g5 rfl 28 (msA zeroC) _ n5x.out Try.underlying28 rfl (Try.size28B _) ?_
    simp only [Act.put, List.setIfInBounds_toArray, List.set_cons_zero, List.set_cons_succ]
    refine WL.callF (by kernel_rfl) 16 _ _ rfl Try.in16 #[.agg (msA zeroC), .agg (msA zeroC)] (by simp [Act.eval]) ?_
    refine (same_refl zeroM zeroM_ok zeroC zeroC w10 (zero_at _) (zero_at _)).mono ?_
    rintro e w11 ⟨rfl, hb11⟩
    refine ⟨_, rfl, ?_⟩
    have B11 : Keep (Below w.heap.size w w11) := ⟨B10.out.trans (hb11.mono B10.out.size)⟩
    clear hb11
    simp only [Act.put, List.setIfInBounds_toArray, List.set_cons_zero, List.set_cons_succ]
    refine WL.val (by kernel_rfl) (.bool true) (by go_simp) ?_
    simp only [Act.put, List.setIfInBounds_toArray, List.set_cons_zero, List.set_cons_succ]
    refine WL.val (by kernel_rfl) (.bool true) (by go_simp) ?_
    simp only [Act.put, List.setIfInBounds_toArray, List.set_cons_zero, List.set_cons_succ]
    refine WL.callF (by kernel_rfl) 9 _ _ rfl Try.in9 #[] (by simp [Act.eval]) ?_
    refine (fixed_any w11).mono ?_
    rintro e w12 ⟨rfl, hb12⟩
    refine ⟨_, rfl, ?_⟩
    have B12 : Keep (Below w.heap.size w w12) := ⟨B11.out.trans (hb12.mono B11.out.size)⟩
    clear hb12
    simp only [Act.put, List.setIfInBounds_toArray, List.set_cons_zero, List.set_cons_succ]
    refine WL.val (by kernel_rfl) (.bool true) (by go_simp) ?_
    simp only [Act.put, List.setIfInBounds_toArray, List.set_cons_zero, List.set_cons_succ]
    refine WL.val (by kernel_rfl) (.bool true) (by go_simp) ?_
    simp only [Act.put, List.setIfInBounds_toArray, List.set_cons_zero, List.set_cons_succ]
    refine WL.nil ?_
    refine hK11 _ _ ?_
    refine wp_ret ?_
    go_ret
    exact ⟨rfl, B12.out⟩
end Go.Proofs.Ytlogkojhcccogaa
namespace Go.Proofs.Ytlogkojhcccogaa
open Go.ChangeShapes Go.WideShapes Go.ChangeAt Go.RowKit Go.Deep

theorem Try.cellsOf5 : Try.prog.cellsOf 5 = 1 := by kernel_rfl
theorem Try.bytesOf5 : Try.prog.bytesOf 5 = 1 := by kernel_rfl
theorem reach_is : reachBytes = 140737488351232 := by decide
theorem add_none' (b o i : Nat) : (⟨b, o, none⟩ : Addr).add i = ⟨b, o + i, none⟩ := by
  cases i with
  | zero => rfl
  | succ i => rfl
theorem wf_u8 {n : Int} (h : (Lit.int .u8 n).wf = true) : 0 ≤ n ∧ n < 256 := by
  have h1 : IntKind.u8.min = 0 := by decide
  have h2 : IntKind.u8.max = 255 := by decide
  simp only [Lit.wf, h1, h2, Bool.and_eq_true, decide_eq_true_eq] at h
  omega

theorem row_of_trod {H : Type} {enc : TypeId × Value → H} {W : World} {sp : Nat → Bool} {held : Bool} {n base : Nat} {v : Value} {x : DataW H × List MemPlace} (hf : DataW.trod enc Try.prog W base sp held n 25 [v] = some x) (hw : ∀ n ∈ x.1.weights Try.prog 25, n ≤ reachBytes) :
    ∃ l : List Int, RowAt W v l ∧ Byts l ∧ l.length ≤ 140737488351232 := by
  rcases open_ints Try.underlying25 Try.underlying5 Try.cellsOf5 hf with ⟨hcs, _⟩ | ⟨a, len, cap, zs, hcs, _, hl, hm, hz, hx, hcell, hwz⟩
  · simp at hcs
    subst hcs
    exact ⟨[], .inl ⟨rfl, rfl⟩, Byts.nil, by simp⟩
  · simp at hcs
    subst hcs
    unfold maxLen at hm
    have hlz : len ≤ zs.length := by rw [hz]; split <;> omega
    have hbz : Byts zs := fun c hc => wf_u8 (hwz c hc)
    have hb : len ≤ 140737488351232 := by
      have h1 := hw ((zs.take len).length + (zs.drop len).length) (by
        rw [hx]
        simp only [DataW.weights, Try.underlying25]
        simp [lits, Try.bytesOf5])
      rw [List.length_take, reach_is] at h1
      omega
    by_cases h0 : len = 0
    · subst h0
      exact ⟨[], .inr (.inl ⟨a, cap, rfl, rfl⟩), Byts.nil, by simp⟩
    · have hs : a.spot = none := by
        have := hcell 0 (by omega)
        rw [show a.add 0 = a from rfl] at this
        exact World.cell?_spot this
      obtain ⟨b, off, sp⟩ := a
      obtain rfl : sp = none := hs
      have hlen : (zs.take len).length = len := by rw [List.length_take]; omega
      refine ⟨zs.take len, .inr (.inr ⟨b, off, cap, by rw [hlen], by omega, fun i hi => ?_⟩), hbz.take len, by omega⟩
      rw [hlen] at hi
      have := hcell i (by omega)
      rw [add_none'] at this
      rw [this]
      simp [List.getD, hi]

end Go.Proofs.Ytlogkojhcccogaa
