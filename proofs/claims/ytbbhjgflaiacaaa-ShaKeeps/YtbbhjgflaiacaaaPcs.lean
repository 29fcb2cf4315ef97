import Derived.Test.YtbbhjgflaiacaaaHashes
namespace Go.Proofs.Ytbbhjgflaiacaaa
open Go.RowKit

set_option maxHeartbeats 400000 in
theorem len_any (g : Nat) (d : Dg) (w : World) (hg : Blk w g 66 (digA d.s d.r d.n)) :
    Calls Try.prog 21 #[ptr g] w fun e w' => e = .returned (.int .i64 (d.n : Int)) ∧ w' = w := by
  have c72 : w.cell? ⟨g, 72, none⟩ = some (.int .i64 d.n) := by rw [hg.cell, digA_n]
  clear hg
  go_enter Try.func21, Try.ntmps21
  go_wp2
  go_ret
  exact ⟨rfl, rfl⟩

set_option maxHeartbeats 400000 in
theorem place_any (i : Int) (n : Nat) (w : World) (hn : 0 < n) (hb : (n : Int) ≤ 9223372036854775807) :
    Calls Try.prog 17 #[.int .i64 i, .int .i64 (n : Int)] w fun e w' => ∃ k : Nat, k < n ∧ e = .returned (.int .i64 (k : Int)) ∧ w' = w := by
  have hn0 : (n : Int) ≠ 0 := by omega
  have ha : (i.tmod n).natAbs < n := by rw [Int.natAbs_tmod]; exact Nat.mod_lt _ hn
  rcases Int.lt_or_le (i.tmod n) 0 with hneg | hpos
  · have e : wrap64 (i.tmod n + n) = i.tmod n + n := by unfold wrap64; omega
    go_enter Try.func17, Try.ntmps17
    go_wp2
    go_ret
    exact ⟨(i.tmod n + n).toNat, by omega, by show Ending.returned (Value.int .i64 (i.tmod n + n)) = _; congr 2; omega, rfl⟩
  · go_enter Try.func17, Try.ntmps17
    go_wp2
    go_ret
    exact ⟨(i.tmod n).toNat, by omega, by show Ending.returned (Value.int .i64 (i.tmod n)) = _; congr 2; omega, rfl⟩

set_option maxHeartbeats 400000 in
theorem copy_any (g : Nat) (d : Dg) (w : World) (hg : Blk w g 66 (digA d.s d.r d.n)) :
    Calls Try.prog 18 #[ptr g] w fun e w' => e = .returned (ptr w.heap.size) ∧ w' = (w.alloc (.cells (digA d.s d.r d.n) 66)) := by
  obtain ⟨s, r, n⟩ := d
  dsimp only at hg ⊢
  have HG : Keep (Blk w g 66 (digA s r n)) := ⟨hg⟩
  have HC : Keep (Blk (w.alloc (.cells (digA (fun _ => 0) (fun _ => 0) 0) 66)) w.heap.size 66 (digA (fun _ => 0) (fun _ => 0) 0)) := ⟨Blk.new _ _ _⟩
  clear hg
  go_enter Try.func18, Try.ntmps18
  go_wp2_with (first | (refine wpList_load_row rfl 66 (.tmp 5) rfl g rfl 66 (digA s r n) (0, 0) _ HG.out Try.underlying66 rfl (Try.size66D _ _ _) ?_; refine wpList_new rfl 66 rfl _ Try.new66 ?_; refine wpList_store_row rfl 66 (.tmp 3) (.tmp 6) rfl (w.heap.size) (digA s r n) (by simp [Act.put, Act.eval]) rfl 66 (digA (fun _ => 0) (fun _ => 0) 0) HC.out (Try.size66D _ _ _) (digA_sizes _ _ _ _ _ _) (digA_one _ _ _) ?_))
  go_ret
  exact ⟨rfl, World.setRow_alloc_new _ _ _ _⟩

theorem reset_any (g : Nat) (d : Dg) (w : World) (hg : Blk w g 66 (digA d.s d.r d.n)) :
    Calls Try.prog 39 #[ptr g] w fun e w' => e = .returned (.tuple #[]) ∧ Blk w' g 66 (digA dg0.s dg0.r dg0.n) ∧ w.grownBy w' (some g) := by
  obtain ⟨s, r, n⟩ := d
  dsimp only at hg ⊢
  have hlt := hg.lt
  have hg1 := hg.alloc (.cells (wordsA 8 beginF) 58)
  have HG : Keep (Blk (w.alloc (.cells (wordsA 8 beginF) 58)) g 66 (digA s r n)) := ⟨hg1⟩
  clear hg hg1
  go_enter Try.func39, Try.ntmps39
  go_wp2_with fail
  refine (begin_any _).mono ?_
  rintro e w' ⟨rfl, rfl⟩
  go_wp2_with (first | (refine wpList_bld rfl 66 _ rfl (digA beginF (fun _ => 0) 0) (by kernel_rfl) ?_) | (refine wpList_store_row rfl 66 (.tmp 5) (.tmp 4) rfl g (digA beginF (fun _ => 0) 0) rfl rfl 66 (digA s r n) HG.out (Try.size66D _ _ _) (digA_sizes _ _ _ _ _ _) (digA_one _ _ _) ?_))
  go_end0
  exact ⟨rfl, HG.out.setRow _, grownBy_trans (grownBy_below (below_new _ _) _) (grownBy_setRow _ _ _)⟩
end Go.Proofs.Ytbbhjgflaiacaaa
