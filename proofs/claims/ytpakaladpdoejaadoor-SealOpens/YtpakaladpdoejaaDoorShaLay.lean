import Derived.Test.YtpakaladpdoejaaDoorShaWrite
namespace Go.Proofs.YtpakaladpdoejaaDoor
open Go.RowKit

/-- The words as bytes, the highest byte of each first: the first t words laid. -/
def layUp (s : Nat → Int) : Nat → (Nat → Int)
  | 0 => fun _ => 0
  | t + 1 => upd (upd (upd (upd (layUp s t) (4 * t) (s t / 16777216 % 256)) (4 * t + 1) (s t / 65536 % 256)) (4 * t + 2) (s t / 256 % 256)) (4 * t + 3) (s t % 256)

theorem index60_0 (s : Nat → Int) (w : World) : (Instr.index 73 (.agg (wordsA 8 s)) (.int .i64 0)).run Tryd.prog w = .ok (.int .u32 (s 0)) w := by kernel_rfl
theorem index60_1 (s : Nat → Int) (w : World) : (Instr.index 73 (.agg (wordsA 8 s)) (.int .i64 1)).run Tryd.prog w = .ok (.int .u32 (s 1)) w := by kernel_rfl
theorem index60_2 (s : Nat → Int) (w : World) : (Instr.index 73 (.agg (wordsA 8 s)) (.int .i64 2)).run Tryd.prog w = .ok (.int .u32 (s 2)) w := by kernel_rfl
theorem index60_3 (s : Nat → Int) (w : World) : (Instr.index 73 (.agg (wordsA 8 s)) (.int .i64 3)).run Tryd.prog w = .ok (.int .u32 (s 3)) w := by kernel_rfl
theorem index60_4 (s : Nat → Int) (w : World) : (Instr.index 73 (.agg (wordsA 8 s)) (.int .i64 4)).run Tryd.prog w = .ok (.int .u32 (s 4)) w := by kernel_rfl
theorem index60_5 (s : Nat → Int) (w : World) : (Instr.index 73 (.agg (wordsA 8 s)) (.int .i64 5)).run Tryd.prog w = .ok (.int .u32 (s 5)) w := by kernel_rfl
theorem index60_6 (s : Nat → Int) (w : World) : (Instr.index 73 (.agg (wordsA 8 s)) (.int .i64 6)).run Tryd.prog w = .ok (.int .u32 (s 6)) w := by kernel_rfl
theorem index60_7 (s : Nat → Int) (w : World) : (Instr.index 73 (.agg (wordsA 8 s)) (.int .i64 7)).run Tryd.prog w = .ok (.int .u32 (s 7)) w := by kernel_rfl
theorem index60 (s : Nat → Int) (t : Nat) (ht : t < 8) (w : World) : (Instr.index 73 (.agg (wordsA 8 s)) (.int .i64 (t : Int))).run Tryd.prog w = .ok (.int .u32 (s t)) w := by
  match t, ht with
  | 0, _ => exact index60_0 s w
  | 1, _ => exact index60_1 s w
  | 2, _ => exact index60_2 s w
  | 3, _ => exact index60_3 s w
  | 4, _ => exact index60_4 s w
  | 5, _ => exact index60_5 s w
  | 6, _ => exact index60_6 s w
  | 7, _ => exact index60_7 s w
  | n + 8, h => omega

set_option maxRecDepth 8000 in
set_option maxHeartbeats 1000000 in
theorem lay_any (s : Nat → Int) (w : World) :
    Calls Tryd.prog 44 #[.agg (wordsA 8 s)] w fun e w' => e = .returned (.agg (bytesA 32 (layUp s 8))) ∧ Below w.heap.size w w' := by
  go_enter Tryd.func44, Tryd.ntmps44
  go_wp2_with (first | (refine wpList_boxA rfl 73 (.tmp 0) rfl (wordsA 8 s) rfl ?_; refine wpList_new rfl 40 rfl _ Tryd.new40 ?_) | (refine wpList_new rfl 40 rfl _ Tryd.new40 ?_) | (refine wpList_load_row rfl 73 (.tmp 1) rfl w.heap.size rfl 73 (wordsA 8 s) (0, 0) (.array 8 72) (((Blk.new w 73 (wordsA 8 s)).alloc _).alloc _) Tryd.underlying73 rfl (Tryd.size73W _) ?_))
  have hR := (Blk.new (w.alloc (.cells (wordsA 8 s) 73)) 40 (bytesA 32 fun _ => 0)).alloc (.cells (bytesA 32 fun _ => 0) 40)
  have hH := Blk.new ((w.alloc (.cells (wordsA 8 s) 73)).alloc (.cells (bytesA 32 fun _ => 0) 40)) 40 (bytesA 32 fun _ => 0)
  have hB : Below w.heap.size w (((w.alloc (.cells (wordsA 8 s) 73)).alloc (.cells (bytesA 32 fun _ => 0) 40)).alloc (.cells (bytesA 32 fun _ => 0) 40)) :=
    (((Below.refl _ _).alloc (Nat.le_refl _) _).alloc (by simp) _).alloc (by simp; omega) _
  simp only [World.size_alloc] at hR hH
  generalize (((w.alloc (.cells (wordsA 8 s) 73)).alloc (.cells (bytesA 32 fun _ => 0) 40)).alloc (.cells (bytesA 32 fun _ => 0) 40)) = w0 at *
  go_loopw [7] (fun i wr => ∃ t : Nat, t ≤ 8 ∧ i = .int .i64 t ∧ Blk wr (w.heap.size + 1) 40 (bytesA 32 fun _ => 0) ∧ Blk wr (w.heap.size + 1 + 1) 40 (bytesA 32 (layUp s t)) ∧ Below w.heap.size w wr) (fun i _ => 8 - (intOf i).toNat)
  case atStart => exact ⟨0, by omega, rfl, hR, hH, hB⟩
  case round =>
    clear hR hH hB
    obtain ⟨t, ht, rfl, hR, hH, hB⟩ := hrel
    by_cases hlt : t < 8
    · have hix := index60 s t hlt
      have hlt' : (t : Int) < 8 := by omega
      have c0 : wr.cell? ⟨w.heap.size + 1 + 1, 4 * t, none⟩ = some (.int .u8 (layUp s t (4 * t))) := by rw [hH.cell, bytesA_get _ _ _ (by omega)]
      have f0 : wr.frozen? ⟨w.heap.size + 1 + 1, 4 * t, none⟩ = false := hH.frozen _
      have c1 : wr.cell? ⟨w.heap.size + 1 + 1, 4 * t + 1, none⟩ = some (.int .u8 (layUp s t (4 * t + 1))) := by rw [hH.cell, bytesA_get _ _ _ (by omega)]
      have f1 : wr.frozen? ⟨w.heap.size + 1 + 1, 4 * t + 1, none⟩ = false := hH.frozen _
      have c2 : wr.cell? ⟨w.heap.size + 1 + 1, 4 * t + 2, none⟩ = some (.int .u8 (layUp s t (4 * t + 2))) := by rw [hH.cell, bytesA_get _ _ _ (by omega)]
      have f2 : wr.frozen? ⟨w.heap.size + 1 + 1, 4 * t + 2, none⟩ = false := hH.frozen _
      have c3 : wr.cell? ⟨w.heap.size + 1 + 1, 4 * t + 3, none⟩ = some (.int .u8 (layUp s t (4 * t + 3))) := by rw [hH.cell, bytesA_get _ _ _ (by omega)]
      have f3 : wr.frozen? ⟨w.heap.size + 1 + 1, 4 * t + 3, none⟩ = false := hH.frozen _
      go_wp2
      go_roundw
      case rel =>
        have ne : w.heap.size + 1 ≠ w.heap.size + 1 + 1 := by omega
        have le : w.heap.size ≤ w.heap.size + 1 + 1 := by omega
        have h := (((hH.set (4 * t) (.int .u8 (s t / 16777216 % 256))).set (4 * t + 1) (.int .u8 (s t / 65536 % 256))).set (4 * t + 2) (.int .u8 (s t / 256 % 256))).set (4 * t + 3) (.int .u8 (s t % 256))
        rw [bytesA_set, bytesA_set, bytesA_set, bytesA_set] at h
        exact ⟨t + 1, by omega, by go_num, (((hR.set_ne ne _).set_ne ne _).set_ne ne _).set_ne ne _, h, (((hB.setCell le _).setCell le _).setCell le _).setCell le _⟩
      case measure => simp [intOf]; omega
    · obtain rfl : t = 8 := by omega
      clear hlt ht
      obtain ⟨c, hc⟩ : ∃ c, Keep (c = layUp s 8) := ⟨_, ⟨rfl⟩⟩
      rw [← hc.out] at hH
      go_wp2_with (refine wpList_load_row rfl 40 (.tmp 3) rfl (w.heap.size + 1 + 1) rfl 40 (bytesA 32 c) (0, 0) (.array 32 5) hH Tryd.underlying40 rfl (Tryd.size40B _) ?_; refine wpList_store_row rfl 40 (.tmp 2) (.tmp 38) rfl (w.heap.size + 1) (bytesA 32 c) rfl rfl 40 (bytesA 32 fun _ => 0) hR (Tryd.size40B _) (bytesA_sizes _ _ _) (bytesA_one _ _) ?_)
      exact bodyPost_ret (v := .agg (bytesA 32 c)) (results_cell_row Tryd.results44 _ _ (w.heap.size + 1) 40 _ (0, 0) _ rfl (hR.setRow _) Tryd.underlying40 rfl (Tryd.size40B _)) rfl ⟨by rw [hc.out], below_setRow hB (by omega) _⟩
end Go.Proofs.YtpakaladpdoejaaDoor
