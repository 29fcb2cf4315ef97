import Derived.Test.YtpakaladpdoejaaDoorShaOf
namespace Go.Proofs.YtpakaladpdoejaaDoor
open Go.RowKit

theorem bits_or_comm (k : IntKind) (a b : Int) : bits .or k a b = bits .or k b a := by
  simp only [bits, BitVec.or_comm]
theorem rot_swap (x n : Int) : bits .or .u32 (x / 2 ^ n.toNat) (x * 2 ^ (32 - n).toNat % 4294967296) = rot x n := by
  rw [bits_or_comm]; rfl

set_option maxRecDepth 8000 in
set_option maxHeartbeats 400000 in
theorem turned_any (x n : Int) (w : World) (h1 : 1 ≤ n) (h2 : n ≤ 31) :
    Calls Tryd.prog 46 #[.int .u32 x, .int .i64 n] w fun e w' => e = .returned (.int .u32 (rot x n)) ∧ ∃ k, w' = w.drewN k := by
  have hs : 32 - n ≤ 32 := by omega
  have hs0 : 0 ≤ 32 - n := by omega
  have hn0 : 0 ≤ n := by omega
  have hn1 : n ≤ 32 := by omega
  go_enter Tryd.func46, Tryd.ntmps46
  go_wp2
  go_quiet (fail)
  go_wp2
  go_ret
  refine ⟨?_, nq, rfl⟩
  rw [← rot_swap]
  rfl

theorem nextW_flat (c : Nat → Int) (t : Nat) : nextW c t = (c (t - 16) + sig0 (c (t - 15)) + c (t - 7) + sig1 (c (t - 2))) % 4294967296 := by
  unfold nextW
  generalize sig0 (c (t - 15)) = x
  generalize sig1 (c (t - 2)) = y
  omega

set_option maxRecDepth 8000 in
set_option maxHeartbeats 2000000 in
theorem words_any (b : Nat → Int) (h off cap : Nat) (w : World) (hx : ∀ i, i < 64 → w.cell? ⟨h, off + i, none⟩ = some (.int .u8 (b i))) :
    Calls Tryd.prog 45 #[.slice (some ⟨h, off, none⟩) 64 cap] w fun e w' => e = .returned (.agg (wordsA 64 (sched b 64))) ∧ Below w.heap.size w w' := by
  have HX : Keep (∀ i, i < 64 → w.cell? ⟨h, off + i, none⟩ = some (.int .u8 (b i))) := ⟨hx⟩
  have hhlt := cell_lt (hx 0 (by omega))
  clear hx
  have HC : Keep (Blk ((w.alloc (.cells (wordsA 64 fun _ => 0) 75)).alloc (.cells (wordsA 64 fun _ => 0) 75)) (w.heap.size + 1) 75 (wordsA 64 fun _ => 0)) := ⟨by
    have h := Blk.new (w.alloc (.cells (wordsA 64 fun _ => 0) 75)) 75 (wordsA 64 fun _ => 0)
    simp only [World.size_alloc] at h; exact h⟩
  have hR := ((Blk.new w 75 (wordsA 64 fun _ => 0)).alloc (.cells (wordsA 64 fun _ => 0) 75)).setRow_ne (b' := w.heap.size + 1) (by omega) (wordsA 64 fun _ => 0)
  have hW := HC.out.setRow (wordsA 64 fun _ => 0)
  have hB : Below w.heap.size w (((w.alloc (.cells (wordsA 64 fun _ => 0) 75)).alloc (.cells (wordsA 64 fun _ => 0) 75)).setRow (w.heap.size + 1) (wordsA 64 fun _ => 0)) :=
    below_setRow (((Below.refl _ _).alloc (Nat.le_refl _) _).alloc (by simp) _) (by omega) _
  go_enter Tryd.func45, Tryd.ntmps45
  go_wp2_with (first | (refine wpList_new rfl 75 rfl _ Tryd.new75 ?_) | (refine wpList_bld rfl 75 _ rfl (wordsA 64 fun _ => 0) (by kernel_rfl) ?_; refine wpList_new rfl 75 rfl _ Tryd.new75 ?_; refine wpList_store_row rfl 75 (.tmp 3) (.tmp 8) rfl (w.heap.size + 1) (wordsA 64 fun _ => 0) (by simp [Act.put, Act.eval]) rfl 75 (wordsA 64 fun _ => 0) HC.out (Tryd.size75W _) (wordsA_sizes _ _ _) (wordsA_one _ _) ?_))
  generalize (((w.alloc (.cells (wordsA 64 fun _ => 0) 75)).alloc (.cells (wordsA 64 fun _ => 0) 75)).setRow (w.heap.size + 1) (wordsA 64 fun _ => 0)) = w0 at *
  clear HC
  go_loopw [4] (fun i wr => ∃ t : Nat, t ≤ 16 ∧ i = .int .i64 t ∧ Blk wr w.heap.size 75 (wordsA 64 fun _ => 0) ∧ Blk wr (w.heap.size + 1) 75 (wordsA 64 (sched b t)) ∧ Below w.heap.size w wr) (fun i _ => 16 - (intOf i).toNat)
  case atStart => exact ⟨0, by omega, rfl, hR, hW, hB⟩
  case round =>
    clear hR hW hB
    obtain ⟨t, ht, rfl, hR, hW, hB⟩ := hrel
    by_cases hlt : t < 16
    · have hlt' : (t : Int) < 16 := by omega
      have e0 : wr.cell? ⟨h, off + 4 * t, none⟩ = some (.int .u8 (b (4 * t))) := by rw [hB.cell (p := ⟨h, off + 4 * t, none⟩) hhlt]; exact HX.out _ (by omega)
      have e1 : wr.cell? ⟨h, off + (4 * t + 1), none⟩ = some (.int .u8 (b (4 * t + 1))) := by rw [hB.cell (p := ⟨h, off + (4 * t + 1), none⟩) hhlt]; exact HX.out _ (by omega)
      have e2 : wr.cell? ⟨h, off + (4 * t + 2), none⟩ = some (.int .u8 (b (4 * t + 2))) := by rw [hB.cell (p := ⟨h, off + (4 * t + 2), none⟩) hhlt]; exact HX.out _ (by omega)
      have e3 : wr.cell? ⟨h, off + (4 * t + 3), none⟩ = some (.int .u8 (b (4 * t + 3))) := by rw [hB.cell (p := ⟨h, off + (4 * t + 3), none⟩) hhlt]; exact HX.out _ (by omega)
      have e4 : wr.cell? ⟨w.heap.size + 1, t, none⟩ = some (.int .u32 (sched b t t)) := by rw [hW.cell, wordsA_get _ _ _ (by omega)]
      have e5 : wr.frozen? ⟨w.heap.size + 1, t, none⟩ = false := hW.frozen t
      go_wp2
      go_region
      go_wp2
      go_roundw
      case rel => exact ⟨t + 1, by omega, by go_num, (hR.set_ne (by omega) _).drew, by
        have h := (hW.set t (.int .u32 (be32 b t))).drew
        rw [wordsA_set] at h
        simp only [sched, if_pos hlt]; exact h, (hB.setCell (by show w.heap.size ≤ w.heap.size + 1; omega) _).drew⟩
      case measure => simp [intOf]; omega
    · obtain rfl : t = 16 := by omega
      clear hlt ht HX hhlt
      go_wp2
      go_loopw [5] (fun i wr => ∃ t : Nat, 16 ≤ t ∧ t ≤ 64 ∧ i = .int .i64 t ∧ Blk wr w.heap.size 75 (wordsA 64 fun _ => 0) ∧ Blk wr (w.heap.size + 1) 75 (wordsA 64 (sched b t)) ∧ Below w.heap.size w wr) (fun i _ => 64 - (intOf i).toNat)
      case atStart => exact ⟨16, by omega, by omega, rfl, hR, hW, hB⟩
      case round =>
        clear hR hW hB
        obtain ⟨t, ht0, ht, rfl, hR, hW, hB⟩ := hrel
        by_cases hlt : t < 64
        · have e16 : wr.cell? ⟨w.heap.size + 1, t - 16, none⟩ = some (.int .u32 (sched b t (t - 16))) := by rw [hW.cell, wordsA_get _ _ _ (by omega)]
          have e15 : wr.cell? ⟨w.heap.size + 1, t - 15, none⟩ = some (.int .u32 (sched b t (t - 15))) := by rw [hW.cell, wordsA_get _ _ _ (by omega)]
          have e7 : wr.cell? ⟨w.heap.size + 1, t - 7, none⟩ = some (.int .u32 (sched b t (t - 7))) := by rw [hW.cell, wordsA_get _ _ _ (by omega)]
          have e2 : wr.cell? ⟨w.heap.size + 1, t - 2, none⟩ = some (.int .u32 (sched b t (t - 2))) := by rw [hW.cell, wordsA_get _ _ _ (by omega)]
          have e0 : wr.cell? ⟨w.heap.size + 1, t, none⟩ = some (.int .u32 (sched b t t)) := by rw [hW.cell, wordsA_get _ _ _ (by omega)]
          have ef : wr.frozen? ⟨w.heap.size + 1, t, none⟩ = false := hW.frozen t
          have hlt' : (t : Int) < 64 := by omega
          have ht0' : (16 : Int) ≤ (t : Int) := by omega
          go_wp2
          go_quiet (fail)
          go_wp2_with (go_at_call 46; refine (turned_any _ _ _ (by omega) (by omega)).mono ?_; rintro e w' ⟨rfl, k, rfl⟩)
          go_region
          go_wp2
          go_roundw
          case rel =>
            go_tidy
            try simp only [IntKind.wrap_u32']
            repeat apply Exists.intro
            refine ⟨?_, rfl⟩
            have hv : Keep (Blk (wr.setCell ⟨w.heap.size + 1, t, none⟩ (.int .u32 ((sched b t (t - 16) + sig0 (sched b t (t - 15)) + sched b t (t - 7) + sig1 (sched b t (t - 2))) % 4294967296))) (w.heap.size + 1) 75 (wordsA 64 (sched b (t + 1)))) := ⟨by
              have h := hW.set t (.int .u32 (nextW (sched b t) t))
              rw [wordsA_set] at h
              rw [← nextW_flat]
              simp only [sched, if_neg (show ¬ t < 16 by omega)]; exact h⟩
            exact ⟨t + 1, by omega, by omega, by go_num, (blk_drewN hR _).set_ne (by omega) _, hv.out, (below_drewN hB _).setCell (by show w.heap.size ≤ w.heap.size + 1; omega) _⟩
          case measure => simp [intOf]; omega
        · obtain rfl : t = 64 := by omega
          clear hlt ht ht0
          obtain ⟨c, hc⟩ : ∃ c, Keep (c = sched b 64) := ⟨_, ⟨rfl⟩⟩
          rw [← hc.out] at hW
          go_wp2_with (refine wpList_load_row rfl 75 (.tmp 3) rfl (w.heap.size + 1) rfl 75 (wordsA 64 c) (0, 0) (.array 64 72) hW Tryd.underlying75 rfl (Tryd.size75W _) ?_; refine wpList_store_row rfl 75 (.tmp 2) (.tmp 91) rfl w.heap.size (wordsA 64 c) rfl rfl 75 (wordsA 64 fun _ => 0) hR (Tryd.size75W _) (wordsA_sizes _ _ _) (wordsA_one _ _) ?_)
          exact bodyPost_ret (v := .agg (wordsA 64 c)) (results_cell_row Tryd.results45 _ _ w.heap.size 75 _ (0, 0) _ rfl (hR.setRow _) Tryd.underlying75 rfl (Tryd.size75W _)) rfl ⟨by rw [hc.out], below_setRow hB (Nat.le_refl _) _⟩
end Go.Proofs.YtpakaladpdoejaaDoor
