import Derived.Test.YtpakaladpdoejaaDoorShaRefG
import Derived.ChangeKeysEq
namespace Go.Proofs.YtpakaladpdoejaaDoor
open Go.RowKit

set_option maxRecDepth 8000 in
set_option maxHeartbeats 1000000 in
theorem ofAll_none (pa : Option Addr) (pc : Nat) (w : World) :
    Calls Tryd.prog 20 #[.slice pa 0 pc] w fun e w' => e = .returned (.agg (bytesA 32 (shaP []))) ∧ Below w.heap.size w w' := by
  have hbA := below_new w (.cells (bytesA 32 fun _ => 0) 40)
  go_enter Tryd.func20, Tryd.ntmps20
  go_wp2_with (first | (refine wpList_new rfl 40 rfl _ Tryd.new40 ?_))
  refine (new_any _).mono ?_
  rintro e w1 ⟨rfl, rfl⟩
  simp only [World.size_alloc]
  have hG := Blk.new ((w.alloc (.cells (bytesA 32 fun _ => 0) 40)).alloc (.cells (wordsA 8 beginF) 73)) 94 (digA beginF (fun _ => 0) 0)
  have hR := ((Blk.new w 40 (bytesA 32 fun _ => 0)).alloc (.cells (wordsA 8 beginF) 73)).alloc (.cells (digA beginF (fun _ => 0) 0) 94)
  have hB : Below w.heap.size w (((w.alloc (.cells (bytesA 32 fun _ => 0) 40)).alloc (.cells (wordsA 8 beginF) 73)).alloc (.cells (digA beginF (fun _ => 0) 0) 94)) :=
    (((Below.refl _ _).alloc (Nat.le_refl _) _).alloc (by simp) _).alloc (by simp; omega) _
  simp only [World.size_alloc] at hG
  generalize (((w.alloc (.cells (bytesA 32 fun _ => 0) 40)).alloc (.cells (wordsA 8 beginF) 73)).alloc (.cells (digA beginF (fun _ => 0) 0) 94)) = w0 at *
  go_wp2_with fail
  refine wp_loop_rounds 1 ?_; rw [rounds_succ]
  go_wp2_with fail
  refine (sum_any (w.heap.size + 1 + 1) dg0 w0 hG (by decide)).mono ?_
  rintro e w5 ⟨rfl, hB5⟩
  have hr5 := hR.below hB5 hR.lt
  have hB5' := hB.trans (hB5.mono hB.size)
  obtain ⟨c, hc⟩ : ∃ c, Keep (c = sumF dg0) := ⟨_, ⟨rfl⟩⟩
  rw [← hc.out]
  go_wp2_with (refine wpList_store_row rfl 40 (.tmp 2) (.tmp 18) rfl w.heap.size (bytesA 32 c) rfl rfl 40 (bytesA 32 fun _ => 0) hr5 (Tryd.size40B _) (bytesA_sizes _ _ _) (bytesA_one _ _) ?_)
  exact bodyPost_ret (v := .agg (bytesA 32 c)) (results_cell_row Tryd.results20 _ _ w.heap.size 40 _ (0, 0) _ rfl (hr5.setRow _) Tryd.underlying40 rfl (Tryd.size40B _)) rfl ⟨by rw [hc.out]; rfl, below_setRow hB5' (Nat.le_refl _) _⟩

theorem ofAll_rows (v : Value) (m : Nat) (V : Nat → Value) (rows : Nat → List Int) (w : World) (hr : RowsAt w v m V rows) (hm : (m : Int) ≤ 9223372036854775807) (hlen : (concat rows m).length ≤ 140737488355000) :
    Calls Tryd.prog 20 #[v] w fun e w' => e = .returned (.agg (bytesA 32 (shaP (concat rows m)))) ∧ Below w.heap.size w w' := by
  rcases hr.form with ⟨a, c, rfl, rfl⟩ | ⟨q, o, cap, rfl, h2⟩
  · exact ofAll_none a c w
  · exact ofAll_any q o m cap V rows w h2 hr.row hm (by omega)

theorem run_equal_arr (c : Nat → Int) (w : World) : (Op.equalIn 10000 40 (.agg (bytesA 32 c)) (.agg (bytesA 32 c))).run Tryd.prog w = .ok true w := by
  obtain ⟨i, hi, _⟩ := Option.map_eq_some_iff.1 Tryd.size5
  rw [run_equalIn_array (P := Tryd.prog) w 9999 _ _ Tryd.underlying40 hi, Tryd.cells5]
  exact run_items c 9998 w _ (fun j hj => List.mem_range.1 hj)
theorem run_neq_arr (c : Nat → Int) (w : World) : (binOp .neq 40 (.agg (bytesA 32 c)) (.agg (bytesA 32 c))).run Tryd.prog w = .ok (.bool false) w := by
  rw [run_neq_struct, run_equal_arr]; rfl

end Go.Proofs.YtpakaladpdoejaaDoor
