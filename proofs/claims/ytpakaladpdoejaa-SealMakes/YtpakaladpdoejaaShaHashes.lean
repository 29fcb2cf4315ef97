import Derived.Test.YtpakaladpdoejaaShaRefG
import Derived.ChangeKeysEq
namespace Go.Proofs.Ytpakaladpdoejaa
open Go.RowKit

set_option maxRecDepth 10000 in
set_option maxHeartbeats 1000000 in
theorem ofAll_none (pa : Option Addr) (pc : Nat) (w : World) :
    Calls Try.prog 22 #[.slice pa 0 pc] w fun e w' => e = .returned (.agg (bytesA 32 (shaP []))) ∧ Below w.heap.size w w' := by
  have hbA := below_new w (.cells (bytesA 32 fun _ => 0) 26)
  go_enter Try.func22, Try.ntmps22
  go_wp2_with (first | (refine wpList_new rfl 26 rfl _ Try.new26 ?_))
  refine (new_any _).mono ?_
  rintro e w1 ⟨rfl, rfl⟩
  simp only [World.size_alloc]
  have hG := Blk.new ((w.alloc (.cells (bytesA 32 fun _ => 0) 26)).alloc (.cells (wordsA 8 beginF) 62)) 68 (digA beginF (fun _ => 0) 0)
  have hR := ((Blk.new w 26 (bytesA 32 fun _ => 0)).alloc (.cells (wordsA 8 beginF) 62)).alloc (.cells (digA beginF (fun _ => 0) 0) 68)
  have hB : Below w.heap.size w (((w.alloc (.cells (bytesA 32 fun _ => 0) 26)).alloc (.cells (wordsA 8 beginF) 62)).alloc (.cells (digA beginF (fun _ => 0) 0) 68)) :=
    (((Below.refl _ _).alloc (Nat.le_refl _) _).alloc (by simp) _).alloc (by simp; omega) _
  simp only [World.size_alloc] at hG
  generalize (((w.alloc (.cells (bytesA 32 fun _ => 0) 26)).alloc (.cells (wordsA 8 beginF) 62)).alloc (.cells (digA beginF (fun _ => 0) 0) 68)) = w0 at *
  go_wp2_with fail
  refine wp_loop_rounds 1 ?_; rw [rounds_succ]
  go_wp2_with fail
  refine (sum_any (w.heap.size + 1 + 1) dg0 w0 hG (by decide)).mono ?_
  rintro e w5 ⟨rfl, hB5⟩
  have hr5 := hR.below hB5 hR.lt
  have hB5' := hB.trans (hB5.mono hB.size)
  obtain ⟨c, hc⟩ : ∃ c, Keep (c = sumF dg0) := ⟨_, ⟨rfl⟩⟩
  rw [← hc.out]
  go_wp2_with (refine wpList_store_row rfl 26 (.tmp 2) (.tmp 18) rfl w.heap.size (bytesA 32 c) rfl rfl 26 (bytesA 32 fun _ => 0) hr5 (Try.size26B _) (bytesA_sizes _ _ _) (bytesA_one _ _) ?_)
  exact bodyPost_ret (v := .agg (bytesA 32 c)) (results_cell_row Try.results22 _ _ w.heap.size 26 _ (0, 0) _ rfl (hr5.setRow _) Try.underlying26 rfl (Try.size26B _)) rfl ⟨by rw [hc.out]; rfl, below_setRow hB5' (Nat.le_refl _) _⟩

theorem ofAll_rows (v : Value) (m : Nat) (V : Nat → Value) (rows : Nat → List Int) (w : World) (hr : RowsAt w v m V rows) (hm : (m : Int) ≤ 9223372036854775807) (hlen : (concat rows m).length ≤ 140737488355000) :
    Calls Try.prog 22 #[v] w fun e w' => e = .returned (.agg (bytesA 32 (shaP (concat rows m)))) ∧ Below w.heap.size w w' := by
  rcases hr.form with ⟨a, c, rfl, rfl⟩ | ⟨q, o, cap, rfl, h2⟩
  · exact ofAll_none a c w
  · exact ofAll_any q o m cap V rows w h2 hr.row hm (by omega)

theorem run_equal_arr (c : Nat → Int) (w : World) : (Op.equalIn 10000 26 (.agg (bytesA 32 c)) (.agg (bytesA 32 c))).run Try.prog w = .ok true w := by
  obtain ⟨i, hi, _⟩ := Option.map_eq_some_iff.1 Try.size5
  rw [run_equalIn_array (P := Try.prog) w 9999 _ _ Try.underlying26 hi, Try.cells5]
  exact run_items c 9998 w _ (fun j hj => List.mem_range.1 hj)
theorem run_neq_arr (c : Nat → Int) (w : World) : (binOp .neq 26 (.agg (bytesA 32 c)) (.agg (bytesA 32 c))).run Try.prog w = .ok (.bool false) w := by
  rw [run_neq_struct, run_equal_arr]; rfl

end Go.Proofs.Ytpakaladpdoejaa
