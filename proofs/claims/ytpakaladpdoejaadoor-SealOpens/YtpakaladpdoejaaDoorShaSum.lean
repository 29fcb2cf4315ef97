import Derived.Test.YtpakaladpdoejaaDoorShaEnd
import Derived.Test.YtpakaladpdoejaaDoorShaLay
namespace Go.Proofs.YtpakaladpdoejaaDoor
open Go.RowKit

/-- The bytes behind a row of n bytes. -/
def endX (n i : Nat) : Int := if i = 0 then 128 else if i ≤ zerosF n then 0 else 8 * (n : Int) / 2 ^ (56 - 8 * (i - zerosF n - 1)) % 256
theorem endL_get (n i : Nat) (h : i < zerosF n + 9) : (endL n 8)[i]? = some (.int .u8 (endX n i)) := by
  unfold endL endX
  rw [List.getElem?_append, List.length_cons, List.length_replicate]
  by_cases h1 : i < zerosF n + 1
  · rw [if_pos h1]
    cases i with
    | zero => rfl
    | succ i => rw [List.getElem?_cons_succ, List.getElem?_replicate, if_pos (by omega), if_neg (by omega), if_pos (by omega)]
  · rw [if_neg h1, if_neg (by omega), if_neg (by omega), List.getElem?_map, List.getElem?_range (by omega)]
    simp only [Option.map_some]
    rw [show i - (zerosF n + 1) = i - zerosF n - 1 by omega]

/-- A Digest that is begun. -/
def dg0 : Dg := ⟨beginF, fun _ => 0, 0⟩
/-- What Sum tells. -/
def sumF (d : Dg) : Nat → Int := layUp (absorbN d (endX d.n) (zerosF d.n + 9)).s 8

theorem Tryd.new94 (w : World) : (Instr.alloc 94 true (.tuple #[])).run Tryd.prog w = .ok (.pointer (some ⟨w.heap.size, 0, none⟩)) (w.alloc (.cells (digA (fun _ => 0) (fun _ => 0) 0) 94)) := by kernel_rfl
theorem digA_sizes (s r s' r' : Nat → Int) (n n' : Int) : (digA s r n).size = (digA s' r' n').size := by rw [digA_size, digA_size]

set_option maxRecDepth 8000 in
set_option maxHeartbeats 1000000 in
theorem sum_any (g : Nat) (d : Dg) (w : World) (hg : Blk w g 94 (digA d.s d.r d.n)) (hn : (d.n : Int) ≤ 576460752303423488) :
    Calls Tryd.prog 33 #[ptr g] w fun e w' => e = .returned (.agg (bytesA 32 (sumF d))) ∧ Below w.heap.size w w' := by
  have hlt := hg.lt
  obtain ⟨s, r, n⟩ := d
  dsimp only at hg hn
  have hg1 := (hg.alloc (.cells (bytesA 32 fun _ => 0) 40))
  have hc1 := Blk.new (w.alloc (.cells (bytesA 32 fun _ => 0) 40)) 94 (digA (fun _ => 0) (fun _ => 0) 0)
  have HG : Keep (Blk (w.alloc (.cells (bytesA 32 fun _ => 0) 40)) g 94 (digA s r n)) := ⟨hg1⟩
  have HC : Keep (Blk ((w.alloc (.cells (bytesA 32 fun _ => 0) 40)).alloc (.cells (digA (fun _ => 0) (fun _ => 0) 0) 94)) (w.heap.size + 1) 94 (digA (fun _ => 0) (fun _ => 0) 0)) := ⟨by simpa using hc1⟩
  have hg2 := (hg1.alloc (.cells (digA (fun _ => 0) (fun _ => 0) 0) 94)).setRow_ne (b' := w.heap.size + 1) (by omega) (digA s r n)
  have hc2 := HC.out.setRow (digA s r n)
  have hr2 := ((Blk.new w 40 (bytesA 32 fun _ => 0)).alloc (.cells (digA (fun _ => 0) (fun _ => 0) 0) 94)).setRow_ne (b' := w.heap.size + 1) (by omega) (digA s r n)
  have hB2 : Below w.heap.size w (((w.alloc (.cells (bytesA 32 fun _ => 0) 40)).alloc (.cells (digA (fun _ => 0) (fun _ => 0) 0) 94)).setRow (w.heap.size + 1) (digA s r n)) :=
    below_setRow (((Below.refl _ _).alloc (Nat.le_refl _) _).alloc (by simp) _) (by omega) _
  clear hg hg1 hc1
  obtain ⟨w2, hw2⟩ : ∃ w2, Keep (w2 = ((w.alloc (.cells (bytesA 32 fun _ => 0) 40)).alloc (.cells (digA (fun _ => 0) (fun _ => 0) 0) 94)).setRow (w.heap.size + 1) (digA s r n)) := ⟨_, ⟨rfl⟩⟩
  rw [← hw2.out] at hg2 hc2 hr2 hB2
  have c72 : w2.cell? ⟨g, 72, none⟩ = some (.int .i64 n) := by rw [hg2.cell, digA_n]
  go_enter Tryd.func33, Tryd.ntmps33
  go_wp2_with (first | (refine wpList_new rfl 40 rfl _ Tryd.new40 ?_) | (refine wpList_load_row rfl 94 (.tmp 5) rfl g rfl 94 (digA s r n) (0, 0) _ HG.out Tryd.underlying94 rfl (Tryd.size94D _ _ _) ?_; refine wpList_new rfl 94 rfl _ Tryd.new94 ?_; refine wpList_store_row rfl 94 (.tmp 3) (.tmp 6) rfl (w.heap.size + 1) (digA s r n) (by simp [Act.put, Act.eval]) rfl 94 (digA (fun _ => 0) (fun _ => 0) 0) HC.out (Tryd.size94D _ _ _) (digA_sizes _ _ _ _ _ _) (digA_one _ _ _) ?_; rw [← hw2.out]))
  refine (end_any n _ (by omega)).mono ?_
  rintro e w3 ⟨h, rfl, hle, hcells, hB3⟩
  have hsz2 := hB2.size
  have hc3 := hc2.below hB3 hc2.lt
  have hr3 := hr2.below hB3 hr2.lt
  have hltc := hc2.lt
  have hz9 : zerosF n + 9 ≤ 72 := by unfold zerosF; omega
  have HX : Keep (∀ i, i < zerosF n + 9 → w3.cell? ⟨h, 0 + i, none⟩ = some (.int .u8 (endX n i))) := ⟨fun i hi => by rw [Nat.zero_add]; exact hcells i _ (endL_get n i hi)⟩
  clear hcells c72
  have HB3 : Keep (Below w.heap.size w w3) := ⟨hB2.trans (hB3.mono hsz2)⟩
  go_wp2_with fail
  refine (write_any (w.heap.size + 1) ⟨s, r, n⟩ (endX n) (zerosF n + 9) (zerosF n + 9) h 0 w3 hc3 (by omega) HX.out (by dsimp only; omega) (Nat.le_refl _)).mono ?_
  rintro e w4 ⟨rfl, hc4, hgr4⟩
  have hr4 : Blk w4 w.heap.size 40 (bytesA 32 fun _ => 0) := by
    unfold Blk; rw [hgr4.block _ hr3.lt (by simp)]; exact hr3
  have hB4 : Below w.heap.size w w4 := HB3.out.grown hgr4 (by have := HB3.out.size; omega) (fun k e => by injection e with e; omega)
  obtain ⟨D, hD⟩ : ∃ D, Keep (D = absorbN ⟨s, r, n⟩ (endX n) (zerosF n + 9)) := ⟨_, ⟨rfl⟩⟩
  rw [← hD.out] at hc4
  obtain ⟨s', r', n'⟩ := D
  dsimp only at hc4
  have hrng := dig_range0 hc4
  go_wp2_with (refine wpList_load_mid rfl 73 (.tmp 13) rfl (w.heap.size + 1) 0 rfl (wordsA 8 s').toList (.array 8 72) hrng Tryd.underlying73 rfl (by rw [Array.length_toList]; exact Tryd.size73W s') ?_; rw [Array.toArray_toList])
  refine (lay_any s' _).mono ?_
  rintro e w5 ⟨rfl, hB5⟩
  have hr5 := hr4.below hB5 hr4.lt
  have hB5' := hB4.trans (hB5.mono hB4.size)
  obtain ⟨c, hc⟩ : ∃ c, Keep (c = layUp s' 8) := ⟨_, ⟨rfl⟩⟩
  rw [← hc.out]
  go_wp2_with (refine wpList_store_row rfl 40 (.tmp 2) (.tmp 15) rfl w.heap.size (bytesA 32 c) rfl rfl 40 (bytesA 32 fun _ => 0) hr5 (Tryd.size40B _) (bytesA_sizes _ _ _) (bytesA_one _ _) ?_)
  exact bodyPost_ret (v := .agg (bytesA 32 c)) (results_cell_row Tryd.results33 _ _ w.heap.size 40 _ (0, 0) _ rfl (hr5.setRow _) Tryd.underlying40 rfl (Tryd.size40B _)) rfl ⟨by rw [hc.out]; unfold sumF; rw [← hD.out], below_setRow hB5' (Nat.le_refl _) _⟩
end Go.Proofs.YtpakaladpdoejaaDoor
