import Derived.Test.YtpakaladpdoejaaDoorShaBase
namespace Go.Proofs.YtpakaladpdoejaaDoor
open Go.RowKit

/-- A word turned to the right by n bits, as the walk spells it. -/
def rot (x n : Int) : Int := bits .or .u32 (x * 2 ^ (32 - n).toNat % 4294967296) (x / 2 ^ n.toNat)

theorem and31 (n : Int) (h1 : 1 ≤ n) (h2 : n ≤ 31) : bits .and .u64 (IntKind.u64.wrap (-n)) 31 = 32 - n := by
  obtain ⟨k, rfl⟩ := Int.eq_ofNat_of_zero_le (show 0 ≤ n by omega)
  have hk : k < 32 := by omega
  have hk1 : 1 ≤ k := by omega
  have : ∀ k : Fin 32, 1 ≤ k.val → bits .and .u64 (IntKind.u64.wrap (-((k.val : Nat) : Int))) 31 = 32 - ((k.val : Nat) : Int) := by decide +kernel
  exact this ⟨k, hk⟩ hk1

set_option maxRecDepth 8000 in
set_option maxHeartbeats 400000 in
theorem rotl_any (x n : Int) (w : World) (h1 : 1 ≤ n) (h2 : n ≤ 31) :
    Calls Tryd.prog 50 #[.int .u32 x, .int .i64 (-n)] w fun e w' => e = .returned (.int .u32 (rot x n)) ∧ w' = w := by
  have ha := and31 n h1 h2
  have hs : 32 - n ≤ 32 := by omega
  have hs0 : 0 ≤ 32 - n := by omega
  have hw : IntKind.u64.wrap (32 - (32 - n)) = n := by rw [IntKind.wrap_u64]; omega
  go_enter Tryd.func50, Tryd.ntmps50
  go_wp2
  go_ret
  exact ⟨rfl, rfl⟩

set_option maxRecDepth 8000 in
set_option maxHeartbeats 400000 in
theorem turn_any (x n : Int) (w : World) (h1 : 1 ≤ n) (h2 : n ≤ 31) :
    Calls Tryd.prog 49 #[.int .u32 x, .int .i64 n] w fun e w' => e = .returned (.int .u32 (rot x n)) ∧ w' = w := by
  go_enter Tryd.func49, Tryd.ntmps49
  go_wp2_with fail
  refine (rotl_any x n _ h1 h2).mono ?_
  rintro e w' ⟨rfl, rfl⟩
  go_wp2
  go_ret
  exact ⟨rfl, rfl⟩

def beginL : List Int := [0x6a09e667, 0xbb67ae85, 0x3c6ef372, 0xa54ff53a, 0x510e527f, 0x9b05688c, 0x1f83d9ab, 0x5be0cd19]
def beginF (i : Nat) : Int := beginL.getD i 0
def roundsL : List Int := [0x428a2f98, 0x71374491, 0xb5c0fbcf, 0xe9b5dba5, 0x3956c25b, 0x59f111f1, 0x923f82a4, 0xab1c5ed5, 0xd807aa98, 0x12835b01, 0x243185be, 0x550c7dc3, 0x72be5d74, 0x80deb1fe, 0x9bdc06a7, 0xc19bf174, 0xe49b69c1, 0xefbe4786, 0x0fc19dc6, 0x240ca1cc, 0x2de92c6f, 0x4a7484aa, 0x5cb0a9dc, 0x76f988da, 0x983e5152, 0xa831c66d, 0xb00327c8, 0xbf597fc7, 0xc6e00bf3, 0xd5a79147, 0x06ca6351, 0x14292967, 0x27b70a85, 0x2e1b2138, 0x4d2c6dfc, 0x53380d13, 0x650a7354, 0x766a0abb, 0x81c2c92e, 0x92722c85, 0xa2bfe8a1, 0xa81a664b, 0xc24b8b70, 0xc76c51a3, 0xd192e819, 0xd6990624, 0xf40e3585, 0x106aa070, 0x19a4c116, 0x1e376c08, 0x2748774c, 0x34b0bcb5, 0x391c0cb3, 0x4ed8aa4a, 0x5b9cca4f, 0x682e6ff3, 0x748f82ee, 0x78a5636f, 0x84c87814, 0x8cc70208, 0x90befffa, 0xa4506ceb, 0xbef9a3f7, 0xc67178f2]
def roundsF (i : Nat) : Int := roundsL.getD i 0

set_option maxRecDepth 10000 in
theorem begin_any (w : World) :
    Calls Tryd.prog 41 #[] w fun e w' => e = .returned (.agg (wordsA 8 beginF)) ∧ w' = w.alloc (.cells (wordsA 8 beginF) 73) := by
  go_enter Tryd.func41, Tryd.ntmps41
  go_step; go_step; go_step
  refine wpList_new rfl 73 rfl _ Tryd.new73 ?_
  go_step; go_step; go_step; go_step; go_step
  refine wpList_bld rfl 73 _ rfl (wordsA 8 beginF) (by kernel_rfl) ?_
  refine wpList_plain rfl fun _ hK => ?_
  refine wp_store_row 73 _ _ rfl w.heap.size (wordsA 8 beginF) rfl rfl 73 (wordsA 8 fun _ => 0) (Blk.new w 73 _) (by simpa [wordsA_size] using Tryd.size73) (by simp [wordsA_size]) (wordsA_one _ _) (hK _ _ ?_)
  rw [World.setRow_alloc_new]
  go_step; go_step; go_step; go_step
  exact bodyPost_ret (v := .agg (wordsA 8 beginF)) (results_cell_row Tryd.results41 _ _ w.heap.size 73 _ (0, 0) _ rfl (heap_alloc_new _ _) Tryd.underlying73 rfl (by simpa [wordsA_size] using Tryd.size73)) rfl ⟨rfl, rfl⟩

set_option maxRecDepth 10000 in
theorem beginr_any (w : World) :
    Calls Tryd.prog 35 #[] w fun e w' => e = .returned (.agg (wordsA 8 beginF)) ∧ w' = w.alloc (.cells (wordsA 8 beginF) 73) := by
  go_enter Tryd.func35, Tryd.ntmps35
  go_step; go_step; go_step
  refine wpList_new rfl 73 rfl _ Tryd.new73 ?_
  go_step; go_step; go_step; go_step; go_step
  refine wpList_bld rfl 73 _ rfl (wordsA 8 beginF) (by kernel_rfl) ?_
  refine wpList_plain rfl fun _ hK => ?_
  refine wp_store_row 73 _ _ rfl w.heap.size (wordsA 8 beginF) rfl rfl 73 (wordsA 8 fun _ => 0) (Blk.new w 73 _) (by simpa [wordsA_size] using Tryd.size73) (by simp [wordsA_size]) (wordsA_one _ _) (hK _ _ ?_)
  rw [World.setRow_alloc_new]
  go_step; go_step; go_step; go_step
  exact bodyPost_ret (v := .agg (wordsA 8 beginF)) (results_cell_row Tryd.results35 _ _ w.heap.size 73 _ (0, 0) _ rfl (heap_alloc_new _ _) Tryd.underlying73 rfl (by simpa [wordsA_size] using Tryd.size73)) rfl ⟨rfl, rfl⟩

set_option maxRecDepth 10000 in
theorem rounds_any (w : World) :
    Calls Tryd.prog 47 #[] w fun e w' => e = .returned (.agg (wordsA 64 roundsF)) ∧ w' = w.alloc (.cells (wordsA 64 roundsF) 75) := by
  go_enter Tryd.func47, Tryd.ntmps47
  go_step; go_step; go_step
  refine wpList_new rfl 75 rfl _ Tryd.new75 ?_
  go_step; go_step; go_step; go_step; go_step
  refine wpList_bld rfl 75 _ rfl (wordsA 64 roundsF) (by kernel_rfl) ?_
  refine wpList_plain rfl fun _ hK => ?_
  refine wp_store_row 75 _ _ rfl w.heap.size (wordsA 64 roundsF) rfl rfl 75 (wordsA 64 fun _ => 0) (Blk.new w 75 _) (by simpa [wordsA_size] using Tryd.size75) (by simp [wordsA_size]) (wordsA_one _ _) (hK _ _ ?_)
  rw [World.setRow_alloc_new]
  go_step; go_step; go_step; go_step
  exact bodyPost_ret (v := .agg (wordsA 64 roundsF)) (results_cell_row Tryd.results47 _ _ w.heap.size 75 _ (0, 0) _ rfl (heap_alloc_new _ _) Tryd.underlying75 rfl (by simpa [wordsA_size] using Tryd.size75)) rfl ⟨rfl, rfl⟩

set_option maxRecDepth 10000 in
theorem roundsr_any (w : World) :
    Calls Tryd.prog 36 #[] w fun e w' => e = .returned (.agg (wordsA 64 roundsF)) ∧ w' = w.alloc (.cells (wordsA 64 roundsF) 75) := by
  go_enter Tryd.func36, Tryd.ntmps36
  go_step; go_step; go_step
  refine wpList_new rfl 75 rfl _ Tryd.new75 ?_
  go_step; go_step; go_step; go_step; go_step
  refine wpList_bld rfl 75 _ rfl (wordsA 64 roundsF) (by kernel_rfl) ?_
  refine wpList_plain rfl fun _ hK => ?_
  refine wp_store_row 75 _ _ rfl w.heap.size (wordsA 64 roundsF) rfl rfl 75 (wordsA 64 fun _ => 0) (Blk.new w 75 _) (by simpa [wordsA_size] using Tryd.size75) (by simp [wordsA_size]) (wordsA_one _ _) (hK _ _ ?_)
  rw [World.setRow_alloc_new]
  go_step; go_step; go_step; go_step
  exact bodyPost_ret (v := .agg (wordsA 64 roundsF)) (results_cell_row Tryd.results36 _ _ w.heap.size 75 _ (0, 0) _ rfl (heap_alloc_new _ _) Tryd.underlying75 rfl (by simpa [wordsA_size] using Tryd.size75)) rfl ⟨rfl, rfl⟩
end Go.Proofs.YtpakaladpdoejaaDoor
