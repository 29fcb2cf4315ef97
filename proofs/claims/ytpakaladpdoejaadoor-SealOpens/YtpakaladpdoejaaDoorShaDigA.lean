import Derived.Test.YtpakaladpdoejaaDoorShaMixB
import Derived.Laws.CopyOwn
namespace Go.Proofs.YtpakaladpdoejaaDoor
open Go.RowKit

/-- The cells of a Digest: the words, the rest, the number of bytes. -/
def digA (s r : Nat → Int) (n : Int) : Array Value := Array.ofFn (n := 73) fun i => if i.val < 8 then .int .u32 (s i.val) else if i.val < 72 then .int .u8 (r (i.val - 8)) else .int .i64 n

theorem digA_size (s r : Nat → Int) (n : Int) : (digA s r n).size = 73 := by simp [digA]
theorem digA_w (s r : Nat → Int) (n : Int) (j : Nat) (h : j < 8) : (digA s r n)[j]? = some (.int .u32 (s j)) := by
  have h' : j < 73 := by omega
  simp [digA, h, h']
theorem digA_r (s r : Nat → Int) (n : Int) (j : Nat) (h : j < 64) : (digA s r n)[8 + j]? = some (.int .u8 (r j)) := by
  have h1 : ¬ 8 + j < 8 := by omega
  have h2 : 8 + j < 72 := by omega
  have h' : 8 + j < 73 := by omega
  simp [digA, h2, h']
theorem digA_n (s r : Nat → Int) (n : Int) : (digA s r n)[72]? = some (.int .i64 n) := by simp [digA]
theorem digA_setn (s r : Nat → Int) (n m : Int) : (digA s r n).setIfInBounds 72 (.int .i64 m) = digA s r m := by
  apply Array.ext_getElem?
  intro i
  rw [Array.getElem?_setIfInBounds]
  by_cases e : 72 = i
  · subst e; simp [digA]
  · by_cases hi : i < 73
    · have : i < 72 := by omega
      simp [digA, e, hi, this]
    · simp [digA, e, hi]
theorem digA_one (s r : Nat → Int) (n : Int) : (digA s r n).all (·.oneCell') = true := by
  rw [Array.all_eq_true_iff_forall_mem]; intro v hv; simp [digA] at hv; obtain ⟨i, rfl⟩ := hv; split <;> (try split) <;> rfl

/-- y laid over r from u on, k of them. -/
def putN (r : Nat → Int) (u k : Nat) (y : Nat → Int) : Nat → Int := fun j => if u ≤ j ∧ j < u + k then y (j - u) else r j
theorem digA_splice (s r : Nat → Int) (n : Int) (u k : Nat) (y : Nat → Int) (h : u + k ≤ 64) :
    ((digA s r n).toList.take (8 + u) ++ ((List.range k).map (fun j => Value.int .u8 (y j)) ++ (digA s r n).toList.drop (8 + u + k))).toArray = digA s (putN r u k y) n := by
  have hl : (digA s r n).toList.length = 73 := by simp [digA_size]
  apply Array.ext_getElem?
  intro i
  rw [List.getElem?_toArray, List.getElem?_append, List.length_take, hl, show min (8 + u) 73 = 8 + u by omega]
  by_cases h1 : i < 8 + u
  · rw [if_pos h1, List.getElem?_take, if_pos h1, Array.getElem?_toList]
    have hi : i < 73 := by omega
    by_cases h8 : i < 8
    · rw [digA_w _ _ _ _ h8, digA_w _ _ _ _ h8]
    · obtain ⟨j, rfl⟩ : ∃ j, i = 8 + j := ⟨i - 8, by omega⟩
      rw [digA_r _ _ _ _ (by omega), digA_r _ _ _ _ (by omega)]
      simp only [putN]; rw [if_neg (by omega)]
  · rw [if_neg h1, List.getElem?_append, List.length_map, List.length_range]
    by_cases h2 : i - (8 + u) < k
    · rw [if_pos h2, List.getElem?_map, List.getElem?_range h2]
      obtain ⟨j, rfl⟩ : ∃ j, i = 8 + j := ⟨i - 8, by omega⟩
      rw [digA_r _ _ _ _ (by omega)]
      simp only [putN, Option.map_some]; rw [if_pos (by omega), show 8 + j - (8 + u) = j - u by omega]
    · rw [if_neg h2, List.getElem?_drop, Array.getElem?_toList, show 8 + u + k + (i - (8 + u) - k) = i by omega]
      by_cases h72 : i < 72
      · obtain ⟨j, rfl⟩ : ∃ j, i = 8 + j := ⟨i - 8, by omega⟩
        rw [digA_r _ _ _ _ (by omega), digA_r _ _ _ _ (by omega)]
        simp only [putN]; rw [if_neg (by omega)]
      · by_cases h73 : i = 72
        · subst h73; rw [digA_n, digA_n]
        · rw [Array.getElem?_eq_none (by rw [digA_size]; omega), Array.getElem?_eq_none (by rw [digA_size]; omega)]

theorem Tryd.size94 : (Tryd.prog.info? 94).map (·.size) = some 73 := by kernel_rfl
theorem Tryd.size94D (s r : Nat → Int) (n : Int) : (Tryd.prog.info? 94).map (·.size) = some (digA s r n).size := by rw [digA_size]; exact Tryd.size94

set_option maxRecDepth 10000 in
theorem new_any (w : World) :
    Calls Tryd.prog 31 #[] w fun e w' => e = .returned (ptr (w.heap.size + 1)) ∧ w' = (w.alloc (.cells (wordsA 8 beginF) 73)).alloc (.cells (digA beginF (fun _ => 0) 0) 94) := by
  go_enter Tryd.func31, Tryd.ntmps31
  go_wp2_with fail
  refine (begin_any _).mono ?_
  rintro e w' ⟨rfl, rfl⟩
  go_wp2_with (refine wpList_bld rfl 94 _ rfl (digA beginF (fun _ => 0) 0) (by kernel_rfl) ?_; refine wpList_boxA rfl 94 (.tmp 2) rfl (digA beginF (fun _ => 0) 0) rfl ?_)
  go_ret
  exact ⟨by simp, rfl⟩

end Go.Proofs.YtpakaladpdoejaaDoor
