import Derived.Test.YtpakaladpdoejaaDoorKitC
import Derived.WalkKit
import Derived.WalkSpells
import Derived.WalkLawsBesides
import Derived.BigQuiet
import Derived.BigRegion
import Derived.Deep.WholeRow
import Derived.Deep.MidRow
import Derived.Deep.RegionWith
import Derived.Deep.DeepCutAuto
import Derived.Deep.RegionHeld3
namespace Go.Proofs.YtpakaladpdoejaaDoor
open Go.RowKit

/-! ### Worlds: a block that holds these cells. -/
/-! ### Words and bytes as cells. -/
def wordsA (n : Nat) (c : Nat → Int) : Array Value := Array.ofFn (n := n) fun i => .int .u32 (c i.val)
theorem wordsA_size (n : Nat) (c : Nat → Int) : (wordsA n c).size = n := by simp [wordsA]
theorem wordsA_get (n : Nat) (c : Nat → Int) (j : Nat) (h : j < n) : (wordsA n c)[j]? = some (.int .u32 (c j)) := by simp [wordsA, h]
theorem wordsA_set (n : Nat) (c : Nat → Int) (j : Nat) (v : Int) : (wordsA n c).setIfInBounds j (.int .u32 v) = wordsA n (upd c j v) := by
  apply Array.ext_getElem?
  intro i
  rw [Array.getElem?_setIfInBounds]
  by_cases e : j = i
  · subst e
    by_cases hj : j < n <;> simp [wordsA, upd, hj]
  · by_cases hi : i < n <;> simp [wordsA, upd, hi, e, Ne.symm e]
theorem wordsA_one (n : Nat) (c : Nat → Int) : (wordsA n c).all (·.oneCell') = true := by
  rw [Array.all_eq_true_iff_forall_mem]; intro v hv; simp [wordsA] at hv; obtain ⟨i, rfl⟩ := hv; rfl
theorem Tryd.size73 : (Tryd.prog.info? 73).map (·.size) = some 8 := by kernel_rfl
theorem Tryd.size75 : (Tryd.prog.info? 75).map (·.size) = some 64 := by kernel_rfl
theorem Tryd.size49 : (Tryd.prog.info? 49).map (·.size) = some 64 := by kernel_rfl
theorem Tryd.size73W (c : Nat → Int) : (Tryd.prog.info? 73).map (·.size) = some (wordsA 8 c).size := by rw [wordsA_size]; exact Tryd.size73
theorem Tryd.size75W (c : Nat → Int) : (Tryd.prog.info? 75).map (·.size) = some (wordsA 64 c).size := by rw [wordsA_size]; exact Tryd.size75
theorem Tryd.size49B (c : Nat → Int) : (Tryd.prog.info? 49).map (·.size) = some (bytesA 64 c).size := by rw [bytesA_size]; exact Tryd.size49
theorem wordsA_sizes (n : Nat) (c d : Nat → Int) : (wordsA n c).size = (wordsA n d).size := by rw [wordsA_size, wordsA_size]
/-! ### Single operations on whole arrays. -/
section
variable {P : Program}
end
theorem Tryd.new75 (w : World) : (Instr.alloc 75 true (.tuple #[])).run Tryd.prog w = .ok (.pointer (some ⟨w.heap.size, 0, none⟩)) (w.alloc (.cells (wordsA 64 fun _ => 0) 75)) := by kernel_rfl
theorem Tryd.new73 (w : World) : (Instr.alloc 73 true (.tuple #[])).run Tryd.prog w = .ok (.pointer (some ⟨w.heap.size, 0, none⟩)) (w.alloc (.cells (wordsA 8 fun _ => 0) 73)) := by kernel_rfl
end Go.Proofs.YtpakaladpdoejaaDoor
