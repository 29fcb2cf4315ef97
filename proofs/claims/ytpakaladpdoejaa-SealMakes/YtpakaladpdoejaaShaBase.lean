import Derived.Test.YtpakaladpdoejaaKitC
import Derived.WalkKit
import Derived.WalkSpells
import Derived.WalkLawsBesides
import Derived.BigQuiet
import Derived.BigRegion
import Derived.Deep.WholeRow
import Derived.Deep.MidRow
import Derived.Deep.RegionWith
import Derived.Deep.DeepCutAuto
import Derived.Deep.RegionHeld3
namespace Go.Proofs.Ytpakaladpdoejaa
open Go.RowKit

/-! ### Worlds: a block that holds these cells. -/
/-! ### Words and bytes as cells. -/
def wordsA (n : Nat) (c : Nat → Int) : Array Value := Array.ofFn (n := n) fun i => .int .u32 (c i.val)
theorem wordsA_size (n : Nat) (c : Nat → Int) : (wordsA n c).size = n := by simp [wordsA]
theorem wordsA_get (n : Nat) (c : Nat → Int) (j : Nat) (h : j < n) : (wordsA n c)[j]? = some (.int .u32 (c j)) := by simp [wordsA, h]
theorem wordsA_set (n : Nat) (c : Nat → Int) (j : Nat) (v : Int) : (wordsA n c).setIfInBounds j (.int .u32 v) = wordsA n (upd c j v) := by
  apply Array.ext_getElem?
  intro i
  rw [Array.getElem?_setIfInBounds]
  by_cases e : j = i
  · subst e
    by_cases hj : j < n <;> simp [wordsA, upd, hj]
  · by_cases hi : i < n <;> simp [wordsA, upd, hi, e, Ne.symm e]
theorem wordsA_one (n : Nat) (c : Nat → Int) : (wordsA n c).all (·.oneCell') = true := by
  rw [Array.all_eq_true_iff_forall_mem]; intro v hv; simp [wordsA] at hv; obtain ⟨i, rfl⟩ := hv; rfl
theorem Try.size62 : (Try.prog.info? 62).map (·.size) = some 8 := by kernel_rfl
theorem Try.size64 : (Try.prog.info? 64).map (·.size) = some 64 := by kernel_rfl
theorem Try.size44 : (Try.prog.info? 44).map (·.size) = some 64 := by kernel_rfl
theorem Try.size62W (c : Nat → Int) : (Try.prog.info? 62).map (·.size) = some (wordsA 8 c).size := by rw [wordsA_size]; exact Try.size62
theorem Try.size64W (c : Nat → Int) : (Try.prog.info? 64).map (·.size) = some (wordsA 64 c).size := by rw [wordsA_size]; exact Try.size64
theorem Try.size44B (c : Nat → Int) : (Try.prog.info? 44).map (·.size) = some (bytesA 64 c).size := by rw [bytesA_size]; exact Try.size44
theorem wordsA_sizes (n : Nat) (c d : Nat → Int) : (wordsA n c).size = (wordsA n d).size := by rw [wordsA_size, wordsA_size]
/-! ### Single operations on whole arrays. -/
section
variable {P : Program}
end
theorem Try.new64 (w : World) : (Instr.alloc 64 true (.tuple #[])).run Try.prog w = .ok (.pointer (some ⟨w.heap.size, 0, none⟩)) (w.alloc (.cells (wordsA 64 fun _ => 0) 64)) := by kernel_rfl
theorem Try.new62 (w : World) : (Instr.alloc 62 true (.tuple #[])).run Try.prog w = .ok (.pointer (some ⟨w.heap.size, 0, none⟩)) (w.alloc (.cells (wordsA 8 fun _ => 0) 62)) := by kernel_rfl
end Go.Proofs.Ytpakaladpdoejaa
