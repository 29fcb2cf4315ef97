import Derived.Test.YtpakaladpdoejaaDoorShaOf
namespace Go.Proofs.YtpakaladpdoejaaDoor
open Go.RowKit

theorem nextW_congr {c d : Nat → Int} {t : Nat} (ht : 16 ≤ t) (h : ∀ i, i < t → c i = d i) : nextW c t = nextW d t := by
  unfold nextW; rw [h (t - 16) (by omega), h (t - 15) (by omega), h (t - 7) (by omega), h (t - 2) (by omega)]
theorem be32_congr {c d : Nat → Int} {t : Nat} (ht : t < 16) (h : ∀ i, i < 64 → c i = d i) : be32 c t = be32 d t := by
  unfold be32; rw [h (4 * t) (by omega), h (4 * t + 1) (by omega), h (4 * t + 2) (by omega), h (4 * t + 3) (by omega)]

end Go.Proofs.YtpakaladpdoejaaDoor
