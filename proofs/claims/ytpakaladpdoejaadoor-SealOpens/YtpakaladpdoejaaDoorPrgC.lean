import Derived.Test.YtpakaladpdoejaaDoorOnce
import Derived.Test.YtpakaladpdoejaaDoorPrgB
namespace Go.Proofs.YtpakaladpdoejaaDoor
open Go.RowKit

set_option maxRecDepth 8000 in
set_option maxHeartbeats 400000 in
theorem isRep_any (n : Int) (r : Bool) (hr : r = decide (okN n)) (w : World) : Calls Tryd.prog 24 #[.int .i64 n] w fun e w' => e = .returned (.bool r) ∧ w' = w := by
  have HR := Keep.mk hr
  clear hr
  by_cases h1 : 1 ≤ n
  · by_cases h2 : n ≤ 8
    · have hr : r = true := by rw [HR.out]; exact decide_eq_true ⟨h1, h2⟩
      subst hr
      clear HR
      go_enter Tryd.func24, Tryd.ntmps24
      go_wp2
      go_ret
      exact ⟨rfl, rfl⟩
    · have hr : r = false := by rw [HR.out]; exact decide_eq_false fun h => h2 h.2
      subst hr
      clear HR
      go_enter Tryd.func24, Tryd.ntmps24
      go_wp2
      go_ret
      exact ⟨rfl, rfl⟩
  · have hr : r = false := by rw [HR.out]; exact decide_eq_false fun h => h1 h.1
    subst hr
    clear HR
    go_enter Tryd.func24, Tryd.ntmps24
    go_wp2
    go_ret
    exact ⟨rfl, rfl⟩
theorem app_blk {w w' : World} {v v' : Value} {l l0 : List Int} {b : Nat} {cs : Array Value} (hp : AppPost w v l v' w') (ho : Own w v l0) (hX : Blk w b 26 cs) : Blk w' b 26 cs := hp.grown.blk hX (ho.ne hX (by decide))

end Go.Proofs.YtpakaladpdoejaaDoor
