import Derived.Test.YtpakaladpdoejaaDoorSealP
import Derived.Test.YtpakaladpdoejaaDoorMacs
namespace Go.Proofs.YtpakaladpdoejaaDoor
open Go.RowKit

set_option maxRecDepth 8000 in
set_option maxHeartbeats 400000 in
theorem rep_any (n : Int) (r : Bool) (hr : r = decide (okN n)) (w : World) : Calls Tryd.prog 14 #[.int .i64 n] w fun e w' => e = .returned (.bool r) ∧ w' = w := by
  have HR := Keep.mk hr
  clear hr
  by_cases h1 : 1 ≤ n
  · by_cases h2 : n ≤ 8
    · have hr : r = true := by rw [HR.out]; exact decide_eq_true ⟨h1, h2⟩
      subst hr
      clear HR
      go_enter Tryd.func14, Tryd.ntmps14
      go_wp2
      go_ret
      exact ⟨rfl, rfl⟩
    · have hr : r = false := by rw [HR.out]; exact decide_eq_false fun h => h2 h.2
      subst hr
      clear HR
      go_enter Tryd.func14, Tryd.ntmps14
      go_wp2
      go_ret
      exact ⟨rfl, rfl⟩
  · have hr : r = false := by rw [HR.out]; exact decide_eq_false fun h => h1 h.1
    subst hr
    clear HR
    go_enter Tryd.func14, Tryd.ntmps14
    go_wp2
    go_ret
    exact ⟨rfl, rfl⟩
/-- What is left behind Seal. -/
def SealPost (key : List Int) (f t : Int) (body : List Int) (w : World) (e : Ending) (w' : World) : Prop :=
  ∃ v', e = .returned (.tuple #[v', .int .i64 (sealW key f t body)]) ∧ Below w.heap.size w w' ∧ ((sealW key f t body = 0 ∧ FreshB w v' (sealL key f t body) w') ∨ (sealW key f t body ≠ 0 ∧ v' = .slice none 0 0))

end Go.Proofs.YtpakaladpdoejaaDoor
