import Derived.Test.YtjklmkeedhgncaaA10
import Derived.Deep.RegionHeld3
namespace Go.Proofs.Ytjklmkeedhgncaa
open Go.RowKit
set_option linter.unusedSimpArgs false
set_option linter.unusedVariables false
theorem eqB {a b : Array Value} {x y : Hs} {c : Bool} (ha : a = bytesA 32 x.f) (hb : b = bytesA 32 y.f) (hc : decide (x = y) = c) (w : World) : (Op.equalIn 10000 25 (.agg a) (.agg b)).run Try.prog w = .ok c w := by
 rw [ha, hb, run_equal_arr2, all_eq_iff, hc]
theorem hsL_inj {x y : Hs} (h : hsL x = hsL y) : x = y := by
 refine Hs.ext' fun i hi => ?_
 have h1 : (hl 32 x.f).getD i 0 = (hl 32 y.f).getD i 0 := congrArg (fun l : List Int => l.getD i 0) h
 rw [hl_get _ _ _ hi, hl_get _ _ _ hi] at h1
 exact h1



end Go.Proofs.Ytjklmkeedhgncaa
