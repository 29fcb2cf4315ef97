import Derived.Test.YtjklmkeedhgncaaA11
import Derived.Test.YtjklmkeedhgncaaA05
import Derived.Deep.RegionHeld3
namespace Go.Proofs.Ytjklmkeedhgncaa
open Go.RowKit
set_option linter.unusedSimpArgs false
set_option linter.unusedVariables false
theorem Try.in59 (w : World) (vs : Array Value) : (callFunc 59 vs).run Try.prog w = .ok (.enter 59 vs) w := by kernel_rfl
def rwsOf (n : Nat) (x : LV) : List (List Int) := match climbL n x.num.toNat (lfH x) x.ps with
 | some (t, rt) => RtP.leafR numL x.c.ce :: (rt ++ [RtP.topR le8 n t])
 | none => []
def RgP (B x n : Nat) (y : LV) (root : Hs) (rows : List (List Int)) (w : World) (e : Ending) (w' : World) : Prop :=
 ∃ rows' : List (List Int), e = .returned (.bool (okL (n : Int) y && rgtB n y root)) ∧ BkH B w' x rows' ∧ (okL (n : Int) y && rgtB n y root) = (okL (n : Int) y && rgtB n y root) ∧ ((okL (n : Int) y && rgtB n y root) = true → rows' = rows ++ rwsOf n y) ∧ rows'.length ≤ rows.length + y.ps.length + 2 ∧ Grown w w' (BkS B w)

end Go.Proofs.Ytjklmkeedhgncaa
