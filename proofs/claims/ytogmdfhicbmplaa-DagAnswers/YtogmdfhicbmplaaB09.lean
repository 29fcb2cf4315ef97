import Derived.Test.YtogmdfhicbmplaaB07
import Derived.Test.YtogmdfhicbmplaaB08
namespace Go.Proofs.Ytogmdfhicbmplaa
open Go.RowKit
set_option linter.unusedSimpArgs false
set_option linter.unusedVariables false

end Go.Proofs.Ytogmdfhicbmplaa
namespace Go.Proofs.Ytogmdfhicbmplaa
open Go.RowKit
set_option linter.unusedSimpArgs false
set_option linter.unusedVariables false

end Go.Proofs.Ytogmdfhicbmplaa
namespace Go.Proofs.Ytogmdfhicbmplaa
open Go.RowKit
set_option linter.unusedSimpArgs false
set_option linter.unusedVariables false

theorem Try.in57 (w : World) (vs : Array Value) : (callFunc 57 vs).run Try.prog w = .ok (.enter 57 vs) w := by kernel_rfl
theorem cmpR_any (x y : Hs) (w : World) : Calls Try.prog 57 #[.agg (bytesA 32 x.f), .agg (bytesA 32 y.f)] w fun e w' => e = .returned (.int .i64 (cf x y)) ∧ Below w.heap.size w w' :=
 (refCompare_any x y w).mono fun e w' ⟨h1, h2⟩ => ⟨h1, by obtain ⟨q, os, rfl⟩ := h2; exact grown_below w q os⟩
end Go.Proofs.Ytogmdfhicbmplaa
