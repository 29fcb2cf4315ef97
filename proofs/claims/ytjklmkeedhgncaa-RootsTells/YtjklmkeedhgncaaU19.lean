import Derived.Test.YtjklmkeedhgncaaU14
import Derived.Test.YtjklmkeedhgncaaU04
import Derived.Test.YtjklmkeedhgncaaU18
import Derived.Deep.RegionHeld3
namespace Go.Proofs.Ytjklmkeedhgncaa
open Go.RowKit
set_option linter.unusedSimpArgs false
set_option linter.unusedVariables false

theorem fndB_at {L : List CV} {i : Nat} {c : CV} {kind : Int} {key : ByteArray} (h : L[i]? = some c) : fndB L i kind key = decide (stI c.k c.s kind key = 0) := by unfold fndB; rw [h]

end Go.Proofs.Ytjklmkeedhgncaa
