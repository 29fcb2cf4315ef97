import Derived.Test.YtennogmeeefopaaDoorA09
import Derived.Test.YtennogmeeefopaaDoorA05
import Derived.Deep.RegionHeld3
import Derived.Lib.Small
namespace Go.Proofs.YtennogmeeefopaaDoor
open Go.RowKit
set_option linter.unusedSimpArgs false
set_option linter.unusedVariables false

end Go.Proofs.YtennogmeeefopaaDoor
