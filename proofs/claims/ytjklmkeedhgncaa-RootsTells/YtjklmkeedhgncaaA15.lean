import Derived.Test.YtjklmkeedhgncaaA11
import Derived.Test.YtjklmkeedhgncaaA05
import Derived.Deep.RegionHeld3
namespace Go.Proofs.Ytjklmkeedhgncaa
open Go.RowKit
set_option linter.unusedSimpArgs false
set_option linter.unusedVariables false

end Go.Proofs.Ytjklmkeedhgncaa
