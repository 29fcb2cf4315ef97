import Derived.Test.YtjklmkeedhgncaaU11
import Derived.Test.YtjklmkeedhgncaaU05
import Derived.Deep.RegionHeld3
namespace Go.Proofs.Ytjklmkeedhgncaa
open Go.RowKit
set_option linter.unusedSimpArgs false
set_option linter.unusedVariables false

end Go.Proofs.Ytjklmkeedhgncaa
