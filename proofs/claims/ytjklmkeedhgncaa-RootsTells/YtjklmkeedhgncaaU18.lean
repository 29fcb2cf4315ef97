import Derived.Test.YtjklmkeedhgncaaU13
import Derived.Test.YtjklmkeedhgncaaU15
import Derived.Test.YtjklmkeedhgncaaU16
import Derived.Test.YtjklmkeedhgncaaU17
import Derived.Deep.RegionHeld3
namespace Go.Proofs.Ytjklmkeedhgncaa
open Go.RowKit
set_option linter.unusedSimpArgs false
set_option linter.unusedVariables false

end Go.Proofs.Ytjklmkeedhgncaa
