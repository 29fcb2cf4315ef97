import Derived.Test.YtjklmkeedhgncaaA13
import Derived.Test.YtjklmkeedhgncaaA15
import Derived.Test.YtjklmkeedhgncaaA16
import Derived.Test.YtjklmkeedhgncaaA17
import Derived.Deep.RegionHeld3
namespace Go.Proofs.Ytjklmkeedhgncaa
open Go.RowKit
set_option linter.unusedSimpArgs false
set_option linter.unusedVariables false

end Go.Proofs.Ytjklmkeedhgncaa
