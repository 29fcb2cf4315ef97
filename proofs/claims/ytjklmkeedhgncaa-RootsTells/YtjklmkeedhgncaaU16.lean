import Derived.Test.YtjklmkeedhgncaaU12
namespace Go.Proofs.Ytjklmkeedhgncaa
open Go.RowKit
set_option linter.unusedSimpArgs false
set_option linter.unusedVariables false

end Go.Proofs.Ytjklmkeedhgncaa
