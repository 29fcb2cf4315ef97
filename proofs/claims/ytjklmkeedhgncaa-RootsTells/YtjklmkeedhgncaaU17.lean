import Derived.Test.YtjklmkeedhgncaaU11
namespace Go.Proofs.Ytjklmkeedhgncaa
open Go.RowKit
set_option linter.unusedSimpArgs false
set_option linter.unusedVariables false
def d0 : CV := ⟨0, ByteArray.empty, .nilFunc, []⟩

end Go.Proofs.Ytjklmkeedhgncaa
