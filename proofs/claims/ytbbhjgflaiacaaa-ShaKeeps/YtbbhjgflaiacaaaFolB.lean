import Derived.Test.YtbbhjgflaiacaaaFolA
namespace Go.Proofs.Ytbbhjgflaiacaaa
open Go.RowKit Go.Sort

end Go.Proofs.Ytbbhjgflaiacaaa
