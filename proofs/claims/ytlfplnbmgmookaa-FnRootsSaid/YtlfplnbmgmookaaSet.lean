/- SetRod, of the model and of the program: the copies, the rod that is set. -/
import Derived.Test.YtlfplnbmgmookaaMade
import Derived.Test.YtlfplnbmgmookaaOwn
import Derived.Lib.SliceRun
import Derived.Lib.Walk
namespace Go.Proofs.Ytlfplnbmgmookaa
set_option linter.unusedVariables false
open Go.RowKit

end Go.Proofs.Ytlfplnbmgmookaa
