/- SetRod, of the model and of the program: the copies, the rod that is set. -/
import Derived.Test.YtmkocinknhaniaaMade
import Derived.Test.YtmkocinknhaniaaOwn
import Derived.Lib.SliceRun
import Derived.Lib.Walk
namespace Go.Proofs.Ytmkocinknhaniaa
set_option linter.unusedVariables false
open Go.RowKit

end Go.Proofs.Ytmkocinknhaniaa
