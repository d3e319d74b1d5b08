/- SetRod, of the model and of the program: the copies, the rod that is set. -/
import Derived.Test.YtocaiddpeoimhaaMade
import Derived.Test.YtocaiddpeoimhaaOwn
import Derived.Lib.SliceRun
import Derived.Lib.Walk
namespace Go.Proofs.Ytocaiddpeoimhaa
set_option linter.unusedVariables false
open Go.RowKit

end Go.Proofs.Ytocaiddpeoimhaa
