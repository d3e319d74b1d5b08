/- The model's counting of a step. -/
import Derived.Test.YtocaiddpeoimhaaHoi
import Derived.Test.YtocaiddpeoimhaaKx
import Derived.Test.YtocaiddpeoimhaaKa
import Derived.OwnWalk
import Derived.Maps.AppendAt
namespace Go.Proofs.Ytocaiddpeoimhaa
set_option linter.unusedVariables false
open Go.RowKit

end Go.Proofs.Ytocaiddpeoimhaa
