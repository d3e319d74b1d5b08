/- The model's counting of a step. -/
import Derived.Test.YthmbehknacjodaaHoi
import Derived.Test.YthmbehknacjodaaKx
import Derived.Test.YthmbehknacjodaaKa
import Derived.OwnWalk
import Derived.Maps.AppendAt
namespace Go.Proofs.Ythmbehknacjodaa
set_option linter.unusedVariables false
open Go.RowKit

end Go.Proofs.Ythmbehknacjodaa
