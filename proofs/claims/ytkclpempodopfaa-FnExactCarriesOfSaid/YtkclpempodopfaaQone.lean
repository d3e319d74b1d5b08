/- The program's tests of one move and of a list of them. -/
import Derived.Test.YtkclpempodopfaaMone
namespace Go.Proofs.Ytkclpempodopfaa
set_option linter.unusedVariables false
open Go.RowKit

end Go.Proofs.Ytkclpempodopfaa
