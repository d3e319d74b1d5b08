/- The program's tests of one move and of a list of them. -/
import Derived.Test.YtebhgnpfalpgcaaDoorMone
namespace Go.Proofs.YtebhgnpfalpgcaaDoor
set_option linter.unusedVariables false
open Go.RowKit

end Go.Proofs.YtebhgnpfalpgcaaDoor
