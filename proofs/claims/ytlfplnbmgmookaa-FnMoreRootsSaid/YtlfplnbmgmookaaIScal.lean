/- The program's scalar functions on frames. -/
import Derived.Test.YtlfplnbmgmookaaKn
import Derived.Test.YtlfplnbmgmookaaSf
namespace Go.Proofs.Ytlfplnbmgmookaa
set_option linter.unusedVariables false
open Go.RowKit

theorem ret_bool2 {a b : Bool} {v : Value} (h : a = b) : Ending.returned (.tuple #[.bool a, v]) = .returned (.tuple #[.bool b, v]) := by rw [h]
end Go.Proofs.Ytlfplnbmgmookaa
