/- Parts laid as one: Dnum, Dnum2. -/
import Derived.Test.YtmkocinknhaniaaDfrm
import Derived.Test.YtmkocinknhaniaaKb
import Derived.Test.YtmkocinknhaniaaOwn
/-! Dnum -/
namespace Go.Proofs.Ytmkocinknhaniaa
set_option linter.unusedVariables false
open Go.RowKit

end Go.Proofs.Ytmkocinknhaniaa

/-! Dnum2 -/
namespace Go.Proofs.Ytmkocinknhaniaa
set_option linter.unusedVariables false
open Go.RowKit

end Go.Proofs.Ytmkocinknhaniaa
