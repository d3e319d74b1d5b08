/- Parts laid as one: Mad1, Mad2, Mad3. -/
import Derived.Test.YtmkocinknhaniaaKd
import Derived.Test.YtmkocinknhaniaaKz
import Derived.Test.YtmkocinknhaniaaOwn
import Derived.Deep.AppendLies
import Derived.Test.YtmkocinknhaniaaKl
import Derived.Deep.RegionHeld3
import Derived.Test.YtmkocinknhaniaaMade
/-! Mad1 -/
namespace Go.Proofs.Ytmkocinknhaniaa
set_option linter.unusedVariables false
open Go.RowKit

end Go.Proofs.Ytmkocinknhaniaa

/-! Mad2 -/
namespace Go.Proofs.Ytmkocinknhaniaa
set_option linter.unusedVariables false
open Go.RowKit

end Go.Proofs.Ytmkocinknhaniaa

/-! Mad3 -/
namespace Go.Proofs.Ytmkocinknhaniaa
set_option linter.unusedVariables false
open Go.RowKit

end Go.Proofs.Ytmkocinknhaniaa
