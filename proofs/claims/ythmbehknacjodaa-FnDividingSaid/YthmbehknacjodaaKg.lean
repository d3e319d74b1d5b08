/- Parts laid as one: Dnum, Dnum2. -/
import Derived.Test.YthmbehknacjodaaDfrm
import Derived.Test.YthmbehknacjodaaKb
import Derived.Test.YthmbehknacjodaaOwn
/-! Dnum -/
namespace Go.Proofs.Ythmbehknacjodaa
set_option linter.unusedVariables false
open Go.RowKit

end Go.Proofs.Ythmbehknacjodaa

/-! Dnum2 -/
namespace Go.Proofs.Ythmbehknacjodaa
set_option linter.unusedVariables false
open Go.RowKit

end Go.Proofs.Ythmbehknacjodaa
