/- Parts laid as one: Dnum, Dnum2. -/
import Derived.Test.YtocaiddpeoimhaaDfrm
import Derived.Test.YtocaiddpeoimhaaKb
import Derived.Test.YtocaiddpeoimhaaOwn
/-! Dnum -/
namespace Go.Proofs.Ytocaiddpeoimhaa
set_option linter.unusedVariables false
open Go.RowKit

end Go.Proofs.Ytocaiddpeoimhaa

/-! Dnum2 -/
namespace Go.Proofs.Ytocaiddpeoimhaa
set_option linter.unusedVariables false
open Go.RowKit

end Go.Proofs.Ytocaiddpeoimhaa
