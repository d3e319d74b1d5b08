/- Parts laid as one: Dnum, Dnum2. -/
import Derived.Test.YtjchbdbdebgniaaDfrm
import Derived.Test.YtjchbdbdebgniaaKb
import Derived.Test.YtjchbdbdebgniaaOwn
/-! Dnum -/
namespace Go.Proofs.Ytjchbdbdebgniaa
set_option linter.unusedVariables false
open Go.RowKit

end Go.Proofs.Ytjchbdbdebgniaa

/-! Dnum2 -/
namespace Go.Proofs.Ytjchbdbdebgniaa
set_option linter.unusedVariables false
open Go.RowKit

end Go.Proofs.Ytjchbdbdebgniaa
