/- The model's functions for adding. -/
import Derived.Test.YtjkjaadcdolbhaaDoorKx
import Derived.Test.YtjkjaadcdolbhaaDoorKy
import Derived.Test.YtjkjaadcdolbhaaDoorKa
namespace Go.Proofs.YtjkjaadcdolbhaaDoor
set_option linter.unusedVariables false
open Go.RowKit

end Go.Proofs.YtjkjaadcdolbhaaDoor
