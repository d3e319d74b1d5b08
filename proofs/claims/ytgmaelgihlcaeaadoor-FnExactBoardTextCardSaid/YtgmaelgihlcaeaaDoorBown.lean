/- The model's copy of a board; whether there is a place. -/
import Derived.Test.YtgmaelgihlcaeaaDoorBgood
import Derived.Test.YtgmaelgihlcaeaaDoorAppn
import Derived.Deep.RegionLaw
namespace Go.Proofs.YtgmaelgihlcaeaaDoor
set_option linter.unusedVariables false
open Go.RowKit

theorem inC_one (p : Int) : ∀ u ∈ inC p, u.oneCell' = true := by intro u hu; simp [inC] at hu; subst hu; rfl
end Go.Proofs.YtgmaelgihlcaeaaDoor
