/- The law's helpers on frames: measure, copy, compare. -/
import Derived.Test.YtjaiolbneodheaaFrl
namespace Go.Proofs.Ytjaiolbneodheaa
set_option linter.unusedVariables false
open Go.RowKit

/-- A frame as a value: its rods are a slice. -/
def frV (up lo : Int) (sv : Value) : Value := .agg #[.int .i64 up, .int .i64 lo, sv]

end Go.Proofs.Ytjaiolbneodheaa
