/- The reference model's test of a frame. -/
import Derived.Test.YtlfplnbmgmookaaKb
import Derived.Test.YtlfplnbmgmookaaKa
namespace Go.Proofs.Ytlfplnbmgmookaa
set_option linter.unusedVariables false
open Go.RowKit

def rodOk (up lo : Int) (r : Int × Int) : Prop := (0 ≤ r.1 ∧ r.1 ≤ up) ∧ (0 ≤ r.2 ∧ r.2 ≤ lo)
def goodF (up lo : Int) (rs : List (Int × Int)) : Prop := (∀ (i : Nat) (h : i < rs.length), rodOk up lo rs[i]) ∧ (1 ≤ up ∧ up ≤ 2) ∧ (4 ≤ lo ∧ lo ≤ 5) ∧ (1 ≤ rs.length ∧ rs.length ≤ 8)

end Go.Proofs.Ytlfplnbmgmookaa
