/- The reference model's test of bounds. -/
import Derived.Test.YtfmkdfmholhnjaaBase
namespace Go.Proofs.Ytfmkdfmholhnjaa
set_option linter.unusedVariables false
open Go.RowKit

/-- The answer of the test of bounds. -/
def inB (x a b : Int) : Bool := decide (a ≤ x ∧ x ≤ b)
theorem inB_yes {x a b : Int} (h1 : a ≤ x) (h2 : x ≤ b) : inB x a b = true := decide_eq_true ⟨h1, h2⟩
theorem inB_no {x a b : Int} (h : ¬ (a ≤ x ∧ x ≤ b)) : inB x a b = false := decide_eq_false h
end Go.Proofs.Ytfmkdfmholhnjaa
