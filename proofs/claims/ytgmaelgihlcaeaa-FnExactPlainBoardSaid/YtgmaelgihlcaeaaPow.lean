/- Powers of ten: bounds, the model's l2Power. -/
import Derived.Test.YtgmaelgihlcaeaaBase
namespace Go.Proofs.Ytgmaelgihlcaeaa
set_option linter.unusedVariables false
open Go.RowKit

theorem pow_bd (k : Nat) (h : k ≤ 8) : 1 ≤ (10 : Int) ^ k ∧ (10 : Int) ^ k ≤ 100000000 := by
  have h1 : (10 : Nat) ^ k ≤ 10 ^ 8 := Nat.pow_le_pow_right (by decide) h
  have h2 : 1 ≤ (10 : Nat) ^ k := Nat.pow_pos (by decide)
  have e : ((10 ^ k : Nat) : Int) = (10 : Int) ^ k := by simp
  rw [← e]
  omega

end Go.Proofs.Ytgmaelgihlcaeaa
