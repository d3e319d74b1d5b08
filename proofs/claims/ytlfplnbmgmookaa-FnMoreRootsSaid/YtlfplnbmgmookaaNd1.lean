/- The model's side of dividing: steps, quotients, decimals, divisors. -/
import Derived.Test.YtlfplnbmgmookaaTdv
import Derived.Test.YtlfplnbmgmookaaKw
namespace Go.Proofs.Ytlfplnbmgmookaa
set_option linter.unusedVariables false
open Go.RowKit

/-- A division by a divisor, as the program reckons it. -/
theorem div_facts {b d : Int} (hb : 0 ≤ b ∧ b ≤ 1000000000) (hd : 1 ≤ d) : IntKind.i64.wrap (b.tdiv d) = b / d ∧ b.tmod d = b % d ∧ 0 ≤ b / d ∧ b / d ≤ b ∧ 0 ≤ b % d ∧ b % d < d := by
  have h1 : 0 ≤ b / d := Int.ediv_nonneg hb.1 (by omega)
  have h2 : b / d ≤ b := Int.ediv_le_self _ hb.1
  refine ⟨?_, Int.tmod_eq_emod_of_nonneg hb.1, h1, h2, Int.emod_nonneg _ (by omega), Int.emod_lt_of_pos _ (by omega)⟩
  rw [Int.tdiv_eq_ediv_of_nonneg hb.1, IntKind.wrap_i64]; omega
end Go.Proofs.Ytlfplnbmgmookaa
