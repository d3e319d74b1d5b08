/- Cleared and MadeStandard, of the model and of the program. -/
import Derived.Test.YtlfplnbmgmookaaKl
import Derived.Test.YtlfplnbmgmookaaOwn
import Derived.Test.YtlfplnbmgmookaaIScal
import Derived.Deep.RegionLaw
namespace Go.Proofs.Ytlfplnbmgmookaa
set_option linter.unusedVariables false
open Go.RowKit

theorem forR_good_len (up lo : Int) (rs : List (Int × Int)) (hg : goodF up lo rs) : okFor up lo rs.length 0 := by
  refine ⟨hg.2.1, hg.2.2.1, by have := hg.2.2.2; omega, by omega, ?_⟩
  have := (pow_bd rs.length (by have := hg.2.2.2; omega)).1
  rw [Int.toNat_natCast]
  omega

theorem numF_top (up lo : Int) (rs : List (Int × Int)) (hg : goodF up lo rs) : 0 ≤ numF rs ∧ numF rs ≤ 200000000 := by
  have := numF_max up lo rs hg rs.length (Nat.le_refl _)
  rwa [List.take_of_length_le (Nat.le_refl _)] at this
end Go.Proofs.Ytlfplnbmgmookaa
