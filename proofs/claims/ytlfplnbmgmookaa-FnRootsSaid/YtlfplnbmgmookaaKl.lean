/- Parts laid as one: For, ForS, IFor. -/
import Derived.Test.YtlfplnbmgmookaaGood
import Derived.Test.YtlfplnbmgmookaaKn
import Derived.Test.YtlfplnbmgmookaaKa
import Derived.Deep.RegionHeld3
import Derived.Deep.AppendLies
import Derived.Deep.RegionLaw
import Derived.Test.YtlfplnbmgmookaaSf
/-! For -/
namespace Go.Proofs.Ytlfplnbmgmookaa
set_option linter.unusedVariables false
open Go.RowKit

/-- The standard rod of a digit. -/
def digR (d : Int) : Int × Int := (d / 5, d % 5)
/-- The rods of a number, the greatest digit first. -/
def forR (r : Nat) (n : Int) : List (Int × Int) := (List.range r).map fun i => digR (n / 10 ^ (r - 1 - i) % 10)
theorem forR_len (r : Nat) (n : Int) : (forR r n).length = r := by simp [forR]
theorem forR_at (r : Nat) (n : Int) (i : Nat) (h : i < (forR r n).length) : (forR r n)[i] = digR (n / 10 ^ (r - 1 - i) % 10) := by simp [forR]
theorem digR_bd (d : Int) (h0 : 0 ≤ d) (h1 : d ≤ 9) : (0 ≤ (digR d).1 ∧ (digR d).1 ≤ 1) ∧ (0 ≤ (digR d).2 ∧ (digR d).2 ≤ 4) := by
  unfold digR
  show (0 ≤ d / 5 ∧ d / 5 ≤ 1) ∧ (0 ≤ d % 5 ∧ d % 5 ≤ 4)
  omega
theorem forR_good (up lo : Int) (r : Nat) (n : Int) (h1 : 1 ≤ up ∧ up ≤ 2) (h2 : 4 ≤ lo ∧ lo ≤ 5) (h3 : 1 ≤ r ∧ r ≤ 8) : goodF up lo (forR r n) := by
  refine ⟨fun i h => ?_, h1, h2, by rw [forR_len]; exact h3⟩
  rw [forR_at]
  have := digR_bd (n / 10 ^ (r - 1 - i) % 10) (Int.emod_nonneg _ (by decide)) (by have := Int.emod_lt_of_pos (n / 10 ^ (r - 1 - i)) (show (0 : Int) < 10 by decide); omega)
  exact ⟨⟨this.1.1, by omega⟩, this.2.1, by omega⟩
theorem flat_snoc (rs : List (Int × Int)) (r : Int × Int) : flat (rs ++ [r]) = flat rs ++ [.int .i64 r.1, .int .i64 r.2] := by
  induction rs with
  | nil => rfl
  | cons x t ih => simp [flat, ih]
theorem forR_snoc (r : Nat) (n : Int) (m : Nat) (h : m < r) : (forR r n).take (m + 1) = (forR r n).take m ++ [digR (n / 10 ^ (r - 1 - m) % 10)] := by
  rw [List.take_succ_eq_append_getElem (by rw [forR_len]; exact h), forR_at]

end Go.Proofs.Ytlfplnbmgmookaa

/-! ForS -/
namespace Go.Proofs.Ytlfplnbmgmookaa
set_option linter.unusedVariables false
open Go.RowKit

def okFor (up lo r n : Int) : Prop := (1 ≤ up ∧ up ≤ 2) ∧ (4 ≤ lo ∧ lo ≤ 5) ∧ (1 ≤ r ∧ r ≤ 8) ∧ (0 ≤ n ∧ n ≤ (10 : Int) ^ r.toNat - 1)
theorem rods_nil (w : World) : RodsR w (.slice none 0 0) [] := ⟨none, 0, rfl, ⟨Nat.zero_le _, Nat.le_refl _⟩, fun h => absurd rfl h⟩
theorem own_nil (w : World) (B : Nat) (e : TypeId) (size : Nat) : w.ownsRow B e size (.slice none 0 0) 0 [] := ⟨by simp, .inl ⟨rfl, rfl⟩⟩

end Go.Proofs.Ytlfplnbmgmookaa

/-! IFor -/
namespace Go.Proofs.Ytlfplnbmgmookaa
set_option linter.unusedVariables false
open Go.RowKit

theorem ediv_next (n : Int) (k : Nat) : n / 10 ^ k / 10 = n / 10 ^ (k + 1) := by
  rw [Int.ediv_ediv_of_nonneg (by exact Int.pow_nonneg (by decide)), Int.pow_succ]

end Go.Proofs.Ytlfplnbmgmookaa
