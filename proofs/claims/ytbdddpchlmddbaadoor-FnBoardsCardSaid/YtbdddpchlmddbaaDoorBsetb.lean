/- The model's SetBoard. -/
import Derived.Test.YtbdddpchlmddbaaDoorBset
namespace Go.Proofs.YtbdddpchlmddbaaDoor
set_option linter.unusedVariables false
open Go.RowKit

theorem setF_or (L : Nat) (n : Int) : ∃ qs qt r, SetF L n qs qt r := by
  by_cases h : 0 ≤ n ∧ n / 10 ^ L ≤ 0
  · exact ⟨_, _, _, .inl ⟨h, rfl, rfl, rfl⟩⟩
  · exact ⟨_, _, _, .inr ⟨h, rfl, rfl, rfl⟩⟩
/-- The answer of SetBoard. -/
def SbF (L n : Int) (qs qt : List Int) (r : Bool) : Prop :=
  ((1 ≤ L ∧ L ≤ 6) ∧ SetF L.toNat n qs qt r) ∨ (¬ (1 ≤ L ∧ L ≤ 6) ∧ qs = [] ∧ qt = [] ∧ r = false)
theorem sbF_or (L n : Int) : ∃ qs qt r, SbF L n qs qt r := by
  by_cases h : 1 ≤ L ∧ L ≤ 6
  · obtain ⟨qs, qt, r, h2⟩ := setF_or L.toNat n
    exact ⟨qs, qt, r, .inl ⟨h, h2⟩⟩
  · exact ⟨_, _, _, .inr ⟨h, rfl, rfl, rfl⟩⟩
end Go.Proofs.YtbdddpchlmddbaaDoor
