/- The model's FrameFor, Cleared and MadeStandard. -/
import Derived.Test.YtjkjaadcdolbhaaFor
import Derived.Test.YtjkjaadcdolbhaaSf
namespace Go.Proofs.Ytjkjaadcdolbhaa
set_option linter.unusedVariables false
open Go.RowKit

def okFor (up lo r n : Int) : Prop := (1 ≤ up ∧ up ≤ 2) ∧ (4 ≤ lo ∧ lo ≤ 5) ∧ (1 ≤ r ∧ r ≤ 8) ∧ (0 ≤ n ∧ n ≤ (10 : Int) ^ r.toNat - 1)
theorem rods_nil (w : World) : RodsR w (.slice none 0 0) [] := ⟨none, 0, rfl, ⟨Nat.zero_le _, Nat.le_refl _⟩, fun h => absurd rfl h⟩
theorem own_nil (w : World) (B : Nat) (e : TypeId) (size : Nat) : w.ownsRow B e size (.slice none 0 0) 0 [] := ⟨by simp, .inl ⟨rfl, rfl⟩⟩

end Go.Proofs.Ytjkjaadcdolbhaa
