/- The model's carry and borrow at one place. -/
import Derived.Test.YtbdddpchlmddbaaBmove
namespace Go.Proofs.Ytbdddpchlmddbaa
set_option linter.unusedVariables false
open Go.RowKit

def plcB (line : Bool) (k : Int) (ls : List Int) : Prop := 0 ≤ k ∧ k + (if line then 1 else 2) ≤ (ls.length : Int)
theorem OwB.nil' (lo hi : Nat) (w : World) : OwB lo hi w (.slice none 0 0) (.slice none 0 0) [] [] :=
  ⟨⟨own_nil' _ _ _ _, fun g hg => by cases hg⟩, ⟨own_nil' _ _ _ _, fun g hg => by cases hg⟩, fun g hg => by cases hg⟩
theorem okB.bd {ls ss : List Int} (h : okB ls ss) : bdB ls ∧ bdB ss :=
  ⟨fun k hk => by have := (h.2.2 k hk (by rw [h.2.1]; exact hk)).1; omega, fun k hk => by have := (h.2.2 k (by rw [← h.2.1]; exact hk) hk).2; omega⟩
/-- A board after one carry or borrow. -/
def CarF (t : Int) (ls ss : List Int) (line : Bool) (k : Int) (qs qt : List Int) (r : Bool) : Prop :=
  ((okB ls ss ∧ plcB line k ls) ∧ okB (mvL line k.toNat t ls) (mvS line k.toNat t ss) ∧ qs = mvL line k.toNat t ls ∧ qt = mvS line k.toNat t ss ∧ r = true) ∨
  (¬ ((okB ls ss ∧ plcB line k ls) ∧ okB (mvL line k.toNat t ls) (mvS line k.toNat t ss)) ∧ qs = [] ∧ qt = [] ∧ r = false)
end Go.Proofs.Ytbdddpchlmddbaa
