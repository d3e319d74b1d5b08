/- The model's UndoMoves. -/
import Derived.Test.YtjkjaadcdolbhaaMone
import Derived.Test.YtjkjaadcdolbhaaKa
namespace Go.Proofs.Ytjkjaadcdolbhaa
set_option linter.unusedVariables false
open Go.RowKit

theorem mvC_one (p : Mv) : ∀ u ∈ mvC p, u.oneCell' = true := by intro u hu; simp [mvC] at hu; rcases hu with rfl | rfl | rfl <;> rfl
def mvNeg (m : Mv) : Mv := { m with amt := -m.amt }
def undoL (ms : List Mv) : List Mv := (ms.map mvNeg).reverse
theorem undoL_len (ms : List Mv) : (undoL ms).length = ms.length := by simp [undoL]
theorem undo_snoc (ms : List Mv) (k : Nat) (h : k < ms.length) : undoL (ms.drop k) = undoL (ms.drop (k + 1)) ++ [mvNeg ms[k]] := by
  unfold undoL; rw [List.drop_eq_getElem_cons h, List.map_cons, List.reverse_cons]

end Go.Proofs.Ytjkjaadcdolbhaa
