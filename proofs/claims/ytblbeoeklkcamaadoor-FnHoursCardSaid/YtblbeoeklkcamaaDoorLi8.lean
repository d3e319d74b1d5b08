/- The program's FreeRooms. -/
import Derived.Test.YtblbeoeklkcamaaDoorLi2
import Derived.Test.YtblbeoeklkcamaaDoorTf
import Derived.Test.YtblbeoeklkcamaaDoorTg
import Derived.Test.YtblbeoeklkcamaaDoorK9a
import Derived.Test.YtblbeoeklkcamaaDoorPp
namespace Go.Proofs.YtblbeoeklkcamaaDoor
set_option linter.unusedVariables false
open Go.RowKit

/-- A block's cells, told by a list. -/
theorem cell_list {w : World} {b i : Nat} {L : List Value} {T : TypeId} (h : w.heap[b]? = some (.cells L.toArray T (0, 0))) (hi : i < L.length) : w.cell? ⟨b, i, none⟩ = some L[i] ∧ w.frozen? ⟨b, i, none⟩ = false := by
  simp [World.cell?, World.frozen?, h, hi]
theorem set_list {w : World} {b i : Nat} {L : List Value} {T : TypeId} (h : w.heap[b]? = some (.cells L.toArray T (0, 0))) (x : Value) : (w.setCell ⟨b, i, none⟩ x).heap[b]? = some (.cells (L.set i x).toArray T (0, 0)) := by
  have h1 := heap_setCell_same w b i _ _ x h
  simpa using h1
def blL (f : Nat → Bool) : List Value := (List.range 10).map fun r => .bool (f r)
theorem blL_at (f : Nat → Bool) (i : Nat) (h : i < (blL f).length) : (blL f)[i] = .bool (f i) := by simp [blL]
theorem blL_set (f g : Nat → Bool) (r : Nat) (v : Bool) (hr : g r = v) (h : ∀ i, i ≠ r → g i = f i) : (blL f).set r (.bool v) = blL g := by
  apply List.ext_getElem?
  intro i
  by_cases e : i = r
  · subst e
    by_cases h9 : i < 10
    · rw [List.getElem?_set_self (by simp [blL]; exact h9)]; simp [blL, h9, hr]
    · rw [List.getElem?_eq_none (by simp [blL]; omega), List.getElem?_eq_none (by simp [blL]; omega)]
  · rw [List.getElem?_set_ne (fun e' => e e'.symm)]
    by_cases h9 : i < 10
    · simp [blL, h9, h i e]
    · rw [List.getElem?_eq_none (by simp [blL]; omega), List.getElem?_eq_none (by simp [blL]; omega)]
end Go.Proofs.YtblbeoeklkcamaaDoor
