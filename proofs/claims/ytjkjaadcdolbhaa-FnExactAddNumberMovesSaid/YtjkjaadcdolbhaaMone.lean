/- One move, a list of moves: the model's tests. -/
import Derived.Test.YtjkjaadcdolbhaaBeadMoves
import Derived.Test.YtjkjaadcdolbhaaKb
import Derived.Test.YtjkjaadcdolbhaaKa
namespace Go.Proofs.Ytjkjaadcdolbhaa
set_option linter.unusedVariables false
open Go.RowKit

def okMv (m : Mv) : Prop := (0 ≤ m.rod ∧ m.rod ≤ 7) ∧ (0 ≤ m.part ∧ m.part ≤ 1) ∧ (-5 ≤ m.amt ∧ m.amt ≤ 5) ∧ m.amt ≠ 0
def okMs (ms : List Mv) : Prop := (∀ (k : Nat) (h : k < ms.length), okMv ms[k]) ∧ ms.length ≤ 60

end Go.Proofs.Ytjkjaadcdolbhaa
