/- The law's helpers on slices of ints: compare, mark, held. -/
import Derived.Test.YtblbeoeklkcamaaDoorKa
import Derived.Deep.QuietTactic
import Derived.BigQuiet
import Derived.StillTailTactics
namespace Go.Proofs.YtblbeoeklkcamaaDoor
set_option linter.unusedVariables false
open Go.RowKit

def inC (x : Int) : List Value := [.int .i64 x]
theorem inC_len (x : Int) : (inC x).length = 1 := rfl
theorem flat_int (xs : List Int) : flatC inC xs = xs.map (Value.int .i64) := by
  induction xs with
  | nil => rfl
  | cons x t ih => simp [flatC, inC, ih]
def mksI (k : Int) (n : Nat) : List Int := (List.range n).map fun (i : Nat) => k + (i : Int)
theorem mksI_len (k : Int) (n : Nat) : (mksI k n).length = n := by simp [mksI]
theorem mksI_at (k : Int) (n i : Nat) (h : i < (mksI k n).length) : (mksI k n)[i] = k + (i : Int) := by simp [mksI]

end Go.Proofs.YtblbeoeklkcamaaDoor
