/- The law's helpers on BeadMove and slices of it: compare, copy, measure. -/
import Derived.Test.YtlfplnbmgmookaaKa
import Derived.Deep.RegionHeld3
import Derived.Deep.QuietTactic
import Derived.BigQuiet
import Derived.StillTailTactics
namespace Go.Proofs.Ytlfplnbmgmookaa
set_option linter.unusedVariables false
open Go.RowKit

structure Mv where
  rod : Int
  part : Int
  amt : Int

def mvV (p : Mv) : Value := .agg #[.int .i64 p.rod, .int .i64 p.part, .int .i64 p.amt]
def mvC (p : Mv) : List Value := [.int .i64 p.rod, .int .i64 p.part, .int .i64 p.amt]
theorem mvC_len (p : Mv) : (mvC p).length = 3 := rfl

def mkMv (k : Int) : Mv := { rod := k, part := k + 1, amt := k + 1 + 1 }
def mksMv (k : Int) (n : Nat) : List Mv := (List.range n).map fun (i : Nat) => mkMv (k + 3 * (i : Int))
theorem mksMv_len (k : Int) (n : Nat) : (mksMv k n).length = n := by simp [mksMv]
theorem mksMv_at (k : Int) (n i : Nat) (h : i < (mksMv k n).length) : (mksMv k n)[i] = mkMv (k + 3 * (i : Int)) := by simp [mksMv]

end Go.Proofs.Ytlfplnbmgmookaa
