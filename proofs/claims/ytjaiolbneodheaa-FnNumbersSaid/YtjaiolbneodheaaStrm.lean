/- Slices of strings marked, and the marks held. -/
import Derived.Test.YtjaiolbneodheaaStrs
import Derived.Test.YtjaiolbneodheaaMtext
import Derived.Test.YtjaiolbneodheaaOw
import Derived.Test.YtjaiolbneodheaaReg
import Derived.Deep.RegionHeld3
namespace Go.Proofs.Ytjaiolbneodheaa
set_option linter.unusedVariables false
open Go.RowKit

def mkSt (k : Int) (n : Nat) : List ByteArray := (List.range n).map fun (i : Nat) => mT (k + (i : Int))
theorem mkSt_len (k : Int) (n : Nat) : (mkSt k n).length = n := by simp [mkSt]
theorem mkSt_at (k : Int) (n i : Nat) (h : i < n) : ((mkSt k n).map Value.string)[i]? = some (.string (mT (k + (i : Int)))) := by simp [mkSt, h]
end Go.Proofs.Ytjaiolbneodheaa
