/- Slices of strings marked, and the marks held. -/
import Derived.Test.YtfbilfplbjjoaaaDoorStrs
import Derived.Test.YtfbilfplbjjoaaaDoorMtext
import Derived.Test.YtfbilfplbjjoaaaDoorOw
import Derived.Test.YtfbilfplbjjoaaaDoorReg
import Derived.Deep.RegionHeld3
namespace Go.Proofs.YtfbilfplbjjoaaaDoor
set_option linter.unusedVariables false
open Go.RowKit

def mkSt (k : Int) (n : Nat) : List ByteArray := (List.range n).map fun (i : Nat) => mT (k + (i : Int))
theorem mkSt_len (k : Int) (n : Nat) : (mkSt k n).length = n := by simp [mkSt]
theorem mkSt_at (k : Int) (n i : Nat) (h : i < n) : ((mkSt k n).map Value.string)[i]? = some (.string (mT (k + (i : Int)))) := by simp [mkSt, h]
end Go.Proofs.YtfbilfplbjjoaaaDoor
