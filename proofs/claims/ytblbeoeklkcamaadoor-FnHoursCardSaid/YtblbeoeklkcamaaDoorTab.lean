/- The library's table of powers of ten, as its initialiser lays it. -/
import Derived.Test.YtblbeoeklkcamaaDoorKa
import Derived.Test.YtblbeoeklkcamaaDoorRows
import Derived.Test.YtblbeoeklkcamaaDoorShelf
import Derived.Lib.LaidU8
import Derived.Lib.SmallJoins
namespace Go.Proofs.YtblbeoeklkcamaaDoor
set_option linter.unusedVariables false
open Go.RowKit

theorem tab_eq : (Rows.laid_internal_strconv_uint64pow10 : DataW Unit) = Lib.tabData .u64 Lib.pow10Tab := by kernel_rfl
theorem tabG : Tryd.prog.globalNamed "internal/strconv.uint64pow10" = some 1 := by kernel_rfl
theorem tabT : (Tryd.prog.globals[1]?).map (·.type) = some 93 := by kernel_rfl
theorem tab_of {w : World} {l : List (String × DataW Unit)} (hL : laidMet Tryd.prog l w) (hm : ("internal/strconv.uint64pow10", (Rows.laid_internal_strconv_uint64pow10 : DataW Unit)) ∈ l) :
    Lib.TabIs Tryd.prog w "internal/strconv.uint64pow10" .u64 Lib.pow10Tab := by
  rw [tab_eq] at hm
  obtain ⟨g, t, cs, fuel, p, h1, h2, h3, h4⟩ := Lib.laidMet.reads hL hm
  obtain rfl := Option.some.inj (tabG.symm.trans h1)
  obtain rfl := Option.some.inj (tabT.symm.trans h2)
  unfold Lib.TabIs
  rw [h3, ← Lib.cells_of_tab Tryd.underlying93 Tryd.underlying54 (by kernel_rfl) (by kernel_rfl) h4]
theorem tab_below {w w' : World} (h : Lib.TabIs Tryd.prog w "internal/strconv.uint64pow10" .u64 Lib.pow10Tab) (hb : Below w.heap.size w w') :
    Lib.TabIs Tryd.prog w' "internal/strconv.uint64pow10" .u64 Lib.pow10Tab := Go.Joins.tab_stays tabG h hb (Nat.le_refl _)
end Go.Proofs.YtblbeoeklkcamaaDoor
