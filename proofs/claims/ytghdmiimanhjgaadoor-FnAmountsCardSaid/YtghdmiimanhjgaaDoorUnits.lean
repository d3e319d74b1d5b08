/- The law's helpers on Unit and slices of it: compare, copy, measure. -/
import Derived.Test.YtghdmiimanhjgaaDoorKa
import Derived.Test.YtghdmiimanhjgaaDoorMtext
import Derived.Deep.RegionHeld3
import Derived.Deep.QuietTactic
import Derived.BigQuiet
import Derived.StillTailTactics
namespace Go.Proofs.YtghdmiimanhjgaaDoor
set_option linter.unusedVariables false
open Go.RowKit

structure Un where
  nm : ByteArray
  sz : Int

def unV (p : Un) : Value := .agg #[.string p.nm, .int .i64 p.sz]
def unC (p : Un) : List Value := [.string p.nm, .int .i64 p.sz]
theorem unC_len (p : Un) : (unC p).length = 2 := rfl

theorem Tryd.infoUnit : (Tryd.prog.info? 40).map (fun i => (i.zero, i.size, i.bytes)) = some (some (.agg #[.string ⟨#[]⟩, .int .i64 0]), 2, 24) := by kernel_rfl

def szUn (p : Un) : Nat := p.nm.size
def szsUn : List Un → Nat
  | [] => 0
  | p :: t => szUn p + szsUn t
theorem szsUn_app (a b : List Un) : szsUn (a ++ b) = szsUn a + szsUn b := by
  induction a with
  | nil => simp [szsUn]
  | cons x t ih => simp [szsUn, ih]; omega
theorem szsUn_mem (ps : List Un) : ∀ p ∈ ps, szUn p ≤ szsUn ps := by
  induction ps with
  | nil => intro p h; cases h
  | cons x t ih =>
    intro p h
    rw [szsUn]
    rcases List.mem_cons.1 h with rfl | h
    · omega
    · have := ih p h; omega

def mkUn (k : Int) : Un := { nm := mT (k), sz := k + 1 }
def mksUn (k : Int) (n : Nat) : List Un := (List.range n).map fun (i : Nat) => mkUn (k + 2 * (i : Int))
theorem mksUn_len (k : Int) (n : Nat) : (mksUn k n).length = n := by simp [mksUn]
theorem mksUn_at (k : Int) (n i : Nat) (h : i < (mksUn k n).length) : (mksUn k n)[i] = mkUn (k + 2 * (i : Int)) := by simp [mksUn]

end Go.Proofs.YtghdmiimanhjgaaDoor
