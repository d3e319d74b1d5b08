/- The law's helpers on Pupil and slices of it: compare, copy, measure. -/
import Derived.Test.YtlhcediejccieaaKa
import Derived.Test.YtlhcediejccieaaMtext
import Derived.Deep.RegionHeld3
import Derived.Deep.QuietTactic
import Derived.BigQuiet
import Derived.StillTailTactics
namespace Go.Proofs.Ytlhcediejccieaa
set_option linter.unusedVariables false
open Go.RowKit

structure Pu where
  id : Int
  name : ByteArray
  born : Int
  cls : Int
  lvl : Int

def puV (p : Pu) : Value := .agg #[.int .i64 p.id, .string p.name, .int .i64 p.born, .int .i64 p.cls, .int .i64 p.lvl]
def puC (p : Pu) : List Value := [.int .i64 p.id, .string p.name, .int .i64 p.born, .int .i64 p.cls, .int .i64 p.lvl]
theorem puC_len (p : Pu) : (puC p).length = 5 := rfl

theorem Try.infoPupil : (Try.prog.info? 38).map (fun i => (i.zero, i.size, i.bytes)) = some (some (.agg #[.int .i64 0, .string ⟨#[]⟩, .int .i64 0, .int .i64 0, .int .i64 0]), 5, 48) := by kernel_rfl

def szPu (p : Pu) : Nat := p.name.size
def szsPu : List Pu → Nat
  | [] => 0
  | p :: t => szPu p + szsPu t
theorem szsPu_app (a b : List Pu) : szsPu (a ++ b) = szsPu a + szsPu b := by
  induction a with
  | nil => simp [szsPu]
  | cons x t ih => simp [szsPu, ih]; omega
theorem szsPu_mem (ps : List Pu) : ∀ p ∈ ps, szPu p ≤ szsPu ps := by
  induction ps with
  | nil => intro p h; cases h
  | cons x t ih =>
    intro p h
    rw [szsPu]
    rcases List.mem_cons.1 h with rfl | h
    · omega
    · have := ih p h; omega

def mkPu (k : Int) : Pu := { id := k, name := mT (k + 1), born := k + 1 + 1, cls := k + 1 + 1 + 1, lvl := k + 1 + 1 + 1 + 1 }
def mksPu (k : Int) (n : Nat) : List Pu := (List.range n).map fun (i : Nat) => mkPu (k + 5 * (i : Int))
theorem mksPu_len (k : Int) (n : Nat) : (mksPu k n).length = n := by simp [mksPu]
theorem mksPu_at (k : Int) (n i : Nat) (h : i < (mksPu k n).length) : (mksPu k n)[i] = mkPu (k + 5 * (i : Int)) := by simp [mksPu]

end Go.Proofs.Ytlhcediejccieaa
