/- The model's plain board with a value; SetBoard. -/
import Derived.Test.YtbdddpchlmddbaaDoorBcarry
import Derived.Maps.AppendAt
namespace Go.Proofs.YtbdddpchlmddbaaDoor
set_option linter.unusedVariables false
open Go.RowKit

def dgL (k : Nat) (n : Int) : List Int := (List.range k).map fun j => n / 10 ^ j % 5
def dgS (k : Nat) (n : Int) : List Int := (List.range k).map fun j => n / 10 ^ j / 5 % 2
theorem dgL_len (k : Nat) (n : Int) : (dgL k n).length = k := by simp [dgL]
theorem dgS_len (k : Nat) (n : Int) : (dgS k n).length = k := by simp [dgS]
theorem dgL_snoc (k : Nat) (n : Int) : dgL (k + 1) n = dgL k n ++ [n / 10 ^ k % 5] := by unfold dgL; rw [List.range_succ, List.map_append]; rfl
theorem dgS_snoc (k : Nat) (n : Int) : dgS (k + 1) n = dgS k n ++ [n / 10 ^ k / 5 % 2] := by unfold dgS; rw [List.range_succ, List.map_append]; rfl
theorem dg_next (k : Nat) (n : Int) : n / 10 ^ (k + 1) = n / 10 ^ k / 10 := by
  rw [Int.pow_succ, Int.ediv_ediv_of_nonneg (Int.pow_nonneg (by omega))]
/-- The answer of a plain board with the value n. -/
def SetF (L : Nat) (n : Int) (qs qt : List Int) (r : Bool) : Prop :=
  ((0 ≤ n ∧ n / 10 ^ L ≤ 0) ∧ qs = dgL L n ∧ qt = dgS L n ∧ r = true) ∨ (¬ (0 ≤ n ∧ n / 10 ^ L ≤ 0) ∧ qs = [] ∧ qt = [] ∧ r = false)
theorem OwB.push1 {lo hi : Nat} {w w' : World} {v1 v2 v' : Value} {ls ss : List Int} {x : Int} {o : Obj} (h : OwB lo hi w v1 v2 ls ss) (hhi : hi ≤ w.heap.size) (ho : w'.ownsRow lo 3 1 v' (ls.length + 1) (flatC inC ls ++ [.int .i64 x]))
    (hg : (w.alloc o).grownBy w' v1.ownBlock) (hl : v'.ownBlock = v1.ownBlock ∨ v'.ownBlock = some (w.heap.size + 1)) : OwB lo w'.heap.size w' v' v2 (ls ++ [x]) ss := by
  have hsz : (w.alloc o).heap.size = w.heap.size + 1 := by simp
  refine ⟨⟨?_, fun g hg' => (ho.lt g hg').2⟩, ⟨(h.2.1.1.alloc o).kept hg ?_, fun g hg' => by have h1 := h.2.1.2 g hg'; have h2 := hg.size; omega⟩, fun g hg1 hg2 => ?_⟩
  · rw [flatC_app, List.length_append]; simpa [flatC, inC] using ho
  · cases e : v2.ownBlock with
    | none => exact .inl rfl
    | some g => exact .inr fun e' => h.2.2 g e'.symm e
  · rcases hl with hl | hl
    · exact h.2.2 g (hl ▸ hg1) hg2
    · have h1 := h.2.1.2 g hg2
      rw [hl] at hg1
      injection hg1 with hg1
      omega
theorem OwB.push2 {lo hi : Nat} {w w' : World} {v1 v2 v' : Value} {ls ss : List Int} {x : Int} {o : Obj} (h : OwB lo hi w v1 v2 ls ss) (hhi : hi ≤ w.heap.size) (ho : w'.ownsRow lo 3 1 v' (ss.length + 1) (flatC inC ss ++ [.int .i64 x]))
    (hg : (w.alloc o).grownBy w' v2.ownBlock) (hl : v'.ownBlock = v2.ownBlock ∨ v'.ownBlock = some (w.heap.size + 1)) : OwB lo w'.heap.size w' v1 v' ls (ss ++ [x]) := by
  have hsz : (w.alloc o).heap.size = w.heap.size + 1 := by simp
  refine ⟨⟨(h.1.1.alloc o).kept hg ?_, fun g hg' => by have h1 := h.1.2 g hg'; have h2 := hg.size; omega⟩, ⟨?_, fun g hg' => (ho.lt g hg').2⟩, fun g hg1 hg2 => ?_⟩
  · cases e : v1.ownBlock with
    | none => exact .inl rfl
    | some g => exact .inr fun e' => h.2.2 g e e'.symm
  · rw [flatC_app, List.length_append]; simpa [flatC, inC] using ho
  · rcases hl with hl | hl
    · exact h.2.2 g hg1 (hl ▸ hg2)
    · have h1 := h.1.2 g hg1
      rw [hl] at hg2
      injection hg2 with hg2
      omega

end Go.Proofs.YtbdddpchlmddbaaDoor
