/- The model's ChangeOf. -/
import Derived.Test.YtjkjaadcdolbhaaMone
import Derived.Test.YtjkjaadcdolbhaaKa
namespace Go.Proofs.Ytjkjaadcdolbhaa
set_option linter.unusedVariables false
open Go.RowKit

/-- What a bead of a move's part is worth on a frame of R rods. -/
def worthN (R : Nat) (m : Mv) : Int := (if m.part = 0 then 5 else 1) * 10 ^ (R - 1 - m.rod.toNat)
def chgI (R : Nat) (ms : List Mv) : Int := (ms.map fun m => m.amt * worthN R m).sum
theorem chg_snoc (R : Nat) (ms : List Mv) (k : Nat) (h : k < ms.length) : chgI R (ms.take (k + 1)) = chgI R (ms.take k) + ms[k].amt * worthN R ms[k] := by
  unfold chgI; rw [List.take_succ_eq_append_getElem h, List.map_append, List.sum_append]; simp
/-- The answer: s and t. -/
def ChF (ms : List Mv) (R : Int) (s : Int) (t : Bool) : Prop :=
  (okMs ms ∧ (1 ≤ R ∧ R ≤ 8) ∧ (∀ (k : Nat) (h : k < ms.length), ms[k].rod < R) ∧ s = chgI R.toNat ms ∧ t = true) ∨
  (¬ (okMs ms ∧ (1 ≤ R ∧ R ≤ 8) ∧ (∀ (k : Nat) (h : k < ms.length), ms[k].rod < R)) ∧ s = 0 ∧ t = false)
theorem chF_or (ms : List Mv) (R : Int) : ∃ s t, ChF ms R s t := by
  by_cases h : okMs ms ∧ (1 ≤ R ∧ R ≤ 8) ∧ (∀ (k : Nat) (h : k < ms.length), ms[k].rod < R)
  · exact ⟨_, true, .inl ⟨h.1, h.2.1, h.2.2, rfl, rfl⟩⟩
  · exact ⟨0, false, .inr ⟨h, rfl, rfl⟩⟩

end Go.Proofs.Ytjkjaadcdolbhaa
