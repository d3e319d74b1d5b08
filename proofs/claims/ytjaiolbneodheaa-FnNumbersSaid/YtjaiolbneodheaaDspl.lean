/- What is drawn for splitting, joining and comparing. -/
import Derived.Test.YtjaiolbneodheaaDrw
import Derived.OwnWalk
import Derived.Maps.AppendAt
namespace Go.Proofs.Ytjaiolbneodheaa
set_option linter.unusedVariables false
open Go.RowKit

theorem code_new {w : World} {cd : Value} {L : List UInt8} (h : SlR w cd (L.map fun c => .int .u8 (c.toNat : Int))) (o : Obj) : CodeR (w.alloc o) w.heap.size cd L := by
  refine ⟨h.below ((Below.refl _ w).alloc (Nat.le_refl _) _) (Nat.le_refl _), fun hL a n c e => ?_⟩
  obtain ⟨a', cp, e', _, r1⟩ := h
  obtain ⟨b1, o1, rfl, l1, _⟩ := r1 (by simpa using hL)
  rw [e'] at e
  injection e with e1
  cases e1
  show b1 ≠ w.heap.size
  omega
theorem code_at {w w' : World} {cd : Value} {L : List UInt8} (h : SlR w cd (L.map fun c => .int .u8 (c.toNat : Int))) (hb : Below w.heap.size w w') : CodeR w' w.heap.size cd L := by
  have h2 := code_new h (.cells #[] default)
  exact ⟨h.below hb (Nat.le_refl _), h2.2⟩
def sepL : List ByteArray := [⟨#[44]⟩, ⟨#[44]⟩, ⟨#[32]⟩, ⟨#[]⟩, ⟨#[44, 44]⟩]
theorem sepL_le : ∀ x ∈ sepL, x.size ≤ 2 := by
  intro x hx
  simp only [sepL, List.mem_cons, List.not_mem_nil, or_false] at hx
  rcases hx with rfl | rfl | rfl | rfl | rfl <;> decide
end Go.Proofs.Ytjaiolbneodheaa
