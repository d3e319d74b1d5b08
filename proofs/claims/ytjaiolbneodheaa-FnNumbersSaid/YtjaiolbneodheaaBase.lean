/- Small general lemmas: endings, worlds, bytes. -/
import Derived.Test.YtjaiolbneodheaaRows
import Derived.WalkKit
import Derived.Lib.Hide
import Derived.Lib.SmallJoins
import Derived.Sort.Grow
namespace Go.Proofs.Ytjaiolbneodheaa
set_option linter.unusedVariables false
open Go.RowKit

theorem ret_int {k : IntKind} {a b : Int} (h : a = b) : Ending.returned (.int k a) = .returned (.int k b) := by rw [h]
theorem ret_bool {a b : Bool} (h : a = b) : Ending.returned (.bool a) = .returned (.bool b) := by rw [h]
theorem ret_int2 {k : IntKind} {a b : Int} {v : Value} (h : a = b) : Ending.returned (.tuple #[.int k a, v]) = .returned (.tuple #[.int k b, v]) := by rw [h]
theorem ret_str {a b : ByteArray} (h : a = b) : Ending.returned (.string a) = .returned (.string b) := by rw [h]
theorem ret_str2 {a b : ByteArray} {v : Value} (h : a = b) : Ending.returned (.tuple #[.string a, v]) = .returned (.tuple #[.string b, v]) := by rw [h]
theorem take_snoc (s : ByteArray) (k : Nat) (h : k < s.size) : s.data.toList.take (k + 1) = s.data.toList.take k ++ [s[k]] := by
  rw [List.take_succ_eq_append_getElem (by simpa using h)]; rfl
theorem bl_drewN {B : Nat} {a w : World} (h : Below B a w) (n : Nat) : Below B a (w.drewN n) := h.trans ⟨rfl, rfl, rfl, Nat.le_refl _, fun _ _ => rfl⟩
theorem bl_grow (w : World) (k : Nat) (os : Array Obj) : Below w.heap.size w (Sort.grow (w.drewN k) os) := by
  refine ⟨rfl, rfl, rfl, ?_, ?_⟩
  · simp [Sort.grow]
  · intro b hb
    simp [Sort.grow, Array.getElem?_append, hb]
theorem mk_size (l : List UInt8) : (ByteArray.mk l.toArray).size = l.length := by show l.toArray.size = _; simp
theorem first_idx (n : Nat) (P : Nat → Prop) (h : ∃ k, k < n ∧ P k) : ∃ p, p < n ∧ P p ∧ ∀ k, k < p → ¬ P k := by
  have key : ∀ m k, k ≤ m → k < n ∧ P k → ∃ p, p < n ∧ P p ∧ ∀ k, k < p → ¬ P k := by
    intro m
    induction m with
    | zero => intro k hk ⟨h1, h2⟩; exact ⟨k, h1, h2, fun j hj => by omega⟩
    | succ m ih =>
      intro k hk ⟨h1, h2⟩
      by_cases hx : ∃ j, j < k ∧ P j
      · obtain ⟨j, hj, hp⟩ := hx
        exact ih j (by omega) ⟨by omega, hp⟩
      · exact ⟨k, h1, h2, fun j hj hp => hx ⟨j, hj, hp⟩⟩
  obtain ⟨k, hk⟩ := h
  exact key k k (Nat.le_refl _) hk
theorem one_new (w : World) (v : Value) (t : TypeId) : ∀ (j : Nat) (u : Value), [v][j]? = some u → (w.alloc (.cells #[v] t)).cell? ((⟨w.heap.size, 0, none⟩ : Addr).add j) = some u := by
  intro j u h
  cases j with
  | zero =>
    have e : v = u := by simpa using h
    subst e
    show (w.alloc (.cells #[v] t)).cell? ⟨w.heap.size, 0, none⟩ = some v
    rw [World.cell?_alloc_at _ _ _ _ rfl]
    rfl
  | succ j => simp at h
end Go.Proofs.Ytjaiolbneodheaa
