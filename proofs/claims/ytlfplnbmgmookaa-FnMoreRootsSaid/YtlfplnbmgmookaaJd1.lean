/- The program's steps. -/
import Derived.Test.YtlfplnbmgmookaaNd2
import Derived.Test.YtlfplnbmgmookaaKu
import Derived.BigRegion
namespace Go.Proofs.Ytlfplnbmgmookaa
set_option linter.unusedVariables false
open Go.RowKit

/-- A row that is filled from the left. -/
def flS {α : Type} (z : α) (A : List α) (k : Nat) : List α := A.take k ++ List.replicate (A.length - k) z
theorem flS_len {α : Type} (z : α) (A : List α) (k : Nat) (h : k ≤ A.length) : (flS z A k).length = A.length := by unfold flS; rw [List.length_append, List.length_take, List.length_replicate]; omega
theorem flS_zero {α : Type} (z : α) (A : List α) : flS z A 0 = List.replicate A.length z := by simp [flS]
theorem flS_end {α : Type} (z : α) (A : List α) : flS z A A.length = A := by simp [flS]
theorem flS_set {α : Type} (z : α) (A : List α) (k : Nat) (h : k < A.length) : (flS z A k).set k A[k] = flS z A (k + 1) := by
  unfold flS
  have e : (A.take k).length = k := by rw [List.length_take]; omega
  rw [List.set_append_right _ _ (by omega), e, Nat.sub_self, takeS A k h, List.append_assoc, show A.length - k = (A.length - (k + 1)) + 1 by omega, List.replicate_succ]; rfl
theorem made_tri (n : Nat) : (madeCells #[Value.int .i64 0, .int .i64 0, .int .i64 0] (n * 3)).toList = flatC trC (List.replicate n (⟨0, 0, 0⟩ : Tr)) := by
  refine flatC_of trC_len (by omega) _ _ (by simp [madeCells]) fun i hi j hj => ?_
  have hi' : i < n := by simpa using hi
  have h1 : i * 3 + j < n * 3 := by omega
  have h2 : (i * 3 + j) % 3 = j := by omega
  have hj' : j = 0 ∨ j = 1 ∨ j = 2 := by omega
  rcases hj' with rfl | rfl | rfl <;> (try simp only [Nat.add_zero] at h1 h2 ⊢) <;> simp [madeCells, trC, h1, h2]
theorem made_int (n : Nat) : (madeCells #[Value.int .i64 0] (n * 1)).toList = flatC inC (List.replicate n (0 : Int)) := by
  refine flatC_of inC_len (by omega) _ _ (by simp [madeCells]) fun i hi j hj => ?_
  have hi' : i < n := by simpa using hi
  obtain rfl : j = 0 := by omega
  simp [madeCells, inC, hi', Nat.mod_one]
/-- Element i of a row of three cells each set. -/
theorem set3C (ps : List Tr) (i : Nat) (hi : i < ps.length) (a b c : Int) : (((flatC trC ps).set (i * 3) (.int .i64 a)).set (i * 3 + 1) (.int .i64 b)).set (i * 3 + 2) (.int .i64 c) = flatC trC (ps.set i ⟨a, b, c⟩) := by
  have hl := flatC_len trC_len ps
  refine flatC_setf trC_len (by omega) _ ps i _ (by simp [hl]) (fun q hq j hj e => ?_) (fun _ j hj => ?_)
  · rw [List.getElem?_set_ne (by omega), List.getElem?_set_ne (by omega), List.getElem?_set_ne (by omega)]
    exact flatC_at trC_len ps q hq j hj
  · have hj' : j = 0 ∨ j = 1 ∨ j = 2 := by omega
    rcases hj' with rfl | rfl | rfl
    · rw [List.getElem?_set_ne (by omega), List.getElem?_set_ne (by omega), Nat.add_zero, List.getElem?_set_self (by omega)]; rfl
    · rw [List.getElem?_set_ne (by omega), List.getElem?_set_self (by rw [List.length_set]; omega)]; rfl
    · rw [List.getElem?_set_self (by simp only [List.length_set]; omega)]; rfl
/-- The row of steps, as it is filled. -/
theorem fill_steps (d r0 : Int) (L : List Int) : ∃ F : Nat → List Tr, F 0 = List.replicate L.length (⟨0, 0, 0⟩ : Tr) ∧ F L.length = stL d r0 L ∧ (∀ k, k ≤ L.length → (F k).length = L.length) ∧ ∀ k (h : k < L.length), (F k).set k (mkS d (rsL d r0 (L.take k)) L[k]) = F (k + 1) := by
  have hl := stL_len d r0 L
  refine ⟨flS (⟨0, 0, 0⟩ : Tr) (stL d r0 L), by rw [flS_zero, hl], by rw [← hl, flS_end], fun k hk => by rw [flS_len _ _ _ (by omega), hl], fun k h => ?_⟩
  have := flS_set (⟨0, 0, 0⟩ : Tr) (stL d r0 L) k (by omega)
  rw [stL_at d r0 L k h] at this; exact this
theorem rowsR_nil {α : Type} (c : Nat) (cells : α → List Value) (w : World) (a : Option Addr) : RowsR c cells w (.slice a 0 0) ([] : List α) := ⟨_, 0, rfl, ⟨Nat.zero_le _, Nat.le_refl _⟩, fun h => absurd h (by simp)⟩
end Go.Proofs.Ytlfplnbmgmookaa
