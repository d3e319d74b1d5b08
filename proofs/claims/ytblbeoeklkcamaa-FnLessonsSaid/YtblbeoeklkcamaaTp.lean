/- Pairs of lessons that clash. -/
import Derived.Test.YtblbeoeklkcamaaTso
namespace Go.Proofs.Ytblbeoeklkcamaa
set_option linter.unusedVariables false
open Go.RowKit

def prR (ps : List Les) (i : Nat) : Nat → List (List Int)
  | 0 => []
  | d + 1 => if clashB (leD ps i) (leD ps (i + 1 + d)) = true then prR ps i d ++ [[(leD ps i).id, (leD ps (i + 1 + d)).id]] else prR ps i d
def prA (ps : List Les) : Nat → List (List Int)
  | 0 => []
  | i + 1 => prA ps i ++ prR ps i (ps.length - (i + 1))
theorem prR_yes {ps : List Les} {i d : Nat} (h : clashB (leD ps i) (leD ps (i + 1 + d)) = true) : prR ps i (d + 1) = prR ps i d ++ [[(leD ps i).id, (leD ps (i + 1 + d)).id]] := by rw [prR, if_pos h]
theorem prR_no {ps : List Les} {i d : Nat} (h : clashB (leD ps i) (leD ps (i + 1 + d)) = false) : prR ps i (d + 1) = prR ps i d := by rw [prR, if_neg (by rw [h]; simp)]
theorem prR_len (ps : List Les) (i : Nat) : ∀ d, (prR ps i d).length ≤ d ∧ ∀ ys ∈ prR ps i d, ys.length = 2
  | 0 => ⟨Nat.le_refl _, fun ys h => by simp [prR] at h⟩
  | d + 1 => by
    obtain ⟨h1, h2⟩ := prR_len ps i d
    cases hc : clashB (leD ps i) (leD ps (i + 1 + d)) with
    | true =>
      rw [prR_yes hc]
      refine ⟨by simp; omega, fun ys h => ?_⟩
      rcases List.mem_append.1 h with h | h
      · exact h2 ys h
      · rw [List.mem_singleton.1 h]; rfl
    | false => rw [prR_no hc]; exact ⟨by omega, h2⟩
theorem prA_len (ps : List Les) (hl : ps.length ≤ 12) : ∀ i, (prA ps i).length ≤ i * 12 ∧ ∀ ys ∈ prA ps i, ys.length = 2
  | 0 => ⟨Nat.le_refl _, fun ys h => by simp [prA] at h⟩
  | i + 1 => by
    obtain ⟨h1, h2⟩ := prA_len ps hl i
    obtain ⟨g1, g2⟩ := prR_len ps i (ps.length - (i + 1))
    rw [prA]
    refine ⟨by rw [List.length_append]; omega, fun ys h => ?_⟩
    rcases List.mem_append.1 h with h | h
    · exact h2 ys h
    · exact g2 ys h
end Go.Proofs.Ytblbeoeklkcamaa
