/- The model's steps, divisors, decimals. -/
import Derived.Test.YtlfplnbmgmookaaNd1
namespace Go.Proofs.Ytlfplnbmgmookaa
set_option linter.unusedVariables false
open Go.RowKit

/-- What the program reckons in a step. -/
theorem step_facts {r x d : Int} (hr : 0 ≤ r ∧ r < d) (hx : 0 ≤ x ∧ x ≤ 9) (hd : 1 ≤ d ∧ d ≤ 9999) : ∃ N q v : Int, 10 * r + x = N ∧ (0 ≤ N ∧ N ≤ 99999) ∧ IntKind.i64.wrap (10 * r) = 10 * r ∧ IntKind.i64.wrap (10 * r + x) = N ∧ IntKind.i64.wrap (N.tdiv d) = q ∧ N.tmod d = v ∧ IntKind.i64.wrap (N / d) = q ∧ N % d = v ∧ (0 ≤ q ∧ q ≤ 9) ∧ (0 ≤ v ∧ v < d) ∧ mkS d r x = ⟨N, q, v⟩ ∧ (10 * r + x) % d = v := by
  obtain ⟨f1, f2, f3, f4, f5, f6⟩ := div_facts (b := 10 * r + x) (d := d) (by omega) hd.1
  have hk := (mkS_ok hd.1 hr hx).2.1
  refine ⟨10 * r + x, (10 * r + x) / d, (10 * r + x) % d, rfl, by omega, by rw [IntKind.wrap_i64]; omega, by rw [IntKind.wrap_i64]; omega, f1, f2, ?_, rfl, hk, ⟨f5, f6⟩, rfl, rfl⟩
  rw [IntKind.wrap_i64]; have := hk; simp only [mkS] at this; omega
theorem take_zero_st (d : Int) (l : List Int) : stL d 0 (l.take 0) = [] := rfl
/-- The divisors up to k. -/
def dvL (a : Int) : Nat → List Int
  | 0 => []
  | k + 1 => dvL a k ++ if a % ((k : Int) + 1) = 0 then [(k : Int) + 1] else []
theorem dvL_len (a : Int) : ∀ k, (dvL a k).length ≤ k
  | 0 => Nat.le_refl _
  | k + 1 => by rw [dvL, List.length_append]; have := dvL_len a k; split <;> simp <;> omega
theorem dvL_mem (a : Int) : ∀ k, ∀ x ∈ dvL a k, (1 ≤ x ∧ x ≤ k) ∧ a % x = 0
  | 0, x, h => by cases h
  | k + 1, x, h => by
    rw [dvL] at h
    rcases List.mem_append.1 h with h | h
    · have := dvL_mem a k x h; exact ⟨by omega, this.2⟩
    · split at h
      · rename_i he
        obtain rfl := List.mem_singleton.1 h
        exact ⟨by omega, he⟩
      · cases h
def okP12 (a b p : Int) : Prop := okD a b ∧ (0 ≤ p ∧ p ≤ 12)
end Go.Proofs.Ytlfplnbmgmookaa
