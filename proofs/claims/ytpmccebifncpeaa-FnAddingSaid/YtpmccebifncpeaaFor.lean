/- The standard frame of a number: its digits; powers of ten, a digit's rod, the model's l2For. -/
import Derived.Test.YtpmccebifncpeaaGood
import Derived.Test.YtpmccebifncpeaaIFrame
import Derived.Test.YtpmccebifncpeaaKa
import Derived.Deep.RegionHeld3
import Derived.Deep.AppendLies
import Derived.Deep.RegionLaw
namespace Go.Proofs.Ytpmccebifncpeaa
set_option linter.unusedVariables false
open Go.RowKit

/-- The standard rod of a digit. -/
def digR (d : Int) : Int × Int := (d / 5, d % 5)
/-- The rods of a number, the greatest digit first. -/
def forR (r : Nat) (n : Int) : List (Int × Int) := (List.range r).map fun i => digR (n / 10 ^ (r - 1 - i) % 10)
theorem forR_len (r : Nat) (n : Int) : (forR r n).length = r := by simp [forR]
theorem forR_at (r : Nat) (n : Int) (i : Nat) (h : i < (forR r n).length) : (forR r n)[i] = digR (n / 10 ^ (r - 1 - i) % 10) := by simp [forR]
theorem digR_bd (d : Int) (h0 : 0 ≤ d) (h1 : d ≤ 9) : (0 ≤ (digR d).1 ∧ (digR d).1 ≤ 1) ∧ (0 ≤ (digR d).2 ∧ (digR d).2 ≤ 4) := by
  unfold digR
  show (0 ≤ d / 5 ∧ d / 5 ≤ 1) ∧ (0 ≤ d % 5 ∧ d % 5 ≤ 4)
  omega
theorem forR_good (up lo : Int) (r : Nat) (n : Int) (h1 : 1 ≤ up ∧ up ≤ 2) (h2 : 4 ≤ lo ∧ lo ≤ 5) (h3 : 1 ≤ r ∧ r ≤ 8) : goodF up lo (forR r n) := by
  refine ⟨fun i h => ?_, h1, h2, by rw [forR_len]; exact h3⟩
  rw [forR_at]
  have := digR_bd (n / 10 ^ (r - 1 - i) % 10) (Int.emod_nonneg _ (by decide)) (by have := Int.emod_lt_of_pos (n / 10 ^ (r - 1 - i)) (show (0 : Int) < 10 by decide); omega)
  exact ⟨⟨this.1.1, by omega⟩, this.2.1, by omega⟩
set_option maxRecDepth 100000 in
set_option maxHeartbeats 800000 in
theorem l2Digit_any (d : Int) (w : World) (h : 0 ≤ d ∧ d ≤ 1000) :
    Calls Try.prog 70 #[.int .i64 d] w fun e w' => e = .returned (.agg #[.int .i64 (d / 5), .int .i64 (d % 5)]) ∧ Below w.heap.size w w' := by
  obtain ⟨h1, h2⟩ := h
  go_enter Try.func70, Try.ntmps70
  go_wp2_with fail
  exact bodyPost_ret (v := .agg #[.int .i64 (d / 5), .int .i64 (d % 5)]) (by simp [results, Try.results70, go_sem]) rfl ⟨rfl, (Below.refl _ _).alloc (Nat.le_refl _) _⟩

theorem flat_snoc (rs : List (Int × Int)) (r : Int × Int) : flat (rs ++ [r]) = flat rs ++ [.int .i64 r.1, .int .i64 r.2] := by
  induction rs with
  | nil => rfl
  | cons x t ih => simp [flat, ih]
theorem forR_snoc (r : Nat) (n : Int) (m : Nat) (h : m < r) : (forR r n).take (m + 1) = (forR r n).take m ++ [digR (n / 10 ^ (r - 1 - m) % 10)] := by
  rw [List.take_succ_eq_append_getElem (by rw [forR_len]; exact h), forR_at]

end Go.Proofs.Ytpmccebifncpeaa
