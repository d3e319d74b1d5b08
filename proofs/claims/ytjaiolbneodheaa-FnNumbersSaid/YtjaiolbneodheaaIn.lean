/- The reference model's test of bounds. -/
import Derived.Test.YtjaiolbneodheaaBase
namespace Go.Proofs.Ytjaiolbneodheaa
set_option linter.unusedVariables false
open Go.RowKit

set_option maxRecDepth 100000 in
set_option maxHeartbeats 400000 in
theorem l1In_yes (x a b : Int) (w : World) (h : a ≤ x ∧ x ≤ b) :
    Calls Try.prog 93 #[.int .i64 x, .int .i64 a, .int .i64 b] w fun e w' => e = .returned (.bool true) ∧ w = w' := by
  obtain ⟨h1, h2⟩ := h
  go_enter Try.func93, Try.ntmps93
  go_wp2
  go_ret
  exact ⟨rfl, rfl⟩
set_option maxRecDepth 100000 in
set_option maxHeartbeats 400000 in
theorem l1In_no (x a b : Int) (w : World) (h : ¬ (a ≤ x ∧ x ≤ b)) :
    Calls Try.prog 93 #[.int .i64 x, .int .i64 a, .int .i64 b] w fun e w' => e = .returned (.bool false) ∧ w = w' := by
  by_cases h1 : a ≤ x
  · have h2 : ¬ x ≤ b := fun h2 => h ⟨h1, h2⟩
    clear h
    go_enter Try.func93, Try.ntmps93
    go_wp2
    go_ret
    exact ⟨rfl, rfl⟩
  · clear h
    go_enter Try.func93, Try.ntmps93
    go_wp2
    go_ret
    exact ⟨rfl, rfl⟩

theorem l1In_yesq (x a b : Int) (w : World) (h : a ≤ x ∧ x ≤ b) :
    Calls Try.prog 93 #[.int .i64 x, .int .i64 a, .int .i64 b] w fun e w' => e = .returned (.bool true) ∧ w' = w := (l1In_yes x a b w h).mono fun _ _ ⟨p, q⟩ => ⟨p, q.symm⟩
theorem l1In_noq (x a b : Int) (w : World) (h : ¬ (a ≤ x ∧ x ≤ b)) :
    Calls Try.prog 93 #[.int .i64 x, .int .i64 a, .int .i64 b] w fun e w' => e = .returned (.bool false) ∧ w' = w := (l1In_no x a b w h).mono fun _ _ ⟨p, q⟩ => ⟨p, q.symm⟩
/-- The answer of the test of bounds. -/
def inB (x a b : Int) : Bool := decide (a ≤ x ∧ x ≤ b)
theorem inB_yes {x a b : Int} (h1 : a ≤ x) (h2 : x ≤ b) : inB x a b = true := decide_eq_true ⟨h1, h2⟩
theorem inB_no {x a b : Int} (h : ¬ (a ≤ x ∧ x ≤ b)) : inB x a b = false := decide_eq_false h
theorem l1In_anyq (x a b : Int) (w : World) :
    Calls Try.prog 93 #[.int .i64 x, .int .i64 a, .int .i64 b] w fun e w' => e = .returned (.bool (inB x a b)) ∧ w' = w := by
  by_cases h : a ≤ x ∧ x ≤ b
  · rw [inB_yes h.1 h.2]; exact l1In_yesq x a b w h
  · rw [inB_no h]; exact l1In_noq x a b w h
theorem l1In_any (x a b : Int) (w : World) :
    Calls Try.prog 93 #[.int .i64 x, .int .i64 a, .int .i64 b] w fun e w' => e = .returned (.bool (inB x a b)) ∧ w = w' := (l1In_anyq x a b w).mono fun _ _ ⟨p, q⟩ => ⟨p, q.symm⟩
end Go.Proofs.Ytjaiolbneodheaa
