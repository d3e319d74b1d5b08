/- Parts laid as one: IHas, IFrame. -/
import Derived.Test.YtmkocinknhaniaaKb
import Derived.Test.YtmkocinknhaniaaGood
/-! IHas -/
namespace Go.Proofs.Ytmkocinknhaniaa
set_option linter.unusedVariables false
open Go.RowKit

theorem ix0 (x y : Value) (w : World) : (Instr.index 62 (.agg #[x, y]) (.int .i64 0)).run Try.prog w = .ok x w := by kernel_rfl
theorem ix1 (x y : Value) (w : World) : (Instr.index 62 (.agg #[x, y]) (.int .i64 1)).run Try.prog w = .ok y w := by kernel_rfl
theorem bl_box2 (w : World) (o o' : Obj) : Below w.heap.size w ((w.alloc o).alloc o') := ((Below.refl _ _).alloc (Nat.le_refl _) _).alloc (by simp) _
set_option maxRecDepth 100000 in
set_option maxHeartbeats 1600000 in
theorem valueOf_any (x y : Int) (w : World) (h : (0 ≤ x ∧ x ≤ 1000) ∧ (0 ≤ y ∧ y ≤ 1000)) :
    Calls Try.prog 48 #[.agg #[.int .i64 x, .int .i64 y]] w fun e w' => e = .returned (.int .i64 (5 * x + y)) ∧ Below w.heap.size w w' := by
  obtain ⟨⟨h1, h2⟩, h3, h4⟩ := h
  go_enter Try.func48, Try.ntmps48
  go_wp2_with fail
  go_ret
  exact ⟨rfl, (Below.refl _ _).alloc (Nat.le_refl _) _⟩
end Go.Proofs.Ytmkocinknhaniaa

/-! IFrame -/
namespace Go.Proofs.Ytmkocinknhaniaa
set_option linter.unusedVariables false
open Go.RowKit

end Go.Proofs.Ytmkocinknhaniaa
