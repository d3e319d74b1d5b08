/- The program's test of one rod against the most beads; the value of a rod; the standard rod. -/
import Derived.Test.YtjkjaadcdolbhaaKb
namespace Go.Proofs.Ytjkjaadcdolbhaa
set_option linter.unusedVariables false
open Go.RowKit

theorem ix0 (x y : Value) (w : World) : (Instr.index 83 (.agg #[x, y]) (.int .i64 0)).run Try.prog w = .ok x w := by kernel_rfl
theorem ix1 (x y : Value) (w : World) : (Instr.index 83 (.agg #[x, y]) (.int .i64 1)).run Try.prog w = .ok y w := by kernel_rfl
theorem bl_box2 (w : World) (o o' : Obj) : Below w.heap.size w ((w.alloc o).alloc o') := ((Below.refl _ _).alloc (Nat.le_refl _) _).alloc (by simp) _
set_option maxRecDepth 100000 in
set_option maxHeartbeats 1600000 in
theorem hasAtMost_yes (x y m n : Int) (w : World) (h : (0 ≤ x ∧ x ≤ m) ∧ (0 ≤ y ∧ y ≤ n)) :
    Calls Try.prog 85 #[.agg #[.int .i64 x, .int .i64 y], .agg #[.int .i64 m, .int .i64 n]] w fun e w' => e = .returned (.bool true) ∧ Below w.heap.size w w' := by
  obtain ⟨⟨h1, h2⟩, h3, h4⟩ := h
  have i0 := ix0 (.int .i64 x) (.int .i64 y)
  have i1 := ix1 (.int .i64 x) (.int .i64 y)
  go_enter Try.func85, Try.ntmps85
  go_wp2_with fail
  refine wp_loop_rounds 3 ?_
  rw [rounds_succ]
  go_wp2_with fail
  rw [rounds_succ]
  go_wp2_with fail
  rw [rounds_succ]
  go_wp2_with fail
  go_ret
  exact ⟨rfl, bl_box2 _ _ _⟩
set_option maxRecDepth 100000 in
set_option maxHeartbeats 1600000 in
theorem hasAtMost_no (x y m n : Int) (w : World) (h : ¬ ((0 ≤ x ∧ x ≤ m) ∧ (0 ≤ y ∧ y ≤ n))) :
    Calls Try.prog 85 #[.agg #[.int .i64 x, .int .i64 y], .agg #[.int .i64 m, .int .i64 n]] w fun e w' => e = .returned (.bool false) ∧ Below w.heap.size w w' := by
  by_cases h1 : x < 0
  · clear h
    have i0 := ix0 (.int .i64 x) (.int .i64 y)
    have i1 := ix1 (.int .i64 x) (.int .i64 y)
    go_enter Try.func85, Try.ntmps85
    go_wp2_with fail
    refine wp_loop_rounds 3 ?_
    rw [rounds_succ]
    go_wp2_with fail
    go_ret
    exact ⟨rfl, bl_box2 _ _ _⟩
  by_cases h2 : m < x
  · clear h
    have i0 := ix0 (.int .i64 x) (.int .i64 y)
    have i1 := ix1 (.int .i64 x) (.int .i64 y)
    go_enter Try.func85, Try.ntmps85
    go_wp2_with fail
    refine wp_loop_rounds 3 ?_
    rw [rounds_succ]
    go_wp2_with fail
    go_ret
    exact ⟨rfl, bl_box2 _ _ _⟩
  by_cases h3 : y < 0
  · clear h
    have i0 := ix0 (.int .i64 x) (.int .i64 y)
    have i1 := ix1 (.int .i64 x) (.int .i64 y)
    go_enter Try.func85, Try.ntmps85
    go_wp2_with fail
    refine wp_loop_rounds 3 ?_
    rw [rounds_succ]
    go_wp2_with fail
    rw [rounds_succ]
    go_wp2_with fail
    go_ret
    exact ⟨rfl, bl_box2 _ _ _⟩
  have h4 : n < y := by
    rcases Int.lt_or_le n y with h' | h'
    · exact h'
    · exact absurd ⟨⟨by omega, by omega⟩, by omega, h'⟩ h
  clear h
  have i0 := ix0 (.int .i64 x) (.int .i64 y)
  have i1 := ix1 (.int .i64 x) (.int .i64 y)
  go_enter Try.func85, Try.ntmps85
  go_wp2_with fail
  refine wp_loop_rounds 3 ?_
  rw [rounds_succ]
  go_wp2_with fail
  rw [rounds_succ]
  go_wp2_with fail
  go_ret
  exact ⟨rfl, bl_box2 _ _ _⟩

set_option maxRecDepth 100000 in
set_option maxHeartbeats 1600000 in
theorem valueOf_any (x y : Int) (w : World) (h : (0 ≤ x ∧ x ≤ 1000) ∧ (0 ≤ y ∧ y ≤ 1000)) :
    Calls Try.prog 103 #[.agg #[.int .i64 x, .int .i64 y]] w fun e w' => e = .returned (.int .i64 (5 * x + y)) ∧ Below w.heap.size w w' := by
  obtain ⟨⟨h1, h2⟩, h3, h4⟩ := h
  go_enter Try.func103, Try.ntmps103
  go_wp2_with fail
  go_ret
  exact ⟨rfl, (Below.refl _ _).alloc (Nat.le_refl _) _⟩
set_option maxRecDepth 100000 in
set_option maxHeartbeats 1600000 in
theorem standardRod_any (d : Int) (w : World) (h : 0 ≤ d ∧ d ≤ 1000) :
    Calls Try.prog 84 #[.int .i64 d] w fun e w' => e = .returned (.agg #[.int .i64 (d / 5), .int .i64 (d % 5)]) ∧ Below w.heap.size w w' := by
  obtain ⟨h1, h2⟩ := h
  go_enter Try.func84, Try.ntmps84
  go_wp2_with fail
  exact bodyPost_ret (v := .agg #[.int .i64 (d / 5), .int .i64 (d % 5)]) (by simp [results, Try.results84, go_sem]) rfl ⟨rfl, (Below.refl _ _).alloc (Nat.le_refl _) _⟩
end Go.Proofs.Ytjkjaadcdolbhaa
