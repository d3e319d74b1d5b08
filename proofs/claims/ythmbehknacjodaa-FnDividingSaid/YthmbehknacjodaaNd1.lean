/- The model's side of dividing: steps, quotients, decimals, divisors. -/
import Derived.Test.YthmbehknacjodaaTdv
import Derived.Test.YthmbehknacjodaaKw
namespace Go.Proofs.Ythmbehknacjodaa
set_option linter.unusedVariables false
open Go.RowKit

set_option maxRecDepth 100000 in
set_option maxHeartbeats 400000 in
theorem l10Asked_yes (a b : Int) (w : World) (h : okD a b) :
    Calls Try.prog 104 #[.int .i64 a, .int .i64 b] w fun e w' => e = .returned (.bool true) ∧ w = w' := by
  have ha := inB_yes h.1.1 h.1.2
  have hb := inB_yes h.2.1 h.2.2
  go_enter Try.func104, Try.ntmps104
  go_wp2_with fail
  refine (l1In_any a 0 99999999 w).mono ?_
  rintro e w' ⟨rfl, rfl⟩
  rw [ha]
  go_wp2_with fail
  refine (l1In_any b 1 9999 w).mono ?_
  rintro e w' ⟨rfl, rfl⟩
  rw [hb]
  go_wp2_with fail
  go_ret
  exact ⟨rfl, rfl⟩
set_option maxRecDepth 100000 in
set_option maxHeartbeats 400000 in
theorem l10Asked_no (a b : Int) (w : World) (h : ¬ okD a b) :
    Calls Try.prog 104 #[.int .i64 a, .int .i64 b] w fun e w' => e = .returned (.bool false) ∧ w = w' := by
  by_cases h1 : 0 ≤ a ∧ a ≤ 99999999
  · have ha := inB_yes h1.1 h1.2
    have hb : inB b 1 9999 = false := inB_no (fun hb => h ⟨h1, hb⟩)
    clear h h1
    go_enter Try.func104, Try.ntmps104
    go_wp2_with fail
    refine (l1In_any a 0 99999999 w).mono ?_
    rintro e w' ⟨rfl, rfl⟩
    rw [ha]
    go_wp2_with fail
    refine (l1In_any b 1 9999 w).mono ?_
    rintro e w' ⟨rfl, rfl⟩
    rw [hb]
    go_wp2_with fail
    go_ret
    exact ⟨rfl, rfl⟩
  · have ha : inB a 0 99999999 = false := inB_no h1
    clear h h1
    go_enter Try.func104, Try.ntmps104
    go_wp2_with fail
    refine (l1In_any a 0 99999999 w).mono ?_
    rintro e w' ⟨rfl, rfl⟩
    rw [ha]
    go_wp2_with fail
    go_ret
    exact ⟨rfl, rfl⟩

/-- A division by a divisor, as the program reckons it. -/
theorem div_facts {b d : Int} (hb : 0 ≤ b ∧ b ≤ 1000000000) (hd : 1 ≤ d) : IntKind.i64.wrap (b.tdiv d) = b / d ∧ b.tmod d = b % d ∧ 0 ≤ b / d ∧ b / d ≤ b ∧ 0 ≤ b % d ∧ b % d < d := by
  have h1 : 0 ≤ b / d := Int.ediv_nonneg hb.1 (by omega)
  have h2 : b / d ≤ b := Int.ediv_le_self _ hb.1
  refine ⟨?_, Int.tmod_eq_emod_of_nonneg hb.1, h1, h2, Int.emod_nonneg _ (by omega), Int.emod_lt_of_pos _ (by omega)⟩
  rw [Int.tdiv_eq_ediv_of_nonneg hb.1, IntKind.wrap_i64]; omega
set_option maxRecDepth 100000 in
set_option maxHeartbeats 800000 in
theorem speQuotientOf_yes (a b : Int) (w : World) (h : okD a b) :
    Calls Try.prog 51 #[.int .i64 a, .int .i64 b] w fun e w' => e = .returned (.tuple #[.int .i64 (a / b), .int .i64 (a % b), .bool true]) ∧ Below w.heap.size w w' := by
  have HK := Lib.hid h
  obtain ⟨f1, f2, f3, f4, f5, f6⟩ := div_facts (b := a) (d := b) ⟨h.1.1, by have := h.1.2; omega⟩ h.2.1
  have z1 : (b == 0) = false := beq_eq_false_iff_ne.2 (by have := h.2.1; omega)
  have z2 : b ≠ 0 := by have := h.2.1; omega
  have z3 : 0 ≤ a := h.1.1
  have z4 : a ≤ 99999999 := h.1.2
  have z5 : 0 < b := by have := h.2.1; omega
  clear h
  obtain ⟨q, hq⟩ : ∃ q, a / b = q := ⟨_, rfl⟩
  obtain ⟨r, hr⟩ : ∃ r, a % b = r := ⟨_, rfl⟩
  rw [hq] at f1 f3 f4
  rw [hr] at f2 f5 f6
  go_enter Try.func51, Try.ntmps51
  go_wp2_with fail
  refine (l10Asked_yes _ _ w HK.out).mono ?_
  rintro e w2 ⟨rfl, rfl⟩
  go_wp2_with fail
  go_quiet (fail)
  rename Nat => nq
  go_wp2_with fail
  exact bodyPost_ret (v := .tuple #[.int .i64 q, .int .i64 r, .bool true]) (by simp [results, Try.results51, go_sem]) rfl ⟨by first | rfl | rw [hq, hr], bl_drewN (Below.refl _ _) nq⟩
set_option maxRecDepth 100000 in
set_option maxHeartbeats 800000 in
theorem speQuotientOf_no (a b : Int) (w : World) (h : ¬ okD a b) :
    Calls Try.prog 51 #[.int .i64 a, .int .i64 b] w fun e w' => e = .returned (.tuple #[.int .i64 0, .int .i64 0, .bool false]) ∧ Below w.heap.size w w' := by
  have HK := Lib.hid h
  clear h
  go_enter Try.func51, Try.ntmps51
  go_wp2_with fail
  refine (l10Asked_no _ _ w HK.out).mono ?_
  rintro e w2 ⟨rfl, rfl⟩
  go_wp2_with fail
  exact bodyPost_ret (v := .tuple #[.int .i64 0, .int .i64 0, .bool false]) (by simp [results, Try.results51, go_sem]) rfl ⟨rfl, Below.refl _ _⟩
end Go.Proofs.Ythmbehknacjodaa
