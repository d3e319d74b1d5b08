/- The program's divisors, check, decimals. -/
import Derived.Test.YthmbehknacjodaaJd2
namespace Go.Proofs.Ythmbehknacjodaa
set_option linter.unusedVariables false
open Go.RowKit

set_option maxRecDepth 100000 in
set_option maxHeartbeats 1600000 in
theorem impCheckDivision_yes (a b q r : Int) (w : World) (h : okC10 a b q r) (hq : q = a / b) (hr : r = a % b) :
    Calls Try.prog 55 #[.int .i64 a, .int .i64 b, .int .i64 q, .int .i64 r] w fun e w' => e = .returned (.tuple #[.bool true, .bool true]) ∧ Below w.heap.size w w' := by
  obtain ⟨f1, f2, f3, f4, f5, f6⟩ := div_facts (b := a) (d := b) ⟨h.1.1.1, by have := h.1.1.2; omega⟩ h.1.2.1
  have HK := Lib.hid h.1
  obtain ⟨g1, g2⟩ := h.2.1
  obtain ⟨g3, g4⟩ := h.2.2
  have z1 : (b == 0) = false := beq_eq_false_iff_ne.2 (by have := h.1.2.1; omega)
  have z2 : b ≠ 0 := by have := h.1.2.1; omega
  clear h
  obtain ⟨Q, hQ⟩ : ∃ q, a / b = q := ⟨_, rfl⟩
  obtain ⟨R, hR⟩ : ∃ r, a % b = r := ⟨_, rfl⟩
  rw [hQ] at f1 f3 f4 hq
  rw [hR] at f2 f5 f6 hr
  have y1 : (q == Q) = true := by simpa using hq
  have y2 : (r == R) = true := by simpa using hr
  clear hq hr hQ hR
  go_enter Try.func55, Try.ntmps55
  go_wp2_with fail
  refine (canD_yes _ _ w HK.out).mono ?_
  rintro e w2 ⟨rfl, rfl⟩
  go_wp2_with fail
  go_ret2
  exact ⟨rfl, Below.refl _ _⟩
set_option maxRecDepth 100000 in
set_option maxHeartbeats 1600000 in
theorem impCheckDivision_rest (a b q r : Int) (w : World) (h : okC10 a b q r) (hq : q = a / b) (hr : ¬ r = a % b) :
    Calls Try.prog 55 #[.int .i64 a, .int .i64 b, .int .i64 q, .int .i64 r] w fun e w' => e = .returned (.tuple #[.bool false, .bool true]) ∧ Below w.heap.size w w' := by
  obtain ⟨f1, f2, f3, f4, f5, f6⟩ := div_facts (b := a) (d := b) ⟨h.1.1.1, by have := h.1.1.2; omega⟩ h.1.2.1
  have HK := Lib.hid h.1
  obtain ⟨g1, g2⟩ := h.2.1
  obtain ⟨g3, g4⟩ := h.2.2
  have z1 : (b == 0) = false := beq_eq_false_iff_ne.2 (by have := h.1.2.1; omega)
  have z2 : b ≠ 0 := by have := h.1.2.1; omega
  clear h
  obtain ⟨Q, hQ⟩ : ∃ q, a / b = q := ⟨_, rfl⟩
  obtain ⟨R, hR⟩ : ∃ r, a % b = r := ⟨_, rfl⟩
  rw [hQ] at f1 f3 f4 hq
  rw [hR] at f2 f5 f6 hr
  have y1 : (q == Q) = true := by simpa using hq
  have y2 : (r == R) = false := by simpa using hr
  clear hq hr hQ hR
  go_enter Try.func55, Try.ntmps55
  go_wp2_with fail
  refine (canD_yes _ _ w HK.out).mono ?_
  rintro e w2 ⟨rfl, rfl⟩
  go_wp2_with fail
  go_ret2
  exact ⟨rfl, Below.refl _ _⟩
set_option maxRecDepth 100000 in
set_option maxHeartbeats 1600000 in
theorem impCheckDivision_quot (a b q r : Int) (w : World) (h : okC10 a b q r) (hq : ¬ q = a / b) (hr : a % b = a % b) :
    Calls Try.prog 55 #[.int .i64 a, .int .i64 b, .int .i64 q, .int .i64 r] w fun e w' => e = .returned (.tuple #[.bool false, .bool true]) ∧ Below w.heap.size w w' := by
  obtain ⟨f1, f2, f3, f4, f5, f6⟩ := div_facts (b := a) (d := b) ⟨h.1.1.1, by have := h.1.1.2; omega⟩ h.1.2.1
  have HK := Lib.hid h.1
  obtain ⟨g1, g2⟩ := h.2.1
  obtain ⟨g3, g4⟩ := h.2.2
  have z1 : (b == 0) = false := beq_eq_false_iff_ne.2 (by have := h.1.2.1; omega)
  have z2 : b ≠ 0 := by have := h.1.2.1; omega
  clear h
  obtain ⟨Q, hQ⟩ : ∃ q, a / b = q := ⟨_, rfl⟩
  obtain ⟨R, hR⟩ : ∃ r, a % b = r := ⟨_, rfl⟩
  rw [hQ] at f1 f3 f4 hq
  rw [hR] at f2 f5 f6 hr
  have y1 : (q == Q) = false := by simpa using hq
  have y2 : (r == R) = (r == R) := by rfl
  clear hq hr hQ hR
  go_enter Try.func55, Try.ntmps55
  go_wp2_with fail
  refine (canD_yes _ _ w HK.out).mono ?_
  rintro e w2 ⟨rfl, rfl⟩
  go_wp2_with fail
  go_ret2
  exact ⟨rfl, Below.refl _ _⟩
set_option maxRecDepth 100000 in
set_option maxHeartbeats 800000 in
theorem impCheckDivision_no1 (a b q r : Int) (w : World) (h : ¬ okD a b) :
    Calls Try.prog 55 #[.int .i64 a, .int .i64 b, .int .i64 q, .int .i64 r] w fun e w' => e = .returned (.tuple #[.bool false, .bool false]) ∧ Below w.heap.size w w' := by
  have HK := Lib.hid h
  clear h
  go_enter Try.func55, Try.ntmps55
  go_wp2_with fail
  refine (canD_no _ _ w HK.out).mono ?_
  rintro e w2 ⟨rfl, rfl⟩
  go_wp2_with fail
  go_ret2
  exact ⟨rfl, Below.refl _ _⟩
set_option maxRecDepth 100000 in
set_option maxHeartbeats 800000 in
theorem impCheckDivision_no2 (a b q r : Int) (w : World) (h : okD a b) (h2 : q < 0) :
    Calls Try.prog 55 #[.int .i64 a, .int .i64 b, .int .i64 q, .int .i64 r] w fun e w' => e = .returned (.tuple #[.bool false, .bool false]) ∧ Below w.heap.size w w' := by
  have HK := Lib.hid h
  clear h
  go_enter Try.func55, Try.ntmps55
  go_wp2_with fail
  refine (canD_yes _ _ w HK.out).mono ?_
  rintro e w2 ⟨rfl, rfl⟩
  go_wp2_with fail
  go_ret2
  exact ⟨rfl, Below.refl _ _⟩
set_option maxRecDepth 100000 in
set_option maxHeartbeats 800000 in
theorem impCheckDivision_no3 (a b q r : Int) (w : World) (h : okD a b) (h1 : 0 ≤ q) (h2 : 99999999 < q) :
    Calls Try.prog 55 #[.int .i64 a, .int .i64 b, .int .i64 q, .int .i64 r] w fun e w' => e = .returned (.tuple #[.bool false, .bool false]) ∧ Below w.heap.size w w' := by
  have HK := Lib.hid h
  clear h
  go_enter Try.func55, Try.ntmps55
  go_wp2_with fail
  refine (canD_yes _ _ w HK.out).mono ?_
  rintro e w2 ⟨rfl, rfl⟩
  go_wp2_with fail
  go_ret2
  exact ⟨rfl, Below.refl _ _⟩
set_option maxRecDepth 100000 in
set_option maxHeartbeats 800000 in
theorem impCheckDivision_no4 (a b q r : Int) (w : World) (h : okD a b) (h1 : 0 ≤ q) (h2 : q ≤ 99999999) (h3 : r < 0) :
    Calls Try.prog 55 #[.int .i64 a, .int .i64 b, .int .i64 q, .int .i64 r] w fun e w' => e = .returned (.tuple #[.bool false, .bool false]) ∧ Below w.heap.size w w' := by
  have HK := Lib.hid h
  clear h
  go_enter Try.func55, Try.ntmps55
  go_wp2_with fail
  refine (canD_yes _ _ w HK.out).mono ?_
  rintro e w2 ⟨rfl, rfl⟩
  go_wp2_with fail
  go_ret2
  exact ⟨rfl, Below.refl _ _⟩
set_option maxRecDepth 100000 in
set_option maxHeartbeats 800000 in
theorem impCheckDivision_no5 (a b q r : Int) (w : World) (h : okD a b) (h1 : 0 ≤ q) (h2 : q ≤ 99999999) (h3 : 0 ≤ r) (h4 : 9999 < r) :
    Calls Try.prog 55 #[.int .i64 a, .int .i64 b, .int .i64 q, .int .i64 r] w fun e w' => e = .returned (.tuple #[.bool false, .bool false]) ∧ Below w.heap.size w w' := by
  have HK := Lib.hid h
  clear h
  go_enter Try.func55, Try.ntmps55
  go_wp2_with fail
  refine (canD_yes _ _ w HK.out).mono ?_
  rintro e w2 ⟨rfl, rfl⟩
  go_wp2_with fail
  go_ret2
  exact ⟨rfl, Below.refl _ _⟩
theorem impCheckDivision_no (a b q r : Int) (w : World) (h : ¬ okC10 a b q r) :
    Calls Try.prog 55 #[.int .i64 a, .int .i64 b, .int .i64 q, .int .i64 r] w fun e w' => e = .returned (.tuple #[.bool false, .bool false]) ∧ Below w.heap.size w w' := by
  by_cases h1 : okD a b
  · rcases Int.lt_or_le q 0 with h2 | h2
    · exact impCheckDivision_no2 a b q r w h1 h2
    · rcases Int.lt_or_le 99999999 q with h3 | h3
      · exact impCheckDivision_no3 a b q r w h1 h2 h3
      · rcases Int.lt_or_le r 0 with h4 | h4
        · exact impCheckDivision_no4 a b q r w h1 h2 h3 h4
        · rcases Int.lt_or_le 9999 r with h5 | h5
          · exact impCheckDivision_no5 a b q r w h1 h2 h3 h4 h5
          · exact absurd ⟨h1, ⟨h2, h3⟩, ⟨h4, h5⟩⟩ h
  · exact impCheckDivision_no1 a b q r w h1
theorem KeepB.setLow {lo hi : Nat} {a w : World} (h : KeepB lo hi a w) {p : Addr} (hp : p.block < lo) (u : Value) : KeepB lo hi a (w.setCell p u) := fun q h1 h2 =>
  (Below.heap_setCell w p u q (by omega)).trans (h q h1 h2)
/-- The row of decimals, as it is filled. -/
theorem stL_zeros (d r : Int) (p : Nat) : (stL d r (List.replicate p 0)).length = p := by rw [stL_len, List.length_replicate]
end Go.Proofs.Ythmbehknacjodaa
