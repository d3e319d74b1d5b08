/- The law on LongestGap: it returns true where the model and the program give one answer. -/
import Derived.Test.YtblbeoeklkcamaaLessons
import Derived.Test.YtblbeoeklkcamaaKa
import Derived.Deep.RegionHeld3
namespace Go.Proofs.Ytblbeoeklkcamaa
set_option linter.unusedVariables false
open Go.RowKit

set_option maxRecDepth 100000 in
set_option maxHeartbeats 6400000 in
theorem lawLongestGap (w : World) (sv0 : Value) (ps0 : List Les) (h0 : RowsR 7 lesC w sv0 ps0) (a1 : Int) (r0 : Int) (r1 : Bool) 
    (hS : ps0.length ≤ 1048576 → ∀ s0 w, RowsR 7 lesC w s0 ps0 → Calls Try.prog 49 #[s0, .int .i64 a1] w fun e w' => e = .returned (.tuple #[.int .i64 r0, .bool r1]) ∧ Below w.heap.size w w') 
    (hI : ps0.length ≤ 1048576 → ∀ s0 w, RowsR 7 lesC w s0 ps0 → Calls Try.prog 50 #[s0, .int .i64 a1] w fun e w' => e = .returned (.tuple #[.int .i64 r0, .bool r1]) ∧ Below w.heap.size w w') :
    Calls Try.prog 12 #[sv0, .int .i64 a1] w fun e w' => e = .returned (.bool true) ∧ Below w.heap.size w w' := by
  have HS := Lib.hid hS
  have HI := Lib.hid hI
  obtain ⟨ad0, cp0, rfl⟩ := h0.form
  have hm0 : ps0.length ≤ 9223372036854775807 := by obtain ⟨_, _, _, ⟨m, _⟩, _⟩ := h0; exact m
  have HB0 : Hid (Below w.heap.size w w) := Lib.hid (Below.refl _ _)
  have HRf00 := Lib.hid (h0)
  clear hS hI h0
  have hr0 : (r0 != r0) = false := by simp
  have hr1 : (r1 != r1) = false := by simp
  go_enter Try.func12, Try.ntmps12
  go_wp2_with fail
  refine (szLessonS_any _ ps0 1048576 _ HRf00.out (by omega) (by omega)).mono ?_
  rintro e w1 ⟨⟨l0, rfl, hl0, hk0⟩, hb⟩
  have HB1 : Hid (Below w.heap.size w w1) := Lib.hid (HB0.out.trans (hb.mono HB0.out.size))
  have HZ1 : Hid (w.heap.size ≤ w1.heap.size) := Lib.hid hb.size
  have HRf01 := Lib.hid (HRf00.out.below HB1.out (Nat.le_refl _))
  clear hb
  by_cases hr : l0 < 0
  · clear hk0
    go_wp2_with fail
    go_ret
    exact ⟨rfl, HB1.out⟩
  have hn0 : ps0.length ≤ 1048576 := by have := hk0 (by omega); omega
  clear hk0
  go_wp2_with fail
  refine (toLessonS_any _ ps0 _ HRf01.out hn0).mono ?_
  rintro e w2 ⟨⟨st0, rfl, ho⟩, hb⟩
  have HB2 : Hid (Below w.heap.size w w2) := Lib.hid (HB1.out.trans (hb.mono HB1.out.size))
  have HZ2 : Hid (w1.heap.size ≤ w2.heap.size) := Lib.hid hb.size
  have HRf02 := Lib.hid (HRf00.out.below HB2.out (Nat.le_refl _))
  clear hb
  obtain ⟨pt0, kt0, rfl⟩ := own_form ho
  have HRt02 := Lib.hid ((RowsR.of_own lesC_len ho))
  have HBs2_2 : Hid (Below w2.heap.size w2 w2) := Lib.hid (Below.refl _ _)
  clear ho
  go_wp2_with fail
  refine (HS.out hn0 _ _ HRt02.out).mono ?_
  rintro e w3 ⟨rfl, hb⟩
  have HB3 : Hid (Below w.heap.size w w3) := Lib.hid (HB2.out.trans (hb.mono HB2.out.size))
  have HZ3 : Hid (w2.heap.size ≤ w3.heap.size) := Lib.hid hb.size
  have HRf03 := Lib.hid (HRf00.out.below HB3.out (Nat.le_refl _))
  have HRt03 := Lib.hid (HRt02.out.below hb (Nat.le_refl _))
  have HBs2_3 : Hid (Below w2.heap.size w2 w3) := Lib.hid (HBs2_2.out.trans (hb.mono HBs2_2.out.size))
  clear hb
  go_wp2_with fail
  refine (toLessonS_any _ ps0 _ HRf03.out hn0).mono ?_
  rintro e w4 ⟨⟨sx0, rfl, ho⟩, hb⟩
  have HB4 : Hid (Below w.heap.size w w4) := Lib.hid (HB3.out.trans (hb.mono HB3.out.size))
  have HZ4 : Hid (w3.heap.size ≤ w4.heap.size) := Lib.hid hb.size
  have HRf04 := Lib.hid (HRf00.out.below HB4.out (Nat.le_refl _))
  clear hb
  obtain ⟨px0, kx0, rfl⟩ := own_form ho
  have HOx04 := Lib.hid (Ow.mk' ho)
  clear ho
  go_wp2_with fail
  refine (HI.out hn0 _ _ (RowsR.of_own lesC_len HOx04.out.1)).mono ?_
  rintro e w5 ⟨rfl, hb⟩
  have HB5 : Hid (Below w.heap.size w w5) := Lib.hid (HB4.out.trans (hb.mono HB4.out.size))
  have HZ5 : Hid (w4.heap.size ≤ w5.heap.size) := Lib.hid hb.size
  have HRf05 := Lib.hid (HRf00.out.below HB5.out (Nat.le_refl _))
  have HOx05 := Lib.hid (HOx04.out.next hb)
  clear hb
  go_wp2_with fail
  refine (toLessonS_any _ ps0 _ HRf05.out hn0).mono ?_
  rintro e w6 ⟨⟨sy0, rfl, ho⟩, hb⟩
  have HB6 : Hid (Below w.heap.size w w6) := Lib.hid (HB5.out.trans (hb.mono HB5.out.size))
  have HZ6 : Hid (w5.heap.size ≤ w6.heap.size) := Lib.hid hb.size
  have HRf06 := Lib.hid (HRf00.out.below HB6.out (Nat.le_refl _))
  have HOx06 := Lib.hid (HOx05.out.next hb)
  clear hb
  obtain ⟨py0, ky0, rfl⟩ := own_form ho
  have HRy06 := Lib.hid ((RowsR.of_own lesC_len ho))
  have HBs6_6 : Hid (Below w6.heap.size w6 w6) := Lib.hid (Below.refl _ _)
  clear ho
  go_wp2_with fail
  refine (eqLessonS_yes _ _ ps0 _ (RowsR.of_own lesC_len HOx06.out.1) HRy06.out).mono ?_
  rintro e w7 ⟨rfl, hb⟩
  have HB7 : Hid (Below w.heap.size w w7) := Lib.hid (HB6.out.trans (hb.mono HB6.out.size))
  have HZ7 : Hid (w6.heap.size ≤ w7.heap.size) := Lib.hid hb.size
  have HRf07 := Lib.hid (HRf00.out.below HB7.out (Nat.le_refl _))
  have HOx07 := Lib.hid (HOx06.out.next hb)
  have HRy07 := Lib.hid (HRy06.out.below hb (Nat.le_refl _))
  have HBs6_7 : Hid (Below w6.heap.size w6 w7) := Lib.hid (HBs6_6.out.trans (hb.mono HBs6_6.out.size))
  clear hb
  go_wp2_with fail
  go_ret
  exact ⟨rfl, HB7.out⟩
end Go.Proofs.Ytblbeoeklkcamaa
