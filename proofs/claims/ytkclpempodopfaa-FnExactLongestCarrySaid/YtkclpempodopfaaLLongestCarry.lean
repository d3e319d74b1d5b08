/- The law on LongestCarry: it returns true where the model and the program give one answer. -/
import Derived.Test.YtkclpempodopfaaKb
import Derived.Test.YtkclpempodopfaaKa
import Derived.Deep.RegionHeld3
namespace Go.Proofs.Ytkclpempodopfaa
set_option linter.unusedVariables false
open Go.RowKit

set_option maxRecDepth 100000 in
set_option maxHeartbeats 6400000 in
theorem lawLongestCarry (w : World) (up0 lo0 : Int) (sv0 : Value) (rs0 : List (Int × Int)) (h0 : RodsR w sv0 rs0) (a1 : Int) (r0 : Int) (r1 : Bool) 
    (hS : rs0.length ≤ 1048576 → ∀ s0 w, RodsR w s0 rs0 → Calls Try.prog 48 #[.agg #[.int .i64 up0, .int .i64 lo0, s0], .int .i64 a1] w fun e w' => e = .returned (.tuple #[.int .i64 r0, .bool r1]) ∧ Below w.heap.size w w') 
    (hI : rs0.length ≤ 1048576 → ∀ s0 w, RodsR w s0 rs0 → Calls Try.prog 49 #[.agg #[.int .i64 up0, .int .i64 lo0, s0], .int .i64 a1] w fun e w' => e = .returned (.tuple #[.int .i64 r0, .bool r1]) ∧ Below w.heap.size w w') :
    Calls Try.prog 14 #[.agg #[.int .i64 up0, .int .i64 lo0, sv0], .int .i64 a1] w fun e w' => e = .returned (.bool true) ∧ Below w.heap.size w w' := by
  have HS := Lib.hid hS
  have HI := Lib.hid hI
  obtain ⟨ad0, cp0, rfl⟩ : ∃ a c, sv0 = .slice a rs0.length c := by obtain ⟨a, c, e, _⟩ := h0; exact ⟨a, c, e⟩
  have HB0 : Hid (Below w.heap.size w w) := Lib.hid (Below.refl _ _)
  have HRf00 := Lib.hid (h0)
  clear hS hI h0
  have hr0 : (r0 != r0) = false := by simp
  have hr1 : (r1 != r1) = false := by simp
  go_enter Try.func14, Try.ntmps14
  go_wp2_with fail
  have hb : Below w.heap.size w (w.alloc (.cells #[.int .i64 up0, .int .i64 lo0, .slice ad0 rs0.length cp0] 24)) := (Below.refl _ _).alloc (Nat.le_refl _) _
  have hk : (w.alloc (.cells #[.int .i64 up0, .int .i64 lo0, .slice ad0 rs0.length cp0] 24)).heap[w.heap.size]? = some (.cells #[.int .i64 up0, .int .i64 lo0, .slice ad0 rs0.length cp0] 24 (0, 0)) := alloc_at rfl
  have hz : (w.alloc (.cells #[.int .i64 up0, .int .i64 lo0, .slice ad0 rs0.length cp0] 24)).heap.size = w.heap.size + 1 := by simp
  generalize w.alloc (.cells #[.int .i64 up0, .int .i64 lo0, .slice ad0 rs0.length cp0] 24) = w1 at hb hk hz ⊢
  have HB1 : Hid (Below w.heap.size w w1) := Lib.hid (HB0.out.trans (hb.mono HB0.out.size))
  have HZ1 : Hid (w.heap.size ≤ w1.heap.size) := Lib.hid hb.size
  have HRf01 := Lib.hid (HRf00.out.below HB1.out (Nat.le_refl _))
  have HKa01 := Lib.hid hk
  replace HZ1 : Hid (w.heap.size < w1.heap.size) := Lib.hid (by omega)
  have HE1 := Lib.hid hz
  clear hb hk hz
  refine (szFrame_any up0 lo0 1048576 _ rs0 _ HRf01.out (by omega) (by omega)).mono ?_
  rintro e w2 ⟨⟨l0, rfl, hl0, hk0⟩, hb⟩
  have HB2 : Hid (Below w.heap.size w w2) := Lib.hid (HB1.out.trans (hb.mono HB1.out.size))
  have HZ2 : Hid (w1.heap.size ≤ w2.heap.size) := Lib.hid hb.size
  have HRf02 := Lib.hid (HRf00.out.below HB2.out (Nat.le_refl _))
  have HKa02 := Lib.hid ((hb.block _ (lt_of_block HKa01.out)).trans HKa01.out)
  clear hb
  by_cases hr : l0 < 0
  · clear hk0
    have lta0 := lt_of_block HKa02.out
    obtain ⟨ca00, ca01, ca02, fa00, fa01, fa02⟩ := cell3 HKa02.out
    go_wp2_with fail
    go_ret
    exact ⟨rfl, HB2.out⟩
  have hn0 : rs0.length ≤ 1048576 := by have := hk0 (by omega); omega
  clear hk0
  have lta0 := lt_of_block HKa02.out
  obtain ⟨ca00, ca01, ca02, fa00, fa01, fa02⟩ := cell3 HKa02.out
  go_wp2_with fail
  refine (toFrame_any up0 lo0 _ rs0 _ HRf02.out hn0).mono ?_
  rintro e w3 ⟨⟨st0, rfl, ho⟩, hb⟩
  have HB3 : Hid (Below w.heap.size w w3) := Lib.hid (HB2.out.trans (hb.mono HB2.out.size))
  have HZ3 : Hid (w2.heap.size ≤ w3.heap.size) := Lib.hid hb.size
  have HRf03 := Lib.hid (HRf00.out.below HB3.out (Nat.le_refl _))
  have HKa03 := Lib.hid ((hb.block _ (lt_of_block HKa02.out)).trans HKa02.out)
  clear hb
  obtain ⟨pt0, kt0, rfl⟩ := own_form ho
  have HRt03 := Lib.hid ((RodsR.of_own ho))
  have HBs3_3 : Hid (Below w3.heap.size w3 w3) := Lib.hid (Below.refl _ _)
  clear ho
  clear ca00 ca01 ca02 fa00 fa01 fa02 lta0
  have lta0 := lt_of_block HKa03.out
  obtain ⟨ca00, ca01, ca02, fa00, fa01, fa02⟩ := cell3 HKa03.out
  go_wp2_with fail
  refine (HS.out hn0 _ _ HRt03.out).mono ?_
  rintro e w4 ⟨rfl, hb⟩
  have HB4 : Hid (Below w.heap.size w w4) := Lib.hid (HB3.out.trans (hb.mono HB3.out.size))
  have HZ4 : Hid (w3.heap.size ≤ w4.heap.size) := Lib.hid hb.size
  have HRf04 := Lib.hid (HRf00.out.below HB4.out (Nat.le_refl _))
  have HKa04 := Lib.hid ((hb.block _ (lt_of_block HKa03.out)).trans HKa03.out)
  have HRt04 := Lib.hid (HRt03.out.below hb (Nat.le_refl _))
  have HBs3_4 : Hid (Below w3.heap.size w3 w4) := Lib.hid (HBs3_3.out.trans (hb.mono HBs3_3.out.size))
  clear hb
  clear ca00 ca01 ca02 fa00 fa01 fa02 lta0
  have lta0 := lt_of_block HKa04.out
  obtain ⟨ca00, ca01, ca02, fa00, fa01, fa02⟩ := cell3 HKa04.out
  go_wp2_with fail
  refine (toFrame_any up0 lo0 _ rs0 _ HRf04.out hn0).mono ?_
  rintro e w5 ⟨⟨sx0, rfl, ho⟩, hb⟩
  have HB5 : Hid (Below w.heap.size w w5) := Lib.hid (HB4.out.trans (hb.mono HB4.out.size))
  have HZ5 : Hid (w4.heap.size ≤ w5.heap.size) := Lib.hid hb.size
  have HRf05 := Lib.hid (HRf00.out.below HB5.out (Nat.le_refl _))
  have HKa05 := Lib.hid ((hb.block _ (lt_of_block HKa04.out)).trans HKa04.out)
  clear hb
  obtain ⟨px0, kx0, rfl⟩ := own_form ho
  have HOx05 := Lib.hid (Ow.mk' ho)
  clear ho
  clear ca00 ca01 ca02 fa00 fa01 fa02 lta0
  have lta0 := lt_of_block HKa05.out
  obtain ⟨ca00, ca01, ca02, fa00, fa01, fa02⟩ := cell3 HKa05.out
  go_wp2_with fail
  have hb : Below w5.heap.size w5 (w5.alloc (.cells #[.int .i64 up0, .int .i64 lo0, .slice px0 rs0.length kx0] 26)) := (Below.refl _ _).alloc (Nat.le_refl _) _
  have hk : (w5.alloc (.cells #[.int .i64 up0, .int .i64 lo0, .slice px0 rs0.length kx0] 26)).heap[w5.heap.size]? = some (.cells #[.int .i64 up0, .int .i64 lo0, .slice px0 rs0.length kx0] 26 (0, 0)) := alloc_at rfl
  have hz : (w5.alloc (.cells #[.int .i64 up0, .int .i64 lo0, .slice px0 rs0.length kx0] 26)).heap.size = w5.heap.size + 1 := by simp
  generalize w5.alloc (.cells #[.int .i64 up0, .int .i64 lo0, .slice px0 rs0.length kx0] 26) = w6 at hb hk hz ⊢
  have HB6 : Hid (Below w.heap.size w w6) := Lib.hid (HB5.out.trans (hb.mono HB5.out.size))
  have HZ6 : Hid (w5.heap.size ≤ w6.heap.size) := Lib.hid hb.size
  have HRf06 := Lib.hid (HRf00.out.below HB6.out (Nat.le_refl _))
  have HKa06 := Lib.hid ((hb.block _ (lt_of_block HKa05.out)).trans HKa05.out)
  have HOx06 := Lib.hid (HOx05.out.next hb)
  have HKx06 := Lib.hid hk
  replace HZ6 : Hid (w5.heap.size < w6.heap.size) := Lib.hid (by omega)
  have HE6 := Lib.hid hz
  clear hb hk hz
  refine (HI.out hn0 _ _ (RodsR.of_own HOx06.out.1)).mono ?_
  rintro e w7 ⟨rfl, hb⟩
  have HB7 : Hid (Below w.heap.size w w7) := Lib.hid (HB6.out.trans (hb.mono HB6.out.size))
  have HZ7 : Hid (w6.heap.size ≤ w7.heap.size) := Lib.hid hb.size
  have HRf07 := Lib.hid (HRf00.out.below HB7.out (Nat.le_refl _))
  have HKa07 := Lib.hid ((hb.block _ (lt_of_block HKa06.out)).trans HKa06.out)
  have HOx07 := Lib.hid (HOx06.out.next hb)
  have HKx07 := Lib.hid ((hb.block _ (lt_of_block HKx06.out)).trans HKx06.out)
  clear hb
  clear ca00 ca01 ca02 fa00 fa01 fa02 lta0
  have lta0 := lt_of_block HKa07.out
  obtain ⟨ca00, ca01, ca02, fa00, fa01, fa02⟩ := cell3 HKa07.out
  have ltx0 := lt_of_block HKx07.out
  obtain ⟨cx00, cx01, cx02, fx00, fx01, fx02⟩ := cell3 HKx07.out
  go_wp2_with fail
  clear ca00 ca01 ca02 fa00 fa01 fa02 lta0 cx00 cx01 cx02 fx00 fx01 fx02 ltx0
  have lta0 := lt_of_block HKa07.out
  obtain ⟨ca00, ca01, ca02, fa00, fa01, fa02⟩ := cell3 HKa07.out
  have ltx0 := lt_of_block HKx07.out
  obtain ⟨cx00, cx01, cx02, fx00, fx01, fx02⟩ := cell3 HKx07.out
  go_region_held3 (fun w' => w'.cell? ⟨w5.heap.size, 0, none⟩ = some (.int .i64 up0) ∧ w'.cell? ⟨w5.heap.size, 1, none⟩ = some (.int .i64 lo0) ∧ w'.cell? ⟨w5.heap.size, 2, none⟩ = some (.slice px0 rs0.length kx0) ∧ w'.cell? ⟨w.heap.size, 0, none⟩ = some (.int .i64 up0) ∧ w'.cell? ⟨w.heap.size, 1, none⟩ = some (.int .i64 lo0) ∧ w'.cell? ⟨w.heap.size, 2, none⟩ = some (.slice ad0 rs0.length cp0))
    (first
      | go_keep
      | exact ⟨(hq1.cell (p := ⟨w5.heap.size, 0, none⟩) ltx0).trans cx00, (hq1.cell (p := ⟨w5.heap.size, 1, none⟩) ltx0).trans cx01, (hq1.cell (p := ⟨w5.heap.size, 2, none⟩) ltx0).trans cx02, (hq1.cell (p := ⟨w.heap.size, 0, none⟩) lta0).trans ca00, (hq1.cell (p := ⟨w.heap.size, 1, none⟩) lta0).trans ca01, (hq1.cell (p := ⟨w.heap.size, 2, none⟩) lta0).trans ca02⟩)
    (first
      | (go_at_call 17; refine (toFrame_any up0 lo0 _ rs0 _ (HRf00.out.below HB7.out.drew (Nat.le_refl _)) hn0).mono ?_; rintro e w8 ⟨⟨s7, rfl, hown7⟩, hq1⟩; obtain ⟨p7, k7, rfl⟩ := own_form hown7)
      | (go_at_call 19; refine (eqFrame_yes up0 lo0 _ _ rs0 _ (RodsR.below (RodsR.of_own HOx07.out.1) ((Below.refl _ w7).drew.trans hq1) (Nat.le_refl _)) (RodsR.of_own hown7)).mono ?_; rintro e w8 ⟨rfl, hq2⟩; replace hq1 := hq1.trans (hq2.mono hq1.size); clear hq2))
  have hb := (Below.refl _ w7).drew.trans hq1
  clear hq1 hown7
  have HB8 : Hid (Below w.heap.size w w8) := Lib.hid (HB7.out.trans (hb.mono HB7.out.size))
  have HZ8 : Hid (w7.heap.size ≤ w8.heap.size) := Lib.hid hb.size
  have HRf08 := Lib.hid (HRf00.out.below HB8.out (Nat.le_refl _))
  have HKa08 := Lib.hid ((hb.block _ (lt_of_block HKa07.out)).trans HKa07.out)
  have HOx08 := Lib.hid (HOx07.out.next hb)
  have HKx08 := Lib.hid ((hb.block _ (lt_of_block HKx07.out)).trans HKx07.out)
  clear hb
  clear ca00 ca01 ca02 fa00 fa01 fa02 lta0 cx00 cx01 cx02 fx00 fx01 fx02 ltx0
  have lta0 := lt_of_block HKa08.out
  obtain ⟨ca00, ca01, ca02, fa00, fa01, fa02⟩ := cell3 HKa08.out
  have ltx0 := lt_of_block HKx08.out
  obtain ⟨cx00, cx01, cx02, fx00, fx01, fx02⟩ := cell3 HKx08.out
  go_wp2_with fail
  go_ret
  exact ⟨rfl, HB8.out⟩
end Go.Proofs.Ytkclpempodopfaa
