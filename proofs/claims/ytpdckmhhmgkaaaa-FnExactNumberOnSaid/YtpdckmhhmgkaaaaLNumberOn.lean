/- The law on NumberOn: it returns true where the model and the program give one answer. -/
import Derived.Test.YtpdckmhhmgkaaaaFrm
import Derived.Test.YtpdckmhhmgkaaaaIFrame
import Derived.Deep.RegionHeld3
namespace Go.Proofs.Ytpdckmhhmgkaaaa
set_option linter.unusedVariables false
open Go.RowKit

set_option maxRecDepth 100000 in
set_option maxHeartbeats 6400000 in
theorem lawNumberOn (up lo : Int) (sv : Value) (rs : List (Int × Int)) (w : World) (h : RodsR w sv rs) (r0 : Int) (r1 : Bool) 
    (hS : rs.length ≤ 1048576 → ∀ s w, RodsR w s rs → Calls Try.prog 16 #[.agg #[.int .i64 up, .int .i64 lo, s]] w fun e w' => e = .returned (.tuple #[.int .i64 r0, .bool r1]) ∧ Below w.heap.size w w') 
    (hI : rs.length ≤ 1048576 → ∀ s w, RodsR w s rs → Calls Try.prog 18 #[.agg #[.int .i64 up, .int .i64 lo, s]] w fun e w' => e = .returned (.tuple #[.int .i64 r0, .bool r1]) ∧ Below w.heap.size w w') :
    Calls Try.prog 3 #[.agg #[.int .i64 up, .int .i64 lo, sv]] w fun e w' => e = .returned (.bool true) ∧ Below w.heap.size w w' := by
  have HS := Lib.hid hS
  have HI := Lib.hid hI
  obtain ⟨a, c, rfl⟩ : ∃ a c, sv = .slice a rs.length c := by obtain ⟨a, c, e, _⟩ := h; exact ⟨a, c, e⟩
  have HB0 : Hid (Below w.heap.size w w) := Lib.hid (Below.refl _ _)
  have HRf0 := Lib.hid (h)
  clear hS hI h
  have hr0 : (r0 != r0) = false := by simp
  have hr1 : (r1 != r1) = false := by simp
  go_enter Try.func3, Try.ntmps3
  go_wp2_with fail
  have hb : Below w.heap.size w (w.alloc (.cells #[.int .i64 up, .int .i64 lo, .slice a rs.length c] 24)) := (Below.refl _ _).alloc (Nat.le_refl _) _
  have hk : (w.alloc (.cells #[.int .i64 up, .int .i64 lo, .slice a rs.length c] 24)).heap[w.heap.size]? = some (.cells #[.int .i64 up, .int .i64 lo, .slice a rs.length c] 24 (0, 0)) := alloc_at rfl
  have hz : (w.alloc (.cells #[.int .i64 up, .int .i64 lo, .slice a rs.length c] 24)).heap.size = w.heap.size + 1 := by simp
  generalize w.alloc (.cells #[.int .i64 up, .int .i64 lo, .slice a rs.length c] 24) = w1 at hb hk hz ⊢
  have HB1 : Hid (Below w.heap.size w w1) := Lib.hid (HB0.out.trans (hb.mono HB0.out.size))
  have HZ1 : Hid (w.heap.size ≤ w1.heap.size) := Lib.hid hb.size
  have HRf1 := Lib.hid (HRf0.out.below HB1.out (Nat.le_refl _))
  have HKa1 := Lib.hid hk
  replace HZ1 : Hid (w.heap.size < w1.heap.size) := Lib.hid (by omega)
  have HE1 := Lib.hid hz
  clear hb hk hz
  refine (szFrame_any up lo 1048576 _ rs _ HRf1.out (by omega) (by omega)).mono ?_
  rintro e w2 ⟨⟨r, rfl, hr1, hr2⟩, hb⟩
  have HB2 : Hid (Below w.heap.size w w2) := Lib.hid (HB1.out.trans (hb.mono HB1.out.size))
  have HZ2 : Hid (w1.heap.size ≤ w2.heap.size) := Lib.hid hb.size
  have HRf2 := Lib.hid (HRf0.out.below HB2.out (Nat.le_refl _))
  have HKa2 := Lib.hid ((hb.block _ (lt_of_block HKa1.out)).trans HKa1.out)
  clear hb
  by_cases hr : r < 0
  · clear hr2
    have lta := lt_of_block HKa2.out
    obtain ⟨ca0, ca1, ca2, fa0, fa1, fa2⟩ := cell3 HKa2.out
    go_wp2_with fail
    go_ret
    exact ⟨rfl, HB2.out⟩
  have hn : rs.length ≤ 1048576 := by have := hr2 (by omega); omega
  clear hr2
  have lta := lt_of_block HKa2.out
  obtain ⟨ca0, ca1, ca2, fa0, fa1, fa2⟩ := cell3 HKa2.out
  go_wp2_with fail
  refine (toFrame_any up lo _ rs _ HRf2.out hn).mono ?_
  rintro e w3 ⟨⟨st, rfl, ho⟩, hb⟩
  have HB3 : Hid (Below w.heap.size w w3) := Lib.hid (HB2.out.trans (hb.mono HB2.out.size))
  have HZ3 : Hid (w2.heap.size ≤ w3.heap.size) := Lib.hid hb.size
  have HRf3 := Lib.hid (HRf0.out.below HB3.out (Nat.le_refl _))
  have HKa3 := Lib.hid ((hb.block _ (lt_of_block HKa2.out)).trans HKa2.out)
  clear hb
  obtain ⟨pt, kt, rfl⟩ := own_form ho
  have HCt := Lib.hid (RodsR.of_own ho)
  clear ho
  clear ca0 ca1 ca2 fa0 fa1 fa2 lta
  have lta := lt_of_block HKa3.out
  obtain ⟨ca0, ca1, ca2, fa0, fa1, fa2⟩ := cell3 HKa3.out
  go_wp2_with fail
  refine (HS.out hn _ _ HCt.out).mono ?_
  rintro e w4 ⟨rfl, hb⟩
  have HB4 : Hid (Below w.heap.size w w4) := Lib.hid (HB3.out.trans (hb.mono HB3.out.size))
  have HZ4 : Hid (w3.heap.size ≤ w4.heap.size) := Lib.hid hb.size
  have HRf4 := Lib.hid (HRf0.out.below HB4.out (Nat.le_refl _))
  have HKa4 := Lib.hid ((hb.block _ (lt_of_block HKa3.out)).trans HKa3.out)
  clear hb
  clear ca0 ca1 ca2 fa0 fa1 fa2 lta
  have lta := lt_of_block HKa4.out
  obtain ⟨ca0, ca1, ca2, fa0, fa1, fa2⟩ := cell3 HKa4.out
  go_wp2_with fail
  refine (toFrame_any up lo _ rs _ HRf4.out hn).mono ?_
  rintro e w5 ⟨⟨sx, rfl, ho⟩, hb⟩
  have HB5 : Hid (Below w.heap.size w w5) := Lib.hid (HB4.out.trans (hb.mono HB4.out.size))
  have HZ5 : Hid (w4.heap.size ≤ w5.heap.size) := Lib.hid hb.size
  have HRf5 := Lib.hid (HRf0.out.below HB5.out (Nat.le_refl _))
  have HKa5 := Lib.hid ((hb.block _ (lt_of_block HKa4.out)).trans HKa4.out)
  clear hb
  obtain ⟨px, kx, rfl⟩ := own_form ho
  have HRx5 := Lib.hid (RodsR.of_own ho)
  have HBs5_5 : Hid (Below w5.heap.size w5 w5) := Lib.hid (Below.refl _ _)
  clear ho
  clear ca0 ca1 ca2 fa0 fa1 fa2 lta
  have lta := lt_of_block HKa5.out
  obtain ⟨ca0, ca1, ca2, fa0, fa1, fa2⟩ := cell3 HKa5.out
  go_wp2_with fail
  have hb : Below w5.heap.size w5 (w5.alloc (.cells #[.int .i64 up, .int .i64 lo, .slice px rs.length kx] 28)) := (Below.refl _ _).alloc (Nat.le_refl _) _
  have hk : (w5.alloc (.cells #[.int .i64 up, .int .i64 lo, .slice px rs.length kx] 28)).heap[w5.heap.size]? = some (.cells #[.int .i64 up, .int .i64 lo, .slice px rs.length kx] 28 (0, 0)) := alloc_at rfl
  have hz : (w5.alloc (.cells #[.int .i64 up, .int .i64 lo, .slice px rs.length kx] 28)).heap.size = w5.heap.size + 1 := by simp
  generalize w5.alloc (.cells #[.int .i64 up, .int .i64 lo, .slice px rs.length kx] 28) = w6 at hb hk hz ⊢
  have HB6 : Hid (Below w.heap.size w w6) := Lib.hid (HB5.out.trans (hb.mono HB5.out.size))
  have HZ6 : Hid (w5.heap.size ≤ w6.heap.size) := Lib.hid hb.size
  have HRf6 := Lib.hid (HRf0.out.below HB6.out (Nat.le_refl _))
  have HKa6 := Lib.hid ((hb.block _ (lt_of_block HKa5.out)).trans HKa5.out)
  have HRx6 := Lib.hid (HRx5.out.below hb (Nat.le_refl _))
  have HBs5_6 : Hid (Below w5.heap.size w5 w6) := Lib.hid (HBs5_5.out.trans (hb.mono HBs5_5.out.size))
  have HKx06 := Lib.hid hk
  replace HZ6 : Hid (w5.heap.size < w6.heap.size) := Lib.hid (by omega)
  have HE6 := Lib.hid hz
  clear hb hk hz
  refine (HI.out hn _ _ HRx6.out).mono ?_
  rintro e w7 ⟨rfl, hb⟩
  have HB7 : Hid (Below w.heap.size w w7) := Lib.hid (HB6.out.trans (hb.mono HB6.out.size))
  have HZ7 : Hid (w6.heap.size ≤ w7.heap.size) := Lib.hid hb.size
  have HRf7 := Lib.hid (HRf0.out.below HB7.out (Nat.le_refl _))
  have HKa7 := Lib.hid ((hb.block _ (lt_of_block HKa6.out)).trans HKa6.out)
  have HRx7 := Lib.hid (HRx6.out.below hb (Nat.le_refl _))
  have HKx07 := Lib.hid ((hb.block _ (lt_of_block HKx06.out)).trans HKx06.out)
  have HBs5_7 : Hid (Below w5.heap.size w5 w7) := Lib.hid (HBs5_6.out.trans (hb.mono HBs5_6.out.size))
  clear hb
  clear ca0 ca1 ca2 fa0 fa1 fa2 lta
  have lta := lt_of_block HKa7.out
  obtain ⟨ca0, ca1, ca2, fa0, fa1, fa2⟩ := cell3 HKa7.out
  have ltx0 := lt_of_block HKx07.out
  obtain ⟨cx00, cx01, cx02, fx00, fx01, fx02⟩ := cell3 HKx07.out
  go_wp2_with fail
  go_region_held3 (fun w' => w'.cell? ⟨w5.heap.size, 0, none⟩ = some (.int .i64 up) ∧ w'.cell? ⟨w5.heap.size, 1, none⟩ = some (.int .i64 lo) ∧ w'.cell? ⟨w5.heap.size, 2, none⟩ = some (.slice px rs.length kx) ∧ w'.cell? ⟨w.heap.size, 0, none⟩ = some (.int .i64 up) ∧ w'.cell? ⟨w.heap.size, 1, none⟩ = some (.int .i64 lo) ∧ w'.cell? ⟨w.heap.size, 2, none⟩ = some (.slice a rs.length c))
    (first
      | go_keep
      | exact ⟨(hq1.cell (p := ⟨w5.heap.size, 0, none⟩) ltx0).trans cx00, (hq1.cell (p := ⟨w5.heap.size, 1, none⟩) ltx0).trans cx01, (hq1.cell (p := ⟨w5.heap.size, 2, none⟩) ltx0).trans cx02, (hq1.cell (p := ⟨w.heap.size, 0, none⟩) lta).trans ca0, (hq1.cell (p := ⟨w.heap.size, 1, none⟩) lta).trans ca1, (hq1.cell (p := ⟨w.heap.size, 2, none⟩) lta).trans ca2⟩)
    (first
      | (go_at_call 17; refine (toFrame_any up lo _ rs _ (HRf0.out.below HB7.out.drew (Nat.le_refl _)) hn).mono ?_; rintro e w8 ⟨⟨s7, rfl, hown7⟩, hq1⟩; obtain ⟨p7, k7, rfl⟩ := own_form hown7)
      | (go_at_call 19; refine (eqFrame_yes up lo _ _ rs _ (RodsR.below (HRx7.out) ((Below.refl _ w7).drew.trans hq1) (Nat.le_refl _)) (RodsR.of_own hown7)).mono ?_; rintro e w8 ⟨rfl, hq2⟩; replace hq1 := hq1.trans (hq2.mono hq1.size); clear hq2))
  have hb := (Below.refl _ w7).drew.trans hq1
  clear hq1 hown7
  have HB8 : Hid (Below w.heap.size w w8) := Lib.hid (HB7.out.trans (hb.mono HB7.out.size))
  have HZ8 : Hid (w7.heap.size ≤ w8.heap.size) := Lib.hid hb.size
  have HRf8 := Lib.hid (HRf0.out.below HB8.out (Nat.le_refl _))
  have HKa8 := Lib.hid ((hb.block _ (lt_of_block HKa7.out)).trans HKa7.out)
  have HRx8 := Lib.hid (HRx7.out.below hb (Nat.le_refl _))
  have HKx08 := Lib.hid ((hb.block _ (lt_of_block HKx07.out)).trans HKx07.out)
  have HBs5_8 : Hid (Below w5.heap.size w5 w8) := Lib.hid (HBs5_7.out.trans (hb.mono HBs5_7.out.size))
  clear hb
  clear ca0 ca1 ca2 fa0 fa1 fa2 lta cx00 cx01 cx02 fx00 fx01 fx02 ltx0
  have lta := lt_of_block HKa8.out
  obtain ⟨ca0, ca1, ca2, fa0, fa1, fa2⟩ := cell3 HKa8.out
  have ltx0 := lt_of_block HKx08.out
  obtain ⟨cx00, cx01, cx02, fx00, fx01, fx02⟩ := cell3 HKx08.out
  go_wp2_with fail
  go_ret
  exact ⟨rfl, HB8.out⟩
end Go.Proofs.Ytpdckmhhmgkaaaa
