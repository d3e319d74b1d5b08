/- The law on IsPupil: it returns true where the model and the program give one answer. -/
import Derived.Test.YtkepgmdoifnkdaaPupils
import Derived.Deep.RegionHeld3
namespace Go.Proofs.Ytkepgmdoifnkdaa
set_option linter.unusedVariables false
open Go.RowKit

set_option maxRecDepth 100000 in
set_option maxHeartbeats 6400000 in
theorem lawIsPupil (p : Pu) (w : World) (hs : p.name.size ≤ maxLen) (r0 : Bool) 
    (hS : ∀ w, Calls Try.prog 15 #[puV p] w fun e w' => e = .returned (.bool r0) ∧ Below w.heap.size w w') 
    (hI : ∀ w, Calls Try.prog 17 #[puV p] w fun e w' => e = .returned (.bool r0) ∧ Below w.heap.size w w') :
    Calls Try.prog 3 #[puV p] w fun e w' => e = .returned (.bool true) ∧ Below w.heap.size w w' := by
  have HS := Lib.hid hS
  have HI := Lib.hid hI
  have HB0 : Hid (Below w.heap.size w w) := Lib.hid (Below.refl _ _)
  clear hS hI
  have hr0 : (r0 != r0) = false := by simp
  have HSZ := Lib.hid hs
  clear hs
  go_enter Try.func3, Try.ntmps3
  unfold puV
  go_wp2_with fail
  have hb : Below w.heap.size w (w.alloc (.cells #[.int .i64 p.id, .string p.name, .int .i64 p.born, .int .i64 p.cls, .int .i64 p.lvl] 23)) := (Below.refl _ _).alloc (Nat.le_refl _) _
  have hk : (w.alloc (.cells #[.int .i64 p.id, .string p.name, .int .i64 p.born, .int .i64 p.cls, .int .i64 p.lvl] 23)).heap[w.heap.size]? = some (.cells #[.int .i64 p.id, .string p.name, .int .i64 p.born, .int .i64 p.cls, .int .i64 p.lvl] 23 (0, 0)) := alloc_at rfl
  have hz : (w.alloc (.cells #[.int .i64 p.id, .string p.name, .int .i64 p.born, .int .i64 p.cls, .int .i64 p.lvl] 23)).heap.size = w.heap.size + 1 := by simp
  generalize w.alloc (.cells #[.int .i64 p.id, .string p.name, .int .i64 p.born, .int .i64 p.cls, .int .i64 p.lvl] 23) = w1 at hb hk hz ⊢
  have HB1 : Hid (Below w.heap.size w w1) := Lib.hid (HB0.out.trans (hb.mono HB0.out.size))
  have HZ1 : Hid (w.heap.size ≤ w1.heap.size) := Lib.hid hb.size
  have HKa1 := Lib.hid hk
  replace HZ1 : Hid (w.heap.size < w1.heap.size) := Lib.hid (by omega)
  have HE1 := Lib.hid hz
  clear hb hk hz
  refine (szPupil_any p 1048576 _ (by omega) (by omega) HSZ.out).mono ?_
  rintro e w2 ⟨⟨r, rfl, hr1, hr2⟩, hb⟩
  have HB2 : Hid (Below w.heap.size w w2) := Lib.hid (HB1.out.trans (hb.mono HB1.out.size))
  have HZ2 : Hid (w1.heap.size ≤ w2.heap.size) := Lib.hid hb.size
  have HKa2 := Lib.hid ((hb.block _ (lt_of_block HKa1.out)).trans HKa1.out)
  clear hb
  by_cases hr : r < 0
  · clear hr2
    have lta := lt_of_block HKa2.out
    obtain ⟨ca0, ca1, ca2, ca3, ca4, fa0, fa1, fa2, fa3, fa4⟩ := cell5 HKa2.out
    go_wp2_with fail
    go_ret
    exact ⟨rfl, HB2.out⟩
  clear hr2
  have lta := lt_of_block HKa2.out
  obtain ⟨ca0, ca1, ca2, ca3, ca4, fa0, fa1, fa2, fa3, fa4⟩ := cell5 HKa2.out
  go_wp2_with fail
  refine (toPupil_any p _).mono ?_
  rintro e w3 ⟨rfl, hb⟩
  have HB3 : Hid (Below w.heap.size w w3) := Lib.hid (HB2.out.trans (hb.mono HB2.out.size))
  have HZ3 : Hid (w2.heap.size ≤ w3.heap.size) := Lib.hid hb.size
  have HKa3 := Lib.hid ((hb.block _ (lt_of_block HKa2.out)).trans HKa2.out)
  clear hb
  clear ca0 ca1 ca2 ca3 ca4 fa0 fa1 fa2 fa3 fa4 lta
  have lta := lt_of_block HKa3.out
  obtain ⟨ca0, ca1, ca2, ca3, ca4, fa0, fa1, fa2, fa3, fa4⟩ := cell5 HKa3.out
  go_wp2_with fail
  refine (HS.out _).mono ?_
  rintro e w4 ⟨rfl, hb⟩
  have HB4 : Hid (Below w.heap.size w w4) := Lib.hid (HB3.out.trans (hb.mono HB3.out.size))
  have HZ4 : Hid (w3.heap.size ≤ w4.heap.size) := Lib.hid hb.size
  have HKa4 := Lib.hid ((hb.block _ (lt_of_block HKa3.out)).trans HKa3.out)
  clear hb
  clear ca0 ca1 ca2 ca3 ca4 fa0 fa1 fa2 fa3 fa4 lta
  have lta := lt_of_block HKa4.out
  obtain ⟨ca0, ca1, ca2, ca3, ca4, fa0, fa1, fa2, fa3, fa4⟩ := cell5 HKa4.out
  go_wp2_with fail
  refine (toPupil_any p _).mono ?_
  rintro e w5 ⟨rfl, hb⟩
  have HB5 : Hid (Below w.heap.size w w5) := Lib.hid (HB4.out.trans (hb.mono HB4.out.size))
  have HZ5 : Hid (w4.heap.size ≤ w5.heap.size) := Lib.hid hb.size
  have HKa5 := Lib.hid ((hb.block _ (lt_of_block HKa4.out)).trans HKa4.out)
  clear hb
  clear ca0 ca1 ca2 ca3 ca4 fa0 fa1 fa2 fa3 fa4 lta
  have lta := lt_of_block HKa5.out
  obtain ⟨ca0, ca1, ca2, ca3, ca4, fa0, fa1, fa2, fa3, fa4⟩ := cell5 HKa5.out
  go_wp2_with fail
  refine (HI.out _).mono ?_
  rintro e w6 ⟨rfl, hb⟩
  have HB6 : Hid (Below w.heap.size w w6) := Lib.hid (HB5.out.trans (hb.mono HB5.out.size))
  have HZ6 : Hid (w5.heap.size ≤ w6.heap.size) := Lib.hid hb.size
  have HKa6 := Lib.hid ((hb.block _ (lt_of_block HKa5.out)).trans HKa5.out)
  clear hb
  clear ca0 ca1 ca2 ca3 ca4 fa0 fa1 fa2 fa3 fa4 lta
  have lta := lt_of_block HKa6.out
  obtain ⟨ca0, ca1, ca2, ca3, ca4, fa0, fa1, fa2, fa3, fa4⟩ := cell5 HKa6.out
  go_wp2_with fail
  go_ret
  exact ⟨rfl, HB6.out⟩
end Go.Proofs.Ytkepgmdoifnkdaa
