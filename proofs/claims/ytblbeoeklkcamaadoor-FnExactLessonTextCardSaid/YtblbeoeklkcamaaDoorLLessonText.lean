/- The law on LessonText: it returns true where the model and the program give one answer. -/
import Derived.Test.YtblbeoeklkcamaaDoorLessons
import Derived.Test.YtblbeoeklkcamaaDoorKa
import Derived.Deep.RegionHeld3
namespace Go.Proofs.YtblbeoeklkcamaaDoor
set_option linter.unusedVariables false
open Go.RowKit

set_option maxRecDepth 100000 in
set_option maxHeartbeats 6400000 in
theorem lawLessonText (w : World) (q0 : Les) (r0 : ByteArray) (r1 : Bool) 
    (hS : ∀ w, Calls Tryd.prog 20 #[lesV q0] w fun e w' => e = .returned (.tuple #[.string r0, .bool r1]) ∧ Below w.heap.size w w') 
    (hI : ∀ w1, Below w.heap.size w w1 → Calls Tryd.prog 19 #[lesV q0] w1 fun e w' => e = .returned (.tuple #[.string r0, .bool r1]) ∧ Below w1.heap.size w1 w') :
    Calls Tryd.prog 4 #[lesV q0] w fun e w' => e = .returned (.bool true) ∧ Below w.heap.size w w' := by
  have HS := Lib.hid hS
  have HI := Lib.hid hI
  have HB0 : Hid (Below w.heap.size w w) := Lib.hid (Below.refl _ _)
  clear hS hI
  have hr0 : (!r0.toList == r0.toList) = false := by simp
  have hr1 : (r1 != r1) = false := by simp
  go_enter Tryd.func4, Tryd.ntmps4
  unfold lesV
  go_wp2_with fail
  have hb : Below w.heap.size w (w.alloc (.cells #[.int .i64 q0.id, .int .i64 q0.cls, .int .i64 q0.tch, .int .i64 q0.room, .int .i64 q0.day, .int .i64 q0.bgn, .int .i64 q0.mins] 47)) := (Below.refl _ _).alloc (Nat.le_refl _) _
  have hk : (w.alloc (.cells #[.int .i64 q0.id, .int .i64 q0.cls, .int .i64 q0.tch, .int .i64 q0.room, .int .i64 q0.day, .int .i64 q0.bgn, .int .i64 q0.mins] 47)).heap[w.heap.size]? = some (.cells #[.int .i64 q0.id, .int .i64 q0.cls, .int .i64 q0.tch, .int .i64 q0.room, .int .i64 q0.day, .int .i64 q0.bgn, .int .i64 q0.mins] 47 (0, 0)) := alloc_at rfl
  have hz : (w.alloc (.cells #[.int .i64 q0.id, .int .i64 q0.cls, .int .i64 q0.tch, .int .i64 q0.room, .int .i64 q0.day, .int .i64 q0.bgn, .int .i64 q0.mins] 47)).heap.size = w.heap.size + 1 := by simp
  generalize w.alloc (.cells #[.int .i64 q0.id, .int .i64 q0.cls, .int .i64 q0.tch, .int .i64 q0.room, .int .i64 q0.day, .int .i64 q0.bgn, .int .i64 q0.mins] 47) = w1 at hb hk hz ⊢
  have HB1 : Hid (Below w.heap.size w w1) := Lib.hid (HB0.out.trans (hb.mono HB0.out.size))
  have HZ1 : Hid (w.heap.size ≤ w1.heap.size) := Lib.hid hb.size
  have HKa01 := Lib.hid hk
  replace HZ1 : Hid (w.heap.size < w1.heap.size) := Lib.hid (by omega)
  have HE1 := Lib.hid hz
  clear hb hk hz
  refine (toLesson_any q0 _).mono ?_
  rintro e w2 ⟨rfl, hb⟩
  have HB2 : Hid (Below w.heap.size w w2) := Lib.hid (HB1.out.trans (hb.mono HB1.out.size))
  have HZ2 : Hid (w1.heap.size ≤ w2.heap.size) := Lib.hid hb.size
  have HKa02 := Lib.hid ((hb.block _ (lt_of_block HKa01.out)).trans HKa01.out)
  clear hb
  have lta0 := lt_of_block HKa02.out
  obtain ⟨ca00, ca01, ca02, ca03, ca04, ca05, ca06, fa00, fa01, fa02, fa03, fa04, fa05, fa06⟩ := cell7 HKa02.out
  go_wp2_with fail
  refine (HS.out _).mono ?_
  rintro e w3 ⟨rfl, hb⟩
  have HB3 : Hid (Below w.heap.size w w3) := Lib.hid (HB2.out.trans (hb.mono HB2.out.size))
  have HZ3 : Hid (w2.heap.size ≤ w3.heap.size) := Lib.hid hb.size
  have HKa03 := Lib.hid ((hb.block _ (lt_of_block HKa02.out)).trans HKa02.out)
  clear hb
  clear ca00 ca01 ca02 ca03 ca04 ca05 ca06 fa00 fa01 fa02 fa03 fa04 fa05 fa06 lta0
  have lta0 := lt_of_block HKa03.out
  obtain ⟨ca00, ca01, ca02, ca03, ca04, ca05, ca06, fa00, fa01, fa02, fa03, fa04, fa05, fa06⟩ := cell7 HKa03.out
  go_wp2_with fail
  refine (toLesson_any q0 _).mono ?_
  rintro e w4 ⟨rfl, hb⟩
  have HB4 : Hid (Below w.heap.size w w4) := Lib.hid (HB3.out.trans (hb.mono HB3.out.size))
  have HZ4 : Hid (w3.heap.size ≤ w4.heap.size) := Lib.hid hb.size
  have HKa04 := Lib.hid ((hb.block _ (lt_of_block HKa03.out)).trans HKa03.out)
  clear hb
  clear ca00 ca01 ca02 ca03 ca04 ca05 ca06 fa00 fa01 fa02 fa03 fa04 fa05 fa06 lta0
  have lta0 := lt_of_block HKa04.out
  obtain ⟨ca00, ca01, ca02, ca03, ca04, ca05, ca06, fa00, fa01, fa02, fa03, fa04, fa05, fa06⟩ := cell7 HKa04.out
  go_wp2_with fail
  refine (HI.out _ HB4.out).mono ?_
  rintro e w5 ⟨rfl, hb⟩
  have HB5 : Hid (Below w.heap.size w w5) := Lib.hid (HB4.out.trans (hb.mono HB4.out.size))
  have HZ5 : Hid (w4.heap.size ≤ w5.heap.size) := Lib.hid hb.size
  have HKa05 := Lib.hid ((hb.block _ (lt_of_block HKa04.out)).trans HKa04.out)
  clear hb
  clear ca00 ca01 ca02 ca03 ca04 ca05 ca06 fa00 fa01 fa02 fa03 fa04 fa05 fa06 lta0
  have lta0 := lt_of_block HKa05.out
  obtain ⟨ca00, ca01, ca02, ca03, ca04, ca05, ca06, fa00, fa01, fa02, fa03, fa04, fa05, fa06⟩ := cell7 HKa05.out
  go_wp2_with fail
  go_ret
  exact ⟨rfl, HB5.out⟩
end Go.Proofs.YtblbeoeklkcamaaDoor
