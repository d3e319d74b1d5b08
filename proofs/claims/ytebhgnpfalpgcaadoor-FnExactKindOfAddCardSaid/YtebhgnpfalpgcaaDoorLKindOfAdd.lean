/- The law on KindOfAdd: it returns true where the model and the program give one answer. -/
import Derived.Test.YtebhgnpfalpgcaaDoorKa
import Derived.Deep.RegionHeld3
namespace Go.Proofs.YtebhgnpfalpgcaaDoor
set_option linter.unusedVariables false
open Go.RowKit

set_option maxRecDepth 100000 in
set_option maxHeartbeats 6400000 in
theorem lawKindOfAdd (w : World) (a0 : Int) (a1 : Int) (r0 : ByteArray) (r1 : Bool) 
    (hS : ∀ w, Calls Tryd.prog 5 #[.int .i64 a0, .int .i64 a1] w fun e w' => e = .returned (.tuple #[.string r0, .bool r1]) ∧ Below w.heap.size w w') 
    (hI : ∀ w1, Below w.heap.size w w1 → Calls Tryd.prog 6 #[.int .i64 a0, .int .i64 a1] w1 fun e w' => e = .returned (.tuple #[.string r0, .bool r1]) ∧ Below w1.heap.size w1 w') :
    Calls Tryd.prog 3 #[.int .i64 a0, .int .i64 a1] w fun e w' => e = .returned (.bool true) ∧ Below w.heap.size w w' := by
  have HS := Lib.hid hS
  have HI := Lib.hid hI
  have HB0 : Hid (Below w.heap.size w w) := Lib.hid (Below.refl _ _)
  clear hS hI
  have hr0 : (!r0.toList == r0.toList) = false := by simp
  have hr1 : (r1 != r1) = false := by simp
  go_enter Tryd.func3, Tryd.ntmps3
  go_wp2_with fail
  refine (HS.out _).mono ?_
  rintro e w1 ⟨rfl, hb⟩
  have HB1 : Hid (Below w.heap.size w w1) := Lib.hid (HB0.out.trans (hb.mono HB0.out.size))
  have HZ1 : Hid (w.heap.size ≤ w1.heap.size) := Lib.hid hb.size
  clear hb
  go_wp2_with fail
  refine (HI.out _ HB1.out).mono ?_
  rintro e w2 ⟨rfl, hb⟩
  have HB2 : Hid (Below w.heap.size w w2) := Lib.hid (HB1.out.trans (hb.mono HB1.out.size))
  have HZ2 : Hid (w1.heap.size ≤ w2.heap.size) := Lib.hid hb.size
  clear hb
  go_wp2_with fail
  go_ret
  exact ⟨rfl, HB2.out⟩
end Go.Proofs.YtebhgnpfalpgcaaDoor
