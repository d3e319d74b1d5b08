/- The law on PairsOf: it returns true where the model and the program give one answer. -/
import Derived.Test.YtlfplnbmgmookaaInts
import Derived.Test.YtlfplnbmgmookaaKa
namespace Go.Proofs.Ytlfplnbmgmookaa
set_option linter.unusedVariables false
open Go.RowKit

set_option maxRecDepth 100000 in
set_option maxHeartbeats 3200000 in
theorem lawPairsOf (w : World) (a0 : Int) (qs : List Int) (hq : qs.length ≤ 1000) (r1 : Bool) 
    (hS : ∀ w, Calls Try.prog 28 #[.int .i64 a0] w fun e w' => (∃ sq, e = .returned (.tuple #[sq, .bool r1]) ∧ RowsR 1 inC w' sq qs) ∧ Below w.heap.size w w') 
    (hI : ∀ w, Calls Try.prog 27 #[.int .i64 a0] w fun e w' => (∃ sq, e = .returned (.tuple #[sq, .bool r1]) ∧ w'.ownsRow w.heap.size 3 1 sq qs.length (flatC inC qs)) ∧ Below w.heap.size w w') :
    Calls Try.prog 5 #[.int .i64 a0] w fun e w' => e = .returned (.bool true) ∧ Below w.heap.size w w' := by
  have HS := Lib.hid hS
  have HI := Lib.hid hI
  clear hS hI
  have hqk : ¬ (1 + (qs.length : Int) < 0) := by omega
  have hqk' : ((1 + (qs.length : Int)) != (1 + (qs.length : Int))) = false := by simp
  have hr1 : (r1 != r1) = false := by simp
  have HB0 : Hid (Below w.heap.size w w) := Lib.hid (Below.refl _ _)
  go_enter Try.func5, Try.ntmps5
  go_wp2_with fail
  refine (HS.out _).mono ?_
  rintro e w1 ⟨⟨sw, rfl, ho⟩, hb⟩
  have HB1 : Hid (Below w.heap.size w w1) := Lib.hid (HB0.out.trans (hb.mono HB0.out.size))
  have HZ1 : Hid (w.heap.size ≤ w1.heap.size) := Lib.hid hb.size
  clear hb
  obtain ⟨pw, kw, rfl⟩ := ho.form
  have HRw1 := Lib.hid (ho)
  have HBs1_1 : Hid (Below w1.heap.size w1 w1) := Lib.hid (Below.refl _ _)
  clear ho
  go_wp2_with fail
  refine (HI.out _).mono ?_
  rintro e w2 ⟨⟨sg, rfl, ho⟩, hb⟩
  have HB2 : Hid (Below w.heap.size w w2) := Lib.hid (HB1.out.trans (hb.mono HB1.out.size))
  have HZ2 : Hid (w1.heap.size ≤ w2.heap.size) := Lib.hid hb.size
  have HRw2 := Lib.hid (HRw1.out.below hb (Nat.le_refl _))
  have HBs1_2 : Hid (Below w1.heap.size w1 w2) := Lib.hid (HBs1_1.out.trans (hb.mono HBs1_1.out.size))
  clear hb
  obtain ⟨pg, kg, rfl⟩ := own_form ho
  have HOg2 := Lib.hid (Ow.mk' ho)
  clear ho
  go_wp2_with fail
  refine (eqIntS_yes _ _ qs _ (RowsR.of_own inC_len HOg2.out.1) HRw2.out).mono ?_
  rintro e w3 ⟨rfl, hb⟩
  have HB3 : Hid (Below w.heap.size w w3) := Lib.hid (HB2.out.trans (hb.mono HB2.out.size))
  have HZ3 : Hid (w2.heap.size ≤ w3.heap.size) := Lib.hid hb.size
  have HRw3 := Lib.hid (HRw2.out.below hb (Nat.le_refl _))
  have HOg3 := Lib.hid (HOg2.out.next hb)
  have HBs1_3 : Hid (Below w1.heap.size w1 w3) := Lib.hid (HBs1_2.out.trans (hb.mono HBs1_2.out.size))
  clear hb
  go_wp2_with fail
  refine (markIntS_any _ qs.length 1 _ _ _ _ _ HOg3.out (by omega) (by omega)).mono ?_
  rintro e w4 ⟨rfl, ho, hm⟩
  have HZ4 : Hid (w3.heap.size ≤ w4.heap.size) := Lib.hid hm.size
  have HB4 : Hid (Below w.heap.size w w4) := Lib.hid (HB3.out.trans (hm.below.mono (by have := HZ1.out; have := HZ2.out; have := HZ3.out; have := HB0.out.size; omega)))
  have HRw4 := Lib.hid (HRw1.out.below (HBs1_3.out.trans (hm.below.mono (by have := HZ1.out; have := HZ2.out; have := HZ3.out; omega))) (Nat.le_refl _))
  have HBs1_4 : Hid (Below w1.heap.size w1 w4) := Lib.hid (HBs1_3.out.trans (hm.below.mono (by have := HZ1.out; have := HZ2.out; have := HZ3.out; omega)))
  clear hm
  have HOg4 := Lib.hid (ho)
  clear ho
  go_wp2_with fail
  refine (heldIntS_any _ qs.length 1 _ (RowsR.of_own inC_len (own_relen' (mksI_len 1 qs.length) HOg4.out.1)) (by omega) (by omega)).mono ?_
  rintro e w5 ⟨rfl, hb⟩
  have HB5 : Hid (Below w.heap.size w w5) := Lib.hid (HB4.out.trans (hb.mono HB4.out.size))
  have HZ5 : Hid (w4.heap.size ≤ w5.heap.size) := Lib.hid hb.size
  have HRw5 := Lib.hid (HRw4.out.below hb (Nat.le_refl _))
  have HOg5 := Lib.hid (HOg4.out.next hb)
  have HBs1_5 : Hid (Below w1.heap.size w1 w5) := Lib.hid (HBs1_4.out.trans (hb.mono HBs1_4.out.size))
  clear hb
  go_wp2_with fail
  refine (HI.out _).mono ?_
  rintro e w6 ⟨⟨sh, rfl, ho⟩, hb⟩
  have HB6 : Hid (Below w.heap.size w w6) := Lib.hid (HB5.out.trans (hb.mono HB5.out.size))
  have HZ6 : Hid (w5.heap.size ≤ w6.heap.size) := Lib.hid hb.size
  have HRw6 := Lib.hid (HRw5.out.below hb (Nat.le_refl _))
  have HOg6 := Lib.hid (HOg5.out.next hb)
  have HBs1_6 : Hid (Below w1.heap.size w1 w6) := Lib.hid (HBs1_5.out.trans (hb.mono HBs1_5.out.size))
  clear hb
  obtain ⟨ph, kh, rfl⟩ := own_form ho
  have HOh6 := Lib.hid (Ow.mk' ho)
  clear ho
  go_wp2_with fail
  refine (eqIntS_yes _ _ qs _ (RowsR.of_own inC_len HOh6.out.1) HRw6.out).mono ?_
  rintro e w7 ⟨rfl, hb⟩
  have HB7 : Hid (Below w.heap.size w w7) := Lib.hid (HB6.out.trans (hb.mono HB6.out.size))
  have HZ7 : Hid (w6.heap.size ≤ w7.heap.size) := Lib.hid hb.size
  have HRw7 := Lib.hid (HRw6.out.below hb (Nat.le_refl _))
  have HOg7 := Lib.hid (HOg6.out.next hb)
  have HOh7 := Lib.hid (HOh6.out.next hb)
  have HBs1_7 : Hid (Below w1.heap.size w1 w7) := Lib.hid (HBs1_6.out.trans (hb.mono HBs1_6.out.size))
  clear hb
  go_wp2_with fail
  refine (heldIntS_any _ qs.length 1 _ (RowsR.of_own inC_len (own_relen' (mksI_len 1 qs.length) HOg7.out.1)) (by omega) (by omega)).mono ?_
  rintro e w8 ⟨rfl, hb⟩
  have HB8 : Hid (Below w.heap.size w w8) := Lib.hid (HB7.out.trans (hb.mono HB7.out.size))
  have HZ8 : Hid (w7.heap.size ≤ w8.heap.size) := Lib.hid hb.size
  have HRw8 := Lib.hid (HRw7.out.below hb (Nat.le_refl _))
  have HOg8 := Lib.hid (HOg7.out.next hb)
  have HOh8 := Lib.hid (HOh7.out.next hb)
  have HBs1_8 : Hid (Below w1.heap.size w1 w8) := Lib.hid (HBs1_7.out.trans (hb.mono HBs1_7.out.size))
  clear hb
  go_wp2_with fail
  go_ret
  exact ⟨rfl, HB8.out⟩
end Go.Proofs.Ytlfplnbmgmookaa
