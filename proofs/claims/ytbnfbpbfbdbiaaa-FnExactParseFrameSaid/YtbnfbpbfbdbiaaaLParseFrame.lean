/- The law on ParseFrame: it returns true where the model and the program give one answer. -/
import Derived.Test.YtbnfbpbfbdbiaaaFrm
import Derived.Test.YtbnfbpbfbdbiaaaIFrame
import Derived.Deep.RegionHeld3
import Derived.Test.YtbnfbpbfbdbiaaaMk
namespace Go.Proofs.Ytbnfbpbfbdbiaaa
set_option linter.unusedVariables false
open Go.RowKit

set_option maxRecDepth 100000 in
set_option maxHeartbeats 6400000 in
theorem lawParseFrame (w : World) (a0 : ByteArray) (m0 : a0.size ≤ maxLen) (fu fl : Int) (qs : List (Int × Int)) (hq : qs.length ≤ 1000) (r1 : Bool) 
    (hS : a0.size ≤ 1048576 → ∀ w, Calls Try.prog 49 #[.string a0] w fun e w' => (∃ sq, e = .returned (.tuple #[.agg #[.int .i64 fu, .int .i64 fl, sq], .bool r1]) ∧ RodsR w' sq qs) ∧ Below w.heap.size w w') 
    (hI : a0.size ≤ 1048576 → ∀ w, Calls Try.prog 50 #[.string a0] w fun e w' => (∃ sq, e = .returned (.tuple #[.agg #[.int .i64 fu, .int .i64 fl, sq], .bool r1]) ∧ w'.ownsRow w.heap.size 69 2 sq qs.length (flat qs)) ∧ Below w.heap.size w w') :
    Calls Try.prog 14 #[.string a0] w fun e w' => e = .returned (.bool true) ∧ Below w.heap.size w w' := by
  have HS := Lib.hid hS
  have HI := Lib.hid hI
  have hqk : ¬ (1 + 2 * (qs.length : Int) < 0) := by omega
  have hqk' : ((1 + 2 * (qs.length : Int)) != (1 + 2 * (qs.length : Int))) = false := by simp
  have HB0 : Hid (Below w.heap.size w w) := Lib.hid (Below.refl _ _)
  clear hS hI
  have hr1 : (r1 != r1) = false := by simp
  have hm0 : a0.size ≤ 9223372036854775807 := m0
  by_cases hx0 : 1048576 < a0.size
  · go_enter Try.func14, Try.ntmps14
    go_wp2_with fail
    go_ret
    exact ⟨rfl, Below.refl _ _⟩
  have hn0 : a0.size ≤ 1048576 := by omega
  go_enter Try.func14, Try.ntmps14
  go_wp2_with fail
  refine (HS.out hn0 _).mono ?_
  rintro e w1 ⟨⟨sw, rfl, ho⟩, hb⟩
  have HB1 : Hid (Below w.heap.size w w1) := Lib.hid (HB0.out.trans (hb.mono HB0.out.size))
  have HZ1 : Hid (w.heap.size ≤ w1.heap.size) := Lib.hid hb.size
  clear hb
  obtain ⟨pw, kw, rfl⟩ : ∃ a c, sw = .slice a qs.length c := by obtain ⟨a, c, e, _⟩ := ho; exact ⟨a, c, e⟩
  have HRw1 := Lib.hid (ho)
  have HBs1_1 : Hid (Below w1.heap.size w1 w1) := Lib.hid (Below.refl _ _)
  clear ho
  go_wp2_with fail
  have hb : Below w1.heap.size w1 (w1.alloc (.cells #[.int .i64 fu, .int .i64 fl, .slice pw qs.length kw] 28)) := (Below.refl _ _).alloc (Nat.le_refl _) _
  have hk : (w1.alloc (.cells #[.int .i64 fu, .int .i64 fl, .slice pw qs.length kw] 28)).heap[w1.heap.size]? = some (.cells #[.int .i64 fu, .int .i64 fl, .slice pw qs.length kw] 28 (0, 0)) := alloc_at rfl
  have hz : (w1.alloc (.cells #[.int .i64 fu, .int .i64 fl, .slice pw qs.length kw] 28)).heap.size = w1.heap.size + 1 := by simp
  generalize w1.alloc (.cells #[.int .i64 fu, .int .i64 fl, .slice pw qs.length kw] 28) = w2 at hb hk hz ⊢
  have HB2 : Hid (Below w.heap.size w w2) := Lib.hid (HB1.out.trans (hb.mono HB1.out.size))
  have HZ2 : Hid (w1.heap.size ≤ w2.heap.size) := Lib.hid hb.size
  have HRw2 := Lib.hid (HRw1.out.below hb (Nat.le_refl _))
  have HBs1_2 : Hid (Below w1.heap.size w1 w2) := Lib.hid (HBs1_1.out.trans (hb.mono HBs1_1.out.size))
  have HKw02 := Lib.hid hk
  replace HZ2 : Hid (w1.heap.size < w2.heap.size) := Lib.hid (by omega)
  have HE2 := Lib.hid hz
  clear hb hk hz
  refine (HI.out hn0 _).mono ?_
  rintro e w3 ⟨⟨sg, rfl, ho⟩, hb⟩
  have HB3 : Hid (Below w.heap.size w w3) := Lib.hid (HB2.out.trans (hb.mono HB2.out.size))
  have HZ3 : Hid (w2.heap.size ≤ w3.heap.size) := Lib.hid hb.size
  have HRw3 := Lib.hid (HRw2.out.below hb (Nat.le_refl _))
  have HKw03 := Lib.hid ((hb.block _ (lt_of_block HKw02.out)).trans HKw02.out)
  have HBs1_3 : Hid (Below w1.heap.size w1 w3) := Lib.hid (HBs1_2.out.trans (hb.mono HBs1_2.out.size))
  clear hb
  obtain ⟨pg, kg, rfl⟩ := own_form ho
  have HOg3 := Lib.hid (Ow.mk' ho)
  clear ho
  have ltw0 := lt_of_block HKw03.out
  obtain ⟨cw00, cw01, cw02, fw00, fw01, fw02⟩ := cell3 HKw03.out
  go_wp2_with fail
  have hb : Below w3.heap.size w3 (w3.alloc (.cells #[.int .i64 fu, .int .i64 fl, .slice pg qs.length kg] 28)) := (Below.refl _ _).alloc (Nat.le_refl _) _
  have hk : (w3.alloc (.cells #[.int .i64 fu, .int .i64 fl, .slice pg qs.length kg] 28)).heap[w3.heap.size]? = some (.cells #[.int .i64 fu, .int .i64 fl, .slice pg qs.length kg] 28 (0, 0)) := alloc_at rfl
  have hz : (w3.alloc (.cells #[.int .i64 fu, .int .i64 fl, .slice pg qs.length kg] 28)).heap.size = w3.heap.size + 1 := by simp
  generalize w3.alloc (.cells #[.int .i64 fu, .int .i64 fl, .slice pg qs.length kg] 28) = w4 at hb hk hz ⊢
  have HB4 : Hid (Below w.heap.size w w4) := Lib.hid (HB3.out.trans (hb.mono HB3.out.size))
  have HZ4 : Hid (w3.heap.size ≤ w4.heap.size) := Lib.hid hb.size
  have HRw4 := Lib.hid (HRw3.out.below hb (Nat.le_refl _))
  have HKw04 := Lib.hid ((hb.block _ (lt_of_block HKw03.out)).trans HKw03.out)
  have HOg4 := Lib.hid (HOg3.out.next hb)
  have HBs1_4 : Hid (Below w1.heap.size w1 w4) := Lib.hid (HBs1_3.out.trans (hb.mono HBs1_3.out.size))
  have HKg04 := Lib.hid hk
  replace HZ4 : Hid (w3.heap.size < w4.heap.size) := Lib.hid (by omega)
  have HE4 := Lib.hid hz
  clear hb hk hz
  refine (eqFrame_yes fu fl _ _ qs _ (RodsR.of_own HOg4.out.1) HRw4.out).mono ?_
  rintro e w5 ⟨rfl, hb⟩
  have HB5 : Hid (Below w.heap.size w w5) := Lib.hid (HB4.out.trans (hb.mono HB4.out.size))
  have HZ5 : Hid (w4.heap.size ≤ w5.heap.size) := Lib.hid hb.size
  have HRw5 := Lib.hid (HRw4.out.below hb (Nat.le_refl _))
  have HKw05 := Lib.hid ((hb.block _ (lt_of_block HKw04.out)).trans HKw04.out)
  have HOg5 := Lib.hid (HOg4.out.next hb)
  have HKg05 := Lib.hid ((hb.block _ (lt_of_block HKg04.out)).trans HKg04.out)
  have HBs1_5 : Hid (Below w1.heap.size w1 w5) := Lib.hid (HBs1_4.out.trans (hb.mono HBs1_4.out.size))
  clear hb
  clear cw00 cw01 cw02 fw00 fw01 fw02 ltw0
  have ltw0 := lt_of_block HKw05.out
  obtain ⟨cw00, cw01, cw02, fw00, fw01, fw02⟩ := cell3 HKw05.out
  have ltg0 := lt_of_block HKg05.out
  obtain ⟨cg00, cg01, cg02, fg00, fg01, fg02⟩ := cell3 HKg05.out
  go_wp2_with fail
  refine (markFrame_any fu fl _ qs.length _ _ _ _ HOg5.out (by omega) (by have := HZ1.out; have := HZ2.out; have := HZ3.out; have := HZ4.out; have := HZ5.out;  omega)).mono ?_
  rintro e w6 ⟨rfl, ho, hm⟩
  have HZ6 : Hid (w5.heap.size ≤ w6.heap.size) := Lib.hid hm.size
  have HB6 : Hid (Below w.heap.size w w6) := Lib.hid (HB5.out.trans (hm.below.mono (by have := HZ1.out; have := HZ2.out; have := HZ3.out; have := HZ4.out; have := HZ5.out; have := HB0.out.size; omega)))
  have HRw6 := Lib.hid (HRw1.out.below (HBs1_5.out.trans (hm.below.mono (by have := HZ1.out; have := HZ2.out; have := HZ3.out; have := HZ4.out; have := HZ5.out; omega))) (Nat.le_refl _))
  have HKw06 := Lib.hid ((hm.block _ (by have := lt_of_block HKw05.out; have := HZ1.out; have := HZ2.out; have := HZ3.out; have := HZ4.out; have := HZ5.out; omega)).trans HKw05.out)
  have HKg06 := Lib.hid ((hm.block _ (by have := lt_of_block HKg05.out; have := HZ1.out; have := HZ2.out; have := HZ3.out; have := HZ4.out; have := HZ5.out; omega)).trans HKg05.out)
  have HBs1_6 : Hid (Below w1.heap.size w1 w6) := Lib.hid (HBs1_5.out.trans (hm.below.mono (by have := HZ1.out; have := HZ2.out; have := HZ3.out; have := HZ4.out; have := HZ5.out; omega)))
  clear hm
  have HOg6 := Lib.hid (ho)
  clear ho
  clear cw00 cw01 cw02 fw00 fw01 fw02 ltw0 cg00 cg01 cg02 fg00 fg01 fg02 ltg0
  have ltw0 := lt_of_block HKw06.out
  obtain ⟨cw00, cw01, cw02, fw00, fw01, fw02⟩ := cell3 HKw06.out
  have ltg0 := lt_of_block HKg06.out
  obtain ⟨cg00, cg01, cg02, fg00, fg01, fg02⟩ := cell3 HKg06.out
  go_wp2_with fail
  refine (heldFrame_any fu fl _ qs.length _ (RowR.of_own HOg6.out.1) (by omega)).mono ?_
  rintro e w7 ⟨rfl, hb⟩
  have HB7 : Hid (Below w.heap.size w w7) := Lib.hid (HB6.out.trans (hb.mono HB6.out.size))
  have HZ7 : Hid (w6.heap.size ≤ w7.heap.size) := Lib.hid hb.size
  have HRw7 := Lib.hid (HRw6.out.below hb (Nat.le_refl _))
  have HKw07 := Lib.hid ((hb.block _ (lt_of_block HKw06.out)).trans HKw06.out)
  have HOg7 := Lib.hid (HOg6.out.next hb)
  have HKg07 := Lib.hid ((hb.block _ (lt_of_block HKg06.out)).trans HKg06.out)
  have HBs1_7 : Hid (Below w1.heap.size w1 w7) := Lib.hid (HBs1_6.out.trans (hb.mono HBs1_6.out.size))
  clear hb
  clear cw00 cw01 cw02 fw00 fw01 fw02 ltw0 cg00 cg01 cg02 fg00 fg01 fg02 ltg0
  have ltw0 := lt_of_block HKw07.out
  obtain ⟨cw00, cw01, cw02, fw00, fw01, fw02⟩ := cell3 HKw07.out
  have ltg0 := lt_of_block HKg07.out
  obtain ⟨cg00, cg01, cg02, fg00, fg01, fg02⟩ := cell3 HKg07.out
  go_wp2_with fail
  refine (HI.out hn0 _).mono ?_
  rintro e w8 ⟨⟨sh, rfl, ho⟩, hb⟩
  have HB8 : Hid (Below w.heap.size w w8) := Lib.hid (HB7.out.trans (hb.mono HB7.out.size))
  have HZ8 : Hid (w7.heap.size ≤ w8.heap.size) := Lib.hid hb.size
  have HRw8 := Lib.hid (HRw7.out.below hb (Nat.le_refl _))
  have HKw08 := Lib.hid ((hb.block _ (lt_of_block HKw07.out)).trans HKw07.out)
  have HOg8 := Lib.hid (HOg7.out.next hb)
  have HKg08 := Lib.hid ((hb.block _ (lt_of_block HKg07.out)).trans HKg07.out)
  have HBs1_8 : Hid (Below w1.heap.size w1 w8) := Lib.hid (HBs1_7.out.trans (hb.mono HBs1_7.out.size))
  clear hb
  obtain ⟨ph, kh, rfl⟩ := own_form ho
  have HOh8 := Lib.hid (Ow.mk' ho)
  clear ho
  clear cw00 cw01 cw02 fw00 fw01 fw02 ltw0 cg00 cg01 cg02 fg00 fg01 fg02 ltg0
  have ltw0 := lt_of_block HKw08.out
  obtain ⟨cw00, cw01, cw02, fw00, fw01, fw02⟩ := cell3 HKw08.out
  have ltg0 := lt_of_block HKg08.out
  obtain ⟨cg00, cg01, cg02, fg00, fg01, fg02⟩ := cell3 HKg08.out
  go_wp2_with fail
  have hb : Below w8.heap.size w8 (w8.alloc (.cells #[.int .i64 fu, .int .i64 fl, .slice ph qs.length kh] 28)) := (Below.refl _ _).alloc (Nat.le_refl _) _
  have hk : (w8.alloc (.cells #[.int .i64 fu, .int .i64 fl, .slice ph qs.length kh] 28)).heap[w8.heap.size]? = some (.cells #[.int .i64 fu, .int .i64 fl, .slice ph qs.length kh] 28 (0, 0)) := alloc_at rfl
  have hz : (w8.alloc (.cells #[.int .i64 fu, .int .i64 fl, .slice ph qs.length kh] 28)).heap.size = w8.heap.size + 1 := by simp
  generalize w8.alloc (.cells #[.int .i64 fu, .int .i64 fl, .slice ph qs.length kh] 28) = w9 at hb hk hz ⊢
  have HB9 : Hid (Below w.heap.size w w9) := Lib.hid (HB8.out.trans (hb.mono HB8.out.size))
  have HZ9 : Hid (w8.heap.size ≤ w9.heap.size) := Lib.hid hb.size
  have HRw9 := Lib.hid (HRw8.out.below hb (Nat.le_refl _))
  have HKw09 := Lib.hid ((hb.block _ (lt_of_block HKw08.out)).trans HKw08.out)
  have HOg9 := Lib.hid (HOg8.out.next hb)
  have HKg09 := Lib.hid ((hb.block _ (lt_of_block HKg08.out)).trans HKg08.out)
  have HOh9 := Lib.hid (HOh8.out.next hb)
  have HBs1_9 : Hid (Below w1.heap.size w1 w9) := Lib.hid (HBs1_8.out.trans (hb.mono HBs1_8.out.size))
  have HKh09 := Lib.hid hk
  replace HZ9 : Hid (w8.heap.size < w9.heap.size) := Lib.hid (by omega)
  have HE9 := Lib.hid hz
  clear hb hk hz
  refine (eqFrame_yes fu fl _ _ qs _ (RodsR.of_own HOh9.out.1) HRw9.out).mono ?_
  rintro e w10 ⟨rfl, hb⟩
  have HB10 : Hid (Below w.heap.size w w10) := Lib.hid (HB9.out.trans (hb.mono HB9.out.size))
  have HZ10 : Hid (w9.heap.size ≤ w10.heap.size) := Lib.hid hb.size
  have HRw10 := Lib.hid (HRw9.out.below hb (Nat.le_refl _))
  have HKw010 := Lib.hid ((hb.block _ (lt_of_block HKw09.out)).trans HKw09.out)
  have HOg10 := Lib.hid (HOg9.out.next hb)
  have HKg010 := Lib.hid ((hb.block _ (lt_of_block HKg09.out)).trans HKg09.out)
  have HOh10 := Lib.hid (HOh9.out.next hb)
  have HKh010 := Lib.hid ((hb.block _ (lt_of_block HKh09.out)).trans HKh09.out)
  have HBs1_10 : Hid (Below w1.heap.size w1 w10) := Lib.hid (HBs1_9.out.trans (hb.mono HBs1_9.out.size))
  clear hb
  clear cw00 cw01 cw02 fw00 fw01 fw02 ltw0 cg00 cg01 cg02 fg00 fg01 fg02 ltg0
  have ltw0 := lt_of_block HKw010.out
  obtain ⟨cw00, cw01, cw02, fw00, fw01, fw02⟩ := cell3 HKw010.out
  have ltg0 := lt_of_block HKg010.out
  obtain ⟨cg00, cg01, cg02, fg00, fg01, fg02⟩ := cell3 HKg010.out
  have lth0 := lt_of_block HKh010.out
  obtain ⟨ch00, ch01, ch02, fh00, fh01, fh02⟩ := cell3 HKh010.out
  go_wp2_with fail
  refine (heldFrame_any fu fl _ qs.length _ (RowR.of_own HOg10.out.1) (by omega)).mono ?_
  rintro e w11 ⟨rfl, hb⟩
  have HB11 : Hid (Below w.heap.size w w11) := Lib.hid (HB10.out.trans (hb.mono HB10.out.size))
  have HZ11 : Hid (w10.heap.size ≤ w11.heap.size) := Lib.hid hb.size
  have HRw11 := Lib.hid (HRw10.out.below hb (Nat.le_refl _))
  have HKw011 := Lib.hid ((hb.block _ (lt_of_block HKw010.out)).trans HKw010.out)
  have HOg11 := Lib.hid (HOg10.out.next hb)
  have HKg011 := Lib.hid ((hb.block _ (lt_of_block HKg010.out)).trans HKg010.out)
  have HOh11 := Lib.hid (HOh10.out.next hb)
  have HKh011 := Lib.hid ((hb.block _ (lt_of_block HKh010.out)).trans HKh010.out)
  have HBs1_11 : Hid (Below w1.heap.size w1 w11) := Lib.hid (HBs1_10.out.trans (hb.mono HBs1_10.out.size))
  clear hb
  clear cw00 cw01 cw02 fw00 fw01 fw02 ltw0 cg00 cg01 cg02 fg00 fg01 fg02 ltg0 ch00 ch01 ch02 fh00 fh01 fh02 lth0
  have ltw0 := lt_of_block HKw011.out
  obtain ⟨cw00, cw01, cw02, fw00, fw01, fw02⟩ := cell3 HKw011.out
  have ltg0 := lt_of_block HKg011.out
  obtain ⟨cg00, cg01, cg02, fg00, fg01, fg02⟩ := cell3 HKg011.out
  have lth0 := lt_of_block HKh011.out
  obtain ⟨ch00, ch01, ch02, fh00, fh01, fh02⟩ := cell3 HKh011.out
  go_wp2_with fail
  go_ret
  exact ⟨rfl, HB11.out⟩
end Go.Proofs.Ytbnfbpbfbdbiaaa
