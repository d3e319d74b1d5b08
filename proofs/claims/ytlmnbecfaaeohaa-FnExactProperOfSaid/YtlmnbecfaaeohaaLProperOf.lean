/- The law on ProperOf: it returns true where the model and the program give one answer. -/
import Derived.Test.YtlmnbecfaaeohaaAmts
import Derived.Test.YtlmnbecfaaeohaaUnits
import Derived.Test.YtlmnbecfaaeohaaKa
import Derived.Deep.RegionHeld3
import Derived.Deep.Cut
namespace Go.Proofs.Ytlmnbecfaaeohaa
set_option linter.unusedVariables false
open Go.RowKit

set_option maxRecDepth 100000 in
set_option maxHeartbeats 3200000 in
theorem lawProperOf (w : World) (sv0 : Value) (us0 : List Un) (h0 : RowsR 2 unC w sv0 us0) (hs0 : ∀ u ∈ us0, u.nm.size ≤ maxLen) (a1 : Int) (qs0 : List Int) (hq0 : qs0.length ≤ 1000) (r1 : Bool) 
    (hS : ∀ s0 w, RowsR 2 unC w s0 us0 → Calls Try.prog 25 #[s0, .int .i64 a1] w fun e w' => (∃ t0, e = .returned (.tuple #[.agg #[t0], .bool r1]) ∧ OwA w.heap.size w'.heap.size w' t0 qs0) ∧ Below w.heap.size w w') 
    (hI : ∀ s0 w, RowsR 2 unC w s0 us0 → Calls Try.prog 26 #[s0, .int .i64 a1] w fun e w' => (∃ t0, e = .returned (.tuple #[.agg #[t0], .bool r1]) ∧ OwA w.heap.size w'.heap.size w' t0 qs0) ∧ Below w.heap.size w w') :
    Calls Try.prog 6 #[sv0, .int .i64 a1] w fun e w' => e = .returned (.bool true) ∧ Below w.heap.size w w' := by
  have HS := Lib.hid hS
  have HI := Lib.hid hI
  obtain ⟨ad0, cp0, rfl⟩ := h0.form
  have hm0 : us0.length ≤ 9223372036854775807 := by obtain ⟨_, _, _, ⟨m, _⟩, _⟩ := h0; exact m
  have hqk : ¬ (1 + (qs0.length : Int) < 0) := by omega
  have hqk' : ((1 + (qs0.length : Int)) != (1 + (qs0.length : Int))) = false := by simp
  have HB0 : Hid (Below w.heap.size w w) := Lib.hid (Below.refl _ _)
  have HRf00 := Lib.hid (h0)
  have HSZ0 := Lib.hid hs0
  clear hS hI h0 hs0
  have hr1 : (r1 != r1) = false := by simp
  go_enter Try.func6, Try.ntmps6
  go_wp2_with fail
  refine (szUnitS_any _ us0 1048576 _ HRf00.out HSZ0.out (by omega) (by omega)).mono ?_
  rintro e w1 ⟨⟨l0, rfl, hl0, hk0⟩, hb⟩
  have HB1 : Hid (Below w.heap.size w w1) := Lib.hid (HB0.out.trans (hb.mono HB0.out.size))
  have HZ1 : Hid (w.heap.size ≤ w1.heap.size) := Lib.hid hb.size
  have HRf01 := Lib.hid (HRf00.out.below HB1.out (Nat.le_refl _))
  clear hb
  by_cases hr : l0 < 0
  · clear hk0
    go_wp2_with fail
    go_ret
    exact ⟨rfl, HB1.out⟩
  have hn0 : us0.length ≤ 1048576 := by have := hk0 (by omega); omega
  clear hk0
  go_wp2_with fail
  refine (toUnitS_any _ us0 _ HRf01.out hn0).mono ?_
  rintro e w2 ⟨⟨swc0, rfl, ho⟩, hb⟩
  have HB2 : Hid (Below w.heap.size w w2) := Lib.hid (HB1.out.trans (hb.mono HB1.out.size))
  have HZ2 : Hid (w1.heap.size ≤ w2.heap.size) := Lib.hid hb.size
  have HRf02 := Lib.hid (HRf00.out.below HB2.out (Nat.le_refl _))
  clear hb
  obtain ⟨pwc0, kwc0, rfl⟩ := own_form ho
  have HRwc02 := Lib.hid (RowsR.of_own unC_len ho)
  have HBs2_2 : Hid (Below w2.heap.size w2 w2) := Lib.hid (Below.refl _ _)
  clear ho
  go_wp2_with fail
  refine (HS.out _ _ HRwc02.out).mono ?_
  rintro e w3 ⟨⟨tw0, rfl, ho⟩, hb⟩
  have HB3 : Hid (Below w.heap.size w w3) := Lib.hid (HB2.out.trans (hb.mono HB2.out.size))
  have HZ3 : Hid (w2.heap.size ≤ w3.heap.size) := Lib.hid hb.size
  have HRf03 := Lib.hid (HRf00.out.below HB3.out (Nat.le_refl _))
  have HRwc03 := Lib.hid (HRwc02.out.below hb (Nat.le_refl _))
  have HBs2_3 : Hid (Below w2.heap.size w2 w3) := Lib.hid (HBs2_2.out.trans (hb.mono HBs2_2.out.size))
  clear hb
  obtain ⟨pw0, kw0, rfl⟩ := ho.form
  have HOw3 := Lib.hid (ho)
  clear ho
  go_wp2_with fail
  have hb : Below w3.heap.size w3 (w3.alloc (.cells #[.slice pw0 qs0.length kw0] 34)) := (Below.refl _ _).alloc (Nat.le_refl _) _
  have hk : (w3.alloc (.cells #[.slice pw0 qs0.length kw0] 34)).heap[w3.heap.size]? = some (.cells #[.slice pw0 qs0.length kw0] 34 (0, 0)) := alloc_at rfl
  have hz : (w3.alloc (.cells #[.slice pw0 qs0.length kw0] 34)).heap.size = w3.heap.size + 1 := by simp
  generalize w3.alloc (.cells #[.slice pw0 qs0.length kw0] 34) = w4 at hb hk hz ⊢
  have HB4 : Hid (Below w.heap.size w w4) := Lib.hid (HB3.out.trans (hb.mono HB3.out.size))
  have HZ4 : Hid (w3.heap.size ≤ w4.heap.size) := Lib.hid hb.size
  have HRf04 := Lib.hid (HRf00.out.below HB4.out (Nat.le_refl _))
  have HRwc04 := Lib.hid (HRwc03.out.below hb (Nat.le_refl _))
  have HOw4 := Lib.hid (HOw3.out.next hb)
  have HBs2_4 : Hid (Below w2.heap.size w2 w4) := Lib.hid (HBs2_3.out.trans (hb.mono HBs2_3.out.size))
  have HKwb04 := Lib.hid hk
  replace HZ4 : Hid (w3.heap.size < w4.heap.size) := Lib.hid (by omega)
  have HE4 := Lib.hid hz
  clear hb hk hz
  have HRw04 := Lib.hid (HOw4.out.reads)
  have HBs4_4 : Hid (Below w4.heap.size w4 w4) := Lib.hid (Below.refl _ _)
  refine (toUnitS_any _ us0 _ HRf04.out hn0).mono ?_
  rintro e w5 ⟨⟨sx0, rfl, ho⟩, hb⟩
  have HB5 : Hid (Below w.heap.size w w5) := Lib.hid (HB4.out.trans (hb.mono HB4.out.size))
  have HZ5 : Hid (w4.heap.size ≤ w5.heap.size) := Lib.hid hb.size
  have HRf05 := Lib.hid (HRf00.out.below HB5.out (Nat.le_refl _))
  have HOw5 := Lib.hid (HOw4.out.next hb)
  have HKwb05 := Lib.hid ((hb.block _ (lt_of_block HKwb04.out)).trans HKwb04.out)
  have HRw05 := Lib.hid (HRw04.out.below hb (Nat.le_refl _))
  have HBs4_5 : Hid (Below w4.heap.size w4 w5) := Lib.hid (HBs4_4.out.trans (hb.mono HBs4_4.out.size))
  clear hb
  obtain ⟨px0, kx0, rfl⟩ := own_form ho
  have HOx05 := Lib.hid (Ow.mk' ho)
  clear ho
  have ltwb0 := lt_of_block HKwb05.out
  obtain ⟨cwb00, fwb00⟩ := cell1 HKwb05.out
  go_wp2_with fail
  clear cwb00 fwb00 ltwb0
  have ltwb0 := lt_of_block HKwb05.out
  obtain ⟨cwb00, fwb00⟩ := cell1 HKwb05.out
  refine (HI.out _ _ (RowsR.of_own unC_len HOx05.out.1)).mono ?_
  rintro e w6 ⟨⟨tg0, rfl, ho⟩, hb⟩
  have HB6 : Hid (Below w.heap.size w w6) := Lib.hid (HB5.out.trans (hb.mono HB5.out.size))
  have HZ6 : Hid (w5.heap.size ≤ w6.heap.size) := Lib.hid hb.size
  have HRf06 := Lib.hid (HRf00.out.below HB6.out (Nat.le_refl _))
  have HOw6 := Lib.hid (HOw5.out.next hb)
  have HKwb06 := Lib.hid ((hb.block _ (lt_of_block HKwb05.out)).trans HKwb05.out)
  have HRw06 := Lib.hid (HRw05.out.below hb (Nat.le_refl _))
  have HOx06 := Lib.hid (HOx05.out.next hb)
  have HBs4_6 : Hid (Below w4.heap.size w4 w6) := Lib.hid (HBs4_5.out.trans (hb.mono HBs4_5.out.size))
  clear hb
  obtain ⟨pg0, kg0, rfl⟩ := ho.form
  have HOg6 := Lib.hid (ho)
  clear ho
  clear cwb00 fwb00 ltwb0
  have ltwb0 := lt_of_block HKwb06.out
  obtain ⟨cwb00, fwb00⟩ := cell1 HKwb06.out
  go_wp2_with fail
  have hb : Below w6.heap.size w6 (w6.alloc (.cells #[.slice pg0 qs0.length kg0] 34)) := (Below.refl _ _).alloc (Nat.le_refl _) _
  have hk : (w6.alloc (.cells #[.slice pg0 qs0.length kg0] 34)).heap[w6.heap.size]? = some (.cells #[.slice pg0 qs0.length kg0] 34 (0, 0)) := alloc_at rfl
  have hz : (w6.alloc (.cells #[.slice pg0 qs0.length kg0] 34)).heap.size = w6.heap.size + 1 := by simp
  generalize w6.alloc (.cells #[.slice pg0 qs0.length kg0] 34) = w7 at hb hk hz ⊢
  have HB7 : Hid (Below w.heap.size w w7) := Lib.hid (HB6.out.trans (hb.mono HB6.out.size))
  have HZ7 : Hid (w6.heap.size ≤ w7.heap.size) := Lib.hid hb.size
  have HRf07 := Lib.hid (HRf00.out.below HB7.out (Nat.le_refl _))
  have HOw7 := Lib.hid (HOw6.out.next hb)
  have HKwb07 := Lib.hid ((hb.block _ (lt_of_block HKwb06.out)).trans HKwb06.out)
  have HRw07 := Lib.hid (HRw06.out.below hb (Nat.le_refl _))
  have HOx07 := Lib.hid (HOx06.out.next hb)
  have HOg7 := Lib.hid (HOg6.out.next hb)
  have HBs4_7 : Hid (Below w4.heap.size w4 w7) := Lib.hid (HBs4_6.out.trans (hb.mono HBs4_6.out.size))
  have HKgb07 := Lib.hid hk
  replace HZ7 : Hid (w6.heap.size < w7.heap.size) := Lib.hid (by omega)
  have HE7 := Lib.hid hz
  clear hb hk hz
  clear cwb00 fwb00 ltwb0
  have ltwb0 := lt_of_block HKwb07.out
  obtain ⟨cwb00, fwb00⟩ := cell1 HKwb07.out
  have ltgb0 := lt_of_block HKgb07.out
  obtain ⟨cgb00, fgb00⟩ := cell1 HKgb07.out
  refine (eqAmount_yes _ _ qs0 _ HOg7.out.reads HRw07.out).mono ?_
  rintro e w8 ⟨rfl, hb⟩
  have HB8 : Hid (Below w.heap.size w w8) := Lib.hid (HB7.out.trans (hb.mono HB7.out.size))
  have HZ8 : Hid (w7.heap.size ≤ w8.heap.size) := Lib.hid hb.size
  have HRf08 := Lib.hid (HRf00.out.below HB8.out (Nat.le_refl _))
  have HOw8 := Lib.hid (HOw7.out.next hb)
  have HKwb08 := Lib.hid ((hb.block _ (lt_of_block HKwb07.out)).trans HKwb07.out)
  have HRw08 := Lib.hid (HRw07.out.below hb (Nat.le_refl _))
  have HOx08 := Lib.hid (HOx07.out.next hb)
  have HOg8 := Lib.hid (HOg7.out.next hb)
  have HKgb08 := Lib.hid ((hb.block _ (lt_of_block HKgb07.out)).trans HKgb07.out)
  have HBs4_8 : Hid (Below w4.heap.size w4 w8) := Lib.hid (HBs4_7.out.trans (hb.mono HBs4_7.out.size))
  clear hb
  clear cwb00 fwb00 ltwb0 cgb00 fgb00 ltgb0
  have ltwb0 := lt_of_block HKwb08.out
  obtain ⟨cwb00, fwb00⟩ := cell1 HKwb08.out
  have ltgb0 := lt_of_block HKgb08.out
  obtain ⟨cgb00, fgb00⟩ := cell1 HKgb08.out
  go_wp2_with fail
  refine (toUnitS_any _ us0 _ HRf08.out hn0).mono ?_
  rintro e w9 ⟨⟨sy0, rfl, ho⟩, hb⟩
  have HB9 : Hid (Below w.heap.size w w9) := Lib.hid (HB8.out.trans (hb.mono HB8.out.size))
  have HZ9 : Hid (w8.heap.size ≤ w9.heap.size) := Lib.hid hb.size
  have HRf09 := Lib.hid (HRf00.out.below HB9.out (Nat.le_refl _))
  have HOw9 := Lib.hid (HOw8.out.next hb)
  have HKwb09 := Lib.hid ((hb.block _ (lt_of_block HKwb08.out)).trans HKwb08.out)
  have HRw09 := Lib.hid (HRw08.out.below hb (Nat.le_refl _))
  have HOx09 := Lib.hid (HOx08.out.next hb)
  have HOg9 := Lib.hid (HOg8.out.next hb)
  have HKgb09 := Lib.hid ((hb.block _ (lt_of_block HKgb08.out)).trans HKgb08.out)
  have HBs4_9 : Hid (Below w4.heap.size w4 w9) := Lib.hid (HBs4_8.out.trans (hb.mono HBs4_8.out.size))
  clear hb
  obtain ⟨py0, ky0, rfl⟩ := own_form ho
  have HRy09 := Lib.hid (RowsR.of_own unC_len ho)
  have HBs9_9 : Hid (Below w9.heap.size w9 w9) := Lib.hid (Below.refl _ _)
  clear ho
  clear cwb00 fwb00 ltwb0 cgb00 fgb00 ltgb0
  have ltwb0 := lt_of_block HKwb09.out
  obtain ⟨cwb00, fwb00⟩ := cell1 HKwb09.out
  have ltgb0 := lt_of_block HKgb09.out
  obtain ⟨cgb00, fgb00⟩ := cell1 HKgb09.out
  go_wp2_with fail
  refine (eqUnitS_yes _ _ us0 _ (RowsR.of_own unC_len HOx09.out.1) HRy09.out).mono ?_
  rintro e w10 ⟨rfl, hb⟩
  have HB10 : Hid (Below w.heap.size w w10) := Lib.hid (HB9.out.trans (hb.mono HB9.out.size))
  have HZ10 : Hid (w9.heap.size ≤ w10.heap.size) := Lib.hid hb.size
  have HRf010 := Lib.hid (HRf00.out.below HB10.out (Nat.le_refl _))
  have HOw10 := Lib.hid (HOw9.out.next hb)
  have HKwb010 := Lib.hid ((hb.block _ (lt_of_block HKwb09.out)).trans HKwb09.out)
  have HRw010 := Lib.hid (HRw09.out.below hb (Nat.le_refl _))
  have HOx010 := Lib.hid (HOx09.out.next hb)
  have HOg10 := Lib.hid (HOg9.out.next hb)
  have HKgb010 := Lib.hid ((hb.block _ (lt_of_block HKgb09.out)).trans HKgb09.out)
  have HRy010 := Lib.hid (HRy09.out.below hb (Nat.le_refl _))
  have HBs4_10 : Hid (Below w4.heap.size w4 w10) := Lib.hid (HBs4_9.out.trans (hb.mono HBs4_9.out.size))
  have HBs9_10 : Hid (Below w9.heap.size w9 w10) := Lib.hid (HBs9_9.out.trans (hb.mono HBs9_9.out.size))
  clear hb
  clear cwb00 fwb00 ltwb0 cgb00 fgb00 ltgb0
  have ltwb0 := lt_of_block HKwb010.out
  obtain ⟨cwb00, fwb00⟩ := cell1 HKwb010.out
  have ltgb0 := lt_of_block HKgb010.out
  obtain ⟨cgb00, fgb00⟩ := cell1 HKgb010.out
  go_wp2_with fail
  refine (markUnitS_any _ us0.length (1) _ _ _ _ _ HOx010.out hn0 (by omega) (by have := HZ1.out; have := HZ2.out; have := HZ3.out; have := HZ4.out; have := HZ5.out; have := HZ6.out; have := HZ7.out; have := HZ8.out; have := HZ9.out; have := HZ10.out;  omega)).mono ?_
  rintro e w11 ⟨rfl, ho, hm⟩
  have HZ11 : Hid (w10.heap.size ≤ w11.heap.size) := Lib.hid hm.size
  have HB11 : Hid (Below w.heap.size w w11) := Lib.hid (HB10.out.trans (hm.below.mono (by have := HZ1.out; have := HZ2.out; have := HZ3.out; have := HZ4.out; have := HZ5.out; have := HZ6.out; have := HZ7.out; have := HZ8.out; have := HZ9.out; have := HZ10.out; have := HB0.out.size; omega)))
  have HRf011 := Lib.hid (HRf00.out.below HB11.out (Nat.le_refl _))
  have HOw11 := Lib.hid (HOw10.out.btw hm (by have := HZ1.out; have := HZ2.out; have := HZ3.out; have := HZ4.out; have := HZ5.out; have := HZ6.out; have := HZ7.out; have := HZ8.out; have := HZ9.out; have := HZ10.out; omega))
  have HKwb011 := Lib.hid ((hm.block _ (by have := lt_of_block HKwb010.out; have := HZ1.out; have := HZ2.out; have := HZ3.out; have := HZ4.out; have := HZ5.out; have := HZ6.out; have := HZ7.out; have := HZ8.out; have := HZ9.out; have := HZ10.out; omega)).trans HKwb010.out)
  have HRw011 := Lib.hid (HRw04.out.below (HBs4_10.out.trans (hm.below.mono (by have := HZ1.out; have := HZ2.out; have := HZ3.out; have := HZ4.out; have := HZ5.out; have := HZ6.out; have := HZ7.out; have := HZ8.out; have := HZ9.out; have := HZ10.out; omega))) (Nat.le_refl _))
  have HOg11 := Lib.hid (HOg10.out.btw hm (by have := HZ1.out; have := HZ2.out; have := HZ3.out; have := HZ4.out; have := HZ5.out; have := HZ6.out; have := HZ7.out; have := HZ8.out; have := HZ9.out; have := HZ10.out; omega))
  have HKgb011 := Lib.hid ((hm.block _ (by have := lt_of_block HKgb010.out; have := HZ1.out; have := HZ2.out; have := HZ3.out; have := HZ4.out; have := HZ5.out; have := HZ6.out; have := HZ7.out; have := HZ8.out; have := HZ9.out; have := HZ10.out; omega)).trans HKgb010.out)
  have HBs4_11 : Hid (Below w4.heap.size w4 w11) := Lib.hid (HBs4_10.out.trans (hm.below.mono (by have := HZ1.out; have := HZ2.out; have := HZ3.out; have := HZ4.out; have := HZ5.out; have := HZ6.out; have := HZ7.out; have := HZ8.out; have := HZ9.out; have := HZ10.out; omega)))
  clear hm
  clear ho
  have hxk : ¬ (1 + 2 * (us0.length : Int) < 0) := by omega
  clear cwb00 fwb00 ltwb0 cgb00 fgb00 ltgb0
  have ltwb0 := lt_of_block HKwb011.out
  obtain ⟨cwb00, fwb00⟩ := cell1 HKwb011.out
  have ltgb0 := lt_of_block HKgb011.out
  obtain ⟨cgb00, fgb00⟩ := cell1 HKgb011.out
  go_wp2_with fail
  refine (eqAmount_yes _ _ qs0 _ HOg11.out.reads HRw011.out).mono ?_
  rintro e w12 ⟨rfl, hb⟩
  have HB12 : Hid (Below w.heap.size w w12) := Lib.hid (HB11.out.trans (hb.mono HB11.out.size))
  have HZ12 : Hid (w11.heap.size ≤ w12.heap.size) := Lib.hid hb.size
  have HRf012 := Lib.hid (HRf00.out.below HB12.out (Nat.le_refl _))
  have HOw12 := Lib.hid (HOw11.out.next hb)
  have HKwb012 := Lib.hid ((hb.block _ (lt_of_block HKwb011.out)).trans HKwb011.out)
  have HRw012 := Lib.hid (HRw011.out.below hb (Nat.le_refl _))
  have HOg12 := Lib.hid (HOg11.out.next hb)
  have HKgb012 := Lib.hid ((hb.block _ (lt_of_block HKgb011.out)).trans HKgb011.out)
  have HBs4_12 : Hid (Below w4.heap.size w4 w12) := Lib.hid (HBs4_11.out.trans (hb.mono HBs4_11.out.size))
  clear hb
  clear cwb00 fwb00 ltwb0 cgb00 fgb00 ltgb0
  have ltwb0 := lt_of_block HKwb012.out
  obtain ⟨cwb00, fwb00⟩ := cell1 HKwb012.out
  have ltgb0 := lt_of_block HKgb012.out
  obtain ⟨cgb00, fgb00⟩ := cell1 HKgb012.out
  go_wp2_with fail
  refine (markAmount_at _ qs0 _ _ _ HOg12.out (by omega) (1) (by omega) (by have := HZ1.out; have := HZ2.out; have := HZ3.out; have := HZ4.out; have := HZ5.out; have := HZ6.out; have := HZ7.out; have := HZ8.out; have := HZ9.out; have := HZ10.out; have := HZ11.out; have := HZ12.out;  omega) (by have := HZ1.out; have := HZ2.out; have := HZ3.out; have := HZ4.out; have := HZ5.out; have := HZ6.out; have := HZ7.out; have := HZ8.out; have := HZ9.out; have := HZ10.out; have := HZ11.out; have := HZ12.out;  omega) (by have := HZ1.out; have := HZ2.out; have := HZ3.out; have := HZ4.out; have := HZ5.out; have := HZ6.out; have := HZ7.out; have := HZ8.out; have := HZ9.out; have := HZ10.out; have := HZ11.out; have := HZ12.out;  omega)).mono ?_
  rintro e w13 ⟨rfl, ho, hm⟩
  have HZ13 : Hid (w12.heap.size ≤ w13.heap.size) := Lib.hid hm.size
  have HB13 : Hid (Below w.heap.size w w13) := Lib.hid (HB12.out.trans (hm.below.mono (by have := HZ1.out; have := HZ2.out; have := HZ3.out; have := HZ4.out; have := HZ5.out; have := HZ6.out; have := HZ7.out; have := HZ8.out; have := HZ9.out; have := HZ10.out; have := HZ11.out; have := HZ12.out; have := HB0.out.size; omega)))
  have HRf013 := Lib.hid (HRf00.out.below HB13.out (Nat.le_refl _))
  have HOw13 := Lib.hid (HOw12.out.btw hm (by have := HZ1.out; have := HZ2.out; have := HZ3.out; have := HZ4.out; have := HZ5.out; have := HZ6.out; have := HZ7.out; have := HZ8.out; have := HZ9.out; have := HZ10.out; have := HZ11.out; have := HZ12.out; omega))
  have HKwb013 := Lib.hid ((hm.block _ (by have := lt_of_block HKwb012.out; have := HZ1.out; have := HZ2.out; have := HZ3.out; have := HZ4.out; have := HZ5.out; have := HZ6.out; have := HZ7.out; have := HZ8.out; have := HZ9.out; have := HZ10.out; have := HZ11.out; have := HZ12.out; omega)).trans HKwb012.out)
  have HRw013 := Lib.hid (HRw04.out.below (HBs4_12.out.trans (hm.below.mono (by have := HZ1.out; have := HZ2.out; have := HZ3.out; have := HZ4.out; have := HZ5.out; have := HZ6.out; have := HZ7.out; have := HZ8.out; have := HZ9.out; have := HZ10.out; have := HZ11.out; have := HZ12.out; omega))) (Nat.le_refl _))
  have HKgb013 := Lib.hid ((hm.block _ (by have := lt_of_block HKgb012.out; have := HZ1.out; have := HZ2.out; have := HZ3.out; have := HZ4.out; have := HZ5.out; have := HZ6.out; have := HZ7.out; have := HZ8.out; have := HZ9.out; have := HZ10.out; have := HZ11.out; have := HZ12.out; omega)).trans HKgb012.out)
  have HBs4_13 : Hid (Below w4.heap.size w4 w13) := Lib.hid (HBs4_12.out.trans (hm.below.mono (by have := HZ1.out; have := HZ2.out; have := HZ3.out; have := HZ4.out; have := HZ5.out; have := HZ6.out; have := HZ7.out; have := HZ8.out; have := HZ9.out; have := HZ10.out; have := HZ11.out; have := HZ12.out; omega)))
  clear hm
  have HOg13 := Lib.hid (ho)
  clear ho
  clear cwb00 fwb00 ltwb0 cgb00 fgb00 ltgb0
  have ltwb0 := lt_of_block HKwb013.out
  obtain ⟨cwb00, fwb00⟩ := cell1 HKwb013.out
  have ltgb0 := lt_of_block HKgb013.out
  obtain ⟨cgb00, fgb00⟩ := cell1 HKgb013.out
  go_wp2_with fail
  refine (heldAmount_any _ qs0.length (1) _ (by have := HOg13.out.reads; exact this) (by omega) (by omega)).mono ?_
  rintro e w14 ⟨rfl, hb⟩
  have HB14 : Hid (Below w.heap.size w w14) := Lib.hid (HB13.out.trans (hb.mono HB13.out.size))
  have HZ14 : Hid (w13.heap.size ≤ w14.heap.size) := Lib.hid hb.size
  have HRf014 := Lib.hid (HRf00.out.below HB14.out (Nat.le_refl _))
  have HOw14 := Lib.hid (HOw13.out.next hb)
  have HKwb014 := Lib.hid ((hb.block _ (lt_of_block HKwb013.out)).trans HKwb013.out)
  have HRw014 := Lib.hid (HRw013.out.below hb (Nat.le_refl _))
  have HOg14 := Lib.hid (HOg13.out.next hb)
  have HKgb014 := Lib.hid ((hb.block _ (lt_of_block HKgb013.out)).trans HKgb013.out)
  have HBs4_14 : Hid (Below w4.heap.size w4 w14) := Lib.hid (HBs4_13.out.trans (hb.mono HBs4_13.out.size))
  clear hb
  clear cwb00 fwb00 ltwb0 cgb00 fgb00 ltgb0
  have ltwb0 := lt_of_block HKwb014.out
  obtain ⟨cwb00, fwb00⟩ := cell1 HKwb014.out
  have ltgb0 := lt_of_block HKgb014.out
  obtain ⟨cgb00, fgb00⟩ := cell1 HKgb014.out
  go_wp2_with fail
  refine (toUnitS_any _ us0 _ HRf014.out hn0).mono ?_
  rintro e w15 ⟨⟨shc0, rfl, ho⟩, hb⟩
  have HB15 : Hid (Below w.heap.size w w15) := Lib.hid (HB14.out.trans (hb.mono HB14.out.size))
  have HZ15 : Hid (w14.heap.size ≤ w15.heap.size) := Lib.hid hb.size
  have HRf015 := Lib.hid (HRf00.out.below HB15.out (Nat.le_refl _))
  have HOw15 := Lib.hid (HOw14.out.next hb)
  have HKwb015 := Lib.hid ((hb.block _ (lt_of_block HKwb014.out)).trans HKwb014.out)
  have HRw015 := Lib.hid (HRw014.out.below hb (Nat.le_refl _))
  have HOg15 := Lib.hid (HOg14.out.next hb)
  have HKgb015 := Lib.hid ((hb.block _ (lt_of_block HKgb014.out)).trans HKgb014.out)
  have HBs4_15 : Hid (Below w4.heap.size w4 w15) := Lib.hid (HBs4_14.out.trans (hb.mono HBs4_14.out.size))
  clear hb
  obtain ⟨phc0, khc0, rfl⟩ := own_form ho
  have HRhc015 := Lib.hid (RowsR.of_own unC_len ho)
  have HBs15_15 : Hid (Below w15.heap.size w15 w15) := Lib.hid (Below.refl _ _)
  clear ho
  clear cwb00 fwb00 ltwb0 cgb00 fgb00 ltgb0
  have ltwb0 := lt_of_block HKwb015.out
  obtain ⟨cwb00, fwb00⟩ := cell1 HKwb015.out
  have ltgb0 := lt_of_block HKgb015.out
  obtain ⟨cgb00, fgb00⟩ := cell1 HKgb015.out
  go_wp2_with fail
  refine (HI.out _ _ HRhc015.out).mono ?_
  rintro e w16 ⟨⟨th0, rfl, ho⟩, hb⟩
  have HB16 : Hid (Below w.heap.size w w16) := Lib.hid (HB15.out.trans (hb.mono HB15.out.size))
  have HZ16 : Hid (w15.heap.size ≤ w16.heap.size) := Lib.hid hb.size
  have HRf016 := Lib.hid (HRf00.out.below HB16.out (Nat.le_refl _))
  have HOw16 := Lib.hid (HOw15.out.next hb)
  have HKwb016 := Lib.hid ((hb.block _ (lt_of_block HKwb015.out)).trans HKwb015.out)
  have HRw016 := Lib.hid (HRw015.out.below hb (Nat.le_refl _))
  have HOg16 := Lib.hid (HOg15.out.next hb)
  have HKgb016 := Lib.hid ((hb.block _ (lt_of_block HKgb015.out)).trans HKgb015.out)
  have HRhc016 := Lib.hid (HRhc015.out.below hb (Nat.le_refl _))
  have HBs4_16 : Hid (Below w4.heap.size w4 w16) := Lib.hid (HBs4_15.out.trans (hb.mono HBs4_15.out.size))
  have HBs15_16 : Hid (Below w15.heap.size w15 w16) := Lib.hid (HBs15_15.out.trans (hb.mono HBs15_15.out.size))
  clear hb
  obtain ⟨ph0, kh0, rfl⟩ := ho.form
  have HOh16 := Lib.hid (ho)
  clear ho
  clear cwb00 fwb00 ltwb0 cgb00 fgb00 ltgb0
  have ltwb0 := lt_of_block HKwb016.out
  obtain ⟨cwb00, fwb00⟩ := cell1 HKwb016.out
  have ltgb0 := lt_of_block HKgb016.out
  obtain ⟨cgb00, fgb00⟩ := cell1 HKgb016.out
  go_wp2_with fail
  have hb : Below w16.heap.size w16 (w16.alloc (.cells #[.slice ph0 qs0.length kh0] 34)) := (Below.refl _ _).alloc (Nat.le_refl _) _
  have hk : (w16.alloc (.cells #[.slice ph0 qs0.length kh0] 34)).heap[w16.heap.size]? = some (.cells #[.slice ph0 qs0.length kh0] 34 (0, 0)) := alloc_at rfl
  have hz : (w16.alloc (.cells #[.slice ph0 qs0.length kh0] 34)).heap.size = w16.heap.size + 1 := by simp
  generalize w16.alloc (.cells #[.slice ph0 qs0.length kh0] 34) = w17 at hb hk hz ⊢
  have HB17 : Hid (Below w.heap.size w w17) := Lib.hid (HB16.out.trans (hb.mono HB16.out.size))
  have HZ17 : Hid (w16.heap.size ≤ w17.heap.size) := Lib.hid hb.size
  have HRf017 := Lib.hid (HRf00.out.below HB17.out (Nat.le_refl _))
  have HOw17 := Lib.hid (HOw16.out.next hb)
  have HKwb017 := Lib.hid ((hb.block _ (lt_of_block HKwb016.out)).trans HKwb016.out)
  have HRw017 := Lib.hid (HRw016.out.below hb (Nat.le_refl _))
  have HOg17 := Lib.hid (HOg16.out.next hb)
  have HKgb017 := Lib.hid ((hb.block _ (lt_of_block HKgb016.out)).trans HKgb016.out)
  have HRhc017 := Lib.hid (HRhc016.out.below hb (Nat.le_refl _))
  have HOh17 := Lib.hid (HOh16.out.next hb)
  have HBs4_17 : Hid (Below w4.heap.size w4 w17) := Lib.hid (HBs4_16.out.trans (hb.mono HBs4_16.out.size))
  have HBs15_17 : Hid (Below w15.heap.size w15 w17) := Lib.hid (HBs15_16.out.trans (hb.mono HBs15_16.out.size))
  have HKhb017 := Lib.hid hk
  replace HZ17 : Hid (w16.heap.size < w17.heap.size) := Lib.hid (by omega)
  have HE17 := Lib.hid hz
  clear hb hk hz
  have HRh017 := Lib.hid (HOh17.out.reads)
  have HBs17_17 : Hid (Below w17.heap.size w17 w17) := Lib.hid (Below.refl _ _)
  refine (eqAmount_yes _ _ qs0 _ HRh017.out HRw017.out).mono ?_
  rintro e w18 ⟨rfl, hb⟩
  have HB18 : Hid (Below w.heap.size w w18) := Lib.hid (HB17.out.trans (hb.mono HB17.out.size))
  have HZ18 : Hid (w17.heap.size ≤ w18.heap.size) := Lib.hid hb.size
  have HRf018 := Lib.hid (HRf00.out.below HB18.out (Nat.le_refl _))
  have HOw18 := Lib.hid (HOw17.out.next hb)
  have HKwb018 := Lib.hid ((hb.block _ (lt_of_block HKwb017.out)).trans HKwb017.out)
  have HRw018 := Lib.hid (HRw017.out.below hb (Nat.le_refl _))
  have HOg18 := Lib.hid (HOg17.out.next hb)
  have HKgb018 := Lib.hid ((hb.block _ (lt_of_block HKgb017.out)).trans HKgb017.out)
  have HOh18 := Lib.hid (HOh17.out.next hb)
  have HKhb018 := Lib.hid ((hb.block _ (lt_of_block HKhb017.out)).trans HKhb017.out)
  have HRh018 := Lib.hid (HRh017.out.below hb (Nat.le_refl _))
  have HBs4_18 : Hid (Below w4.heap.size w4 w18) := Lib.hid (HBs4_17.out.trans (hb.mono HBs4_17.out.size))
  have HBs17_18 : Hid (Below w17.heap.size w17 w18) := Lib.hid (HBs17_17.out.trans (hb.mono HBs17_17.out.size))
  clear hb
  clear cwb00 fwb00 ltwb0 cgb00 fgb00 ltgb0
  have ltwb0 := lt_of_block HKwb018.out
  obtain ⟨cwb00, fwb00⟩ := cell1 HKwb018.out
  have ltgb0 := lt_of_block HKgb018.out
  obtain ⟨cgb00, fgb00⟩ := cell1 HKgb018.out
  have lthb0 := lt_of_block HKhb018.out
  obtain ⟨chb00, fhb00⟩ := cell1 HKhb018.out
  go_wp2_with fail
  refine (heldAmount_any _ qs0.length (1) _ (by have := HOg18.out.reads; exact this) (by omega) (by omega)).mono ?_
  rintro e w19 ⟨rfl, hb⟩
  have HB19 : Hid (Below w.heap.size w w19) := Lib.hid (HB18.out.trans (hb.mono HB18.out.size))
  have HZ19 : Hid (w18.heap.size ≤ w19.heap.size) := Lib.hid hb.size
  have HRf019 := Lib.hid (HRf00.out.below HB19.out (Nat.le_refl _))
  have HOw19 := Lib.hid (HOw18.out.next hb)
  have HKwb019 := Lib.hid ((hb.block _ (lt_of_block HKwb018.out)).trans HKwb018.out)
  have HRw019 := Lib.hid (HRw018.out.below hb (Nat.le_refl _))
  have HOg19 := Lib.hid (HOg18.out.next hb)
  have HKgb019 := Lib.hid ((hb.block _ (lt_of_block HKgb018.out)).trans HKgb018.out)
  have HOh19 := Lib.hid (HOh18.out.next hb)
  have HKhb019 := Lib.hid ((hb.block _ (lt_of_block HKhb018.out)).trans HKhb018.out)
  have HRh019 := Lib.hid (HRh018.out.below hb (Nat.le_refl _))
  have HBs4_19 : Hid (Below w4.heap.size w4 w19) := Lib.hid (HBs4_18.out.trans (hb.mono HBs4_18.out.size))
  have HBs17_19 : Hid (Below w17.heap.size w17 w19) := Lib.hid (HBs17_18.out.trans (hb.mono HBs17_18.out.size))
  clear hb
  clear cwb00 fwb00 ltwb0 cgb00 fgb00 ltgb0 chb00 fhb00 lthb0
  have ltwb0 := lt_of_block HKwb019.out
  obtain ⟨cwb00, fwb00⟩ := cell1 HKwb019.out
  have ltgb0 := lt_of_block HKgb019.out
  obtain ⟨cgb00, fgb00⟩ := cell1 HKgb019.out
  have lthb0 := lt_of_block HKhb019.out
  obtain ⟨chb00, fhb00⟩ := cell1 HKhb019.out
  go_wp2_with fail
  go_ret
  exact ⟨rfl, HB19.out⟩
end Go.Proofs.Ytlmnbecfaaeohaa
