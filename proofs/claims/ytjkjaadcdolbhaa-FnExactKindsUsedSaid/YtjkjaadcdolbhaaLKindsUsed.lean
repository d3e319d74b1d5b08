/- The law on KindsUsed: it returns true where the model and the program give one answer. -/
import Derived.Test.YtjkjaadcdolbhaaKb
import Derived.Test.YtjkjaadcdolbhaaOcr
import Derived.Test.YtjkjaadcdolbhaaKa
import Derived.Deep.RegionHeld3
namespace Go.Proofs.Ytjkjaadcdolbhaa
set_option linter.unusedVariables false
open Go.RowKit

set_option maxRecDepth 100000 in
set_option maxHeartbeats 6400000 in
theorem lawKindsUsed (w : World) (up0 lo0 : Int) (sv0 : Value) (rs0 : List (Int × Int)) (h0 : RodsR w sv0 rs0) (a1 : Int) (qs : List Int) (hq : qs.length ≤ 1000) (r1 : Bool) 
    (hS : rs0.length ≤ 1048576 → ∀ s0 w, RodsR w s0 rs0 → Calls Try.prog 55 #[.agg #[.int .i64 up0, .int .i64 lo0, s0], .int .i64 a1] w fun e w' => (∃ sq, e = .returned (.tuple #[sq, .bool r1]) ∧ RowsR 1 inC w' sq qs) ∧ Below w.heap.size w w') 
    (hI : rs0.length ≤ 1048576 → ∀ s0 w, RodsR w s0 rs0 → Calls Try.prog 56 #[.agg #[.int .i64 up0, .int .i64 lo0, s0], .int .i64 a1] w fun e w' => (∃ sq, e = .returned (.tuple #[sq, .bool r1]) ∧ OcR w.heap.size w'.heap.size w' sq qs) ∧ Below w.heap.size w w') :
    Calls Try.prog 8 #[.agg #[.int .i64 up0, .int .i64 lo0, sv0], .int .i64 a1] w fun e w' => e = .returned (.bool true) ∧ Below w.heap.size w w' := by
  have HS := Lib.hid hS
  have HI := Lib.hid hI
  obtain ⟨ad0, cp0, rfl⟩ : ∃ a c, sv0 = .slice a rs0.length c := by obtain ⟨a, c, e, _⟩ := h0; exact ⟨a, c, e⟩
  have hqk : ¬ (1 + (qs.length : Int) < 0) := by omega
  have hqk' : ((1 + (qs.length : Int)) != (1 + (qs.length : Int))) = false := by simp
  have HB0 : Hid (Below w.heap.size w w) := Lib.hid (Below.refl _ _)
  have HRf00 := Lib.hid (h0)
  clear hS hI h0
  have hr1 : (r1 != r1) = false := by simp
  go_enter Try.func8, Try.ntmps8
  go_wp2_with fail
  have hb : Below w.heap.size w (w.alloc (.cells #[.int .i64 up0, .int .i64 lo0, .slice ad0 rs0.length cp0] 51)) := (Below.refl _ _).alloc (Nat.le_refl _) _
  have hk : (w.alloc (.cells #[.int .i64 up0, .int .i64 lo0, .slice ad0 rs0.length cp0] 51)).heap[w.heap.size]? = some (.cells #[.int .i64 up0, .int .i64 lo0, .slice ad0 rs0.length cp0] 51 (0, 0)) := alloc_at rfl
  have hz : (w.alloc (.cells #[.int .i64 up0, .int .i64 lo0, .slice ad0 rs0.length cp0] 51)).heap.size = w.heap.size + 1 := by simp
  generalize w.alloc (.cells #[.int .i64 up0, .int .i64 lo0, .slice ad0 rs0.length cp0] 51) = w1 at hb hk hz ⊢
  have HB1 : Hid (Below w.heap.size w w1) := Lib.hid (HB0.out.trans (hb.mono HB0.out.size))
  have HZ1 : Hid (w.heap.size ≤ w1.heap.size) := Lib.hid hb.size
  have HRf01 := Lib.hid (HRf00.out.below HB1.out (Nat.le_refl _))
  have HKa01 := Lib.hid hk
  replace HZ1 : Hid (w.heap.size < w1.heap.size) := Lib.hid (by omega)
  have HE1 := Lib.hid hz
  clear hb hk hz
  refine (szFrame_any up0 lo0 1048576 _ rs0 _ HRf01.out (by omega) (by omega)).mono ?_
  rintro e w2 ⟨⟨l0, rfl, hl0, hk0⟩, hb⟩
  have HB2 : Hid (Below w.heap.size w w2) := Lib.hid (HB1.out.trans (hb.mono HB1.out.size))
  have HZ2 : Hid (w1.heap.size ≤ w2.heap.size) := Lib.hid hb.size
  have HRf02 := Lib.hid (HRf00.out.below HB2.out (Nat.le_refl _))
  have HKa02 := Lib.hid ((hb.block _ (lt_of_block HKa01.out)).trans HKa01.out)
  clear hb
  by_cases hr : l0 < 0
  · clear hk0
    have lta0 := lt_of_block HKa02.out
    obtain ⟨ca00, ca01, ca02, fa00, fa01, fa02⟩ := cell3 HKa02.out
    go_wp2_with fail
    go_ret
    exact ⟨rfl, HB2.out⟩
  have hn0 : rs0.length ≤ 1048576 := by have := hk0 (by omega); omega
  clear hk0
  have lta0 := lt_of_block HKa02.out
  obtain ⟨ca00, ca01, ca02, fa00, fa01, fa02⟩ := cell3 HKa02.out
  go_wp2_with fail
  refine (toFrame_any up0 lo0 _ rs0 _ HRf02.out hn0).mono ?_
  rintro e w3 ⟨⟨st0, rfl, ho⟩, hb⟩
  have HB3 : Hid (Below w.heap.size w w3) := Lib.hid (HB2.out.trans (hb.mono HB2.out.size))
  have HZ3 : Hid (w2.heap.size ≤ w3.heap.size) := Lib.hid hb.size
  have HRf03 := Lib.hid (HRf00.out.below HB3.out (Nat.le_refl _))
  have HKa03 := Lib.hid ((hb.block _ (lt_of_block HKa02.out)).trans HKa02.out)
  clear hb
  obtain ⟨pt0, kt0, rfl⟩ := own_form ho
  have HRt03 := Lib.hid ((RodsR.of_own ho))
  have HBs3_3 : Hid (Below w3.heap.size w3 w3) := Lib.hid (Below.refl _ _)
  clear ho
  clear ca00 ca01 ca02 fa00 fa01 fa02 lta0
  have lta0 := lt_of_block HKa03.out
  obtain ⟨ca00, ca01, ca02, fa00, fa01, fa02⟩ := cell3 HKa03.out
  go_wp2_with fail
  refine (HS.out hn0 _ _ HRt03.out).mono ?_
  rintro e w4 ⟨⟨sw, rfl, ho⟩, hb⟩
  have HB4 : Hid (Below w.heap.size w w4) := Lib.hid (HB3.out.trans (hb.mono HB3.out.size))
  have HZ4 : Hid (w3.heap.size ≤ w4.heap.size) := Lib.hid hb.size
  have HRf04 := Lib.hid (HRf00.out.below HB4.out (Nat.le_refl _))
  have HKa04 := Lib.hid ((hb.block _ (lt_of_block HKa03.out)).trans HKa03.out)
  have HRt04 := Lib.hid (HRt03.out.below hb (Nat.le_refl _))
  have HBs3_4 : Hid (Below w3.heap.size w3 w4) := Lib.hid (HBs3_3.out.trans (hb.mono HBs3_3.out.size))
  clear hb
  obtain ⟨pw, kw, rfl⟩ := ho.form
  have HRw4 := Lib.hid (ho)
  have HBs4_4 : Hid (Below w4.heap.size w4 w4) := Lib.hid (Below.refl _ _)
  clear ho
  clear ca00 ca01 ca02 fa00 fa01 fa02 lta0
  have lta0 := lt_of_block HKa04.out
  obtain ⟨ca00, ca01, ca02, fa00, fa01, fa02⟩ := cell3 HKa04.out
  go_wp2_with fail
  refine (toFrame_any up0 lo0 _ rs0 _ HRf04.out hn0).mono ?_
  rintro e w5 ⟨⟨sx0, rfl, ho⟩, hb⟩
  have HB5 : Hid (Below w.heap.size w w5) := Lib.hid (HB4.out.trans (hb.mono HB4.out.size))
  have HZ5 : Hid (w4.heap.size ≤ w5.heap.size) := Lib.hid hb.size
  have HRf05 := Lib.hid (HRf00.out.below HB5.out (Nat.le_refl _))
  have HKa05 := Lib.hid ((hb.block _ (lt_of_block HKa04.out)).trans HKa04.out)
  have HRw5 := Lib.hid (HRw4.out.below hb (Nat.le_refl _))
  have HBs4_5 : Hid (Below w4.heap.size w4 w5) := Lib.hid (HBs4_4.out.trans (hb.mono HBs4_4.out.size))
  clear hb
  obtain ⟨px0, kx0, rfl⟩ := own_form ho
  have HOx05 := Lib.hid (Ow.mk' ho)
  clear ho
  clear ca00 ca01 ca02 fa00 fa01 fa02 lta0
  have lta0 := lt_of_block HKa05.out
  obtain ⟨ca00, ca01, ca02, fa00, fa01, fa02⟩ := cell3 HKa05.out
  go_wp2_with fail
  have hb : Below w5.heap.size w5 (w5.alloc (.cells #[.int .i64 up0, .int .i64 lo0, .slice px0 rs0.length kx0] 26)) := (Below.refl _ _).alloc (Nat.le_refl _) _
  have hk : (w5.alloc (.cells #[.int .i64 up0, .int .i64 lo0, .slice px0 rs0.length kx0] 26)).heap[w5.heap.size]? = some (.cells #[.int .i64 up0, .int .i64 lo0, .slice px0 rs0.length kx0] 26 (0, 0)) := alloc_at rfl
  have hz : (w5.alloc (.cells #[.int .i64 up0, .int .i64 lo0, .slice px0 rs0.length kx0] 26)).heap.size = w5.heap.size + 1 := by simp
  generalize w5.alloc (.cells #[.int .i64 up0, .int .i64 lo0, .slice px0 rs0.length kx0] 26) = w6 at hb hk hz ⊢
  have HB6 : Hid (Below w.heap.size w w6) := Lib.hid (HB5.out.trans (hb.mono HB5.out.size))
  have HZ6 : Hid (w5.heap.size ≤ w6.heap.size) := Lib.hid hb.size
  have HRf06 := Lib.hid (HRf00.out.below HB6.out (Nat.le_refl _))
  have HKa06 := Lib.hid ((hb.block _ (lt_of_block HKa05.out)).trans HKa05.out)
  have HRw6 := Lib.hid (HRw5.out.below hb (Nat.le_refl _))
  have HOx06 := Lib.hid (HOx05.out.next hb)
  have HBs4_6 : Hid (Below w4.heap.size w4 w6) := Lib.hid (HBs4_5.out.trans (hb.mono HBs4_5.out.size))
  have HKx06 := Lib.hid hk
  replace HZ6 : Hid (w5.heap.size < w6.heap.size) := Lib.hid (by omega)
  have HE6 := Lib.hid hz
  clear hb hk hz
  refine (HI.out hn0 _ _ (RodsR.of_own HOx06.out.1)).mono ?_
  rintro e w7 ⟨⟨sg, rfl, ho⟩, hb⟩
  have HB7 : Hid (Below w.heap.size w w7) := Lib.hid (HB6.out.trans (hb.mono HB6.out.size))
  have HZ7 : Hid (w6.heap.size ≤ w7.heap.size) := Lib.hid hb.size
  have HRf07 := Lib.hid (HRf00.out.below HB7.out (Nat.le_refl _))
  have HKa07 := Lib.hid ((hb.block _ (lt_of_block HKa06.out)).trans HKa06.out)
  have HRw7 := Lib.hid (HRw6.out.below hb (Nat.le_refl _))
  have HOx07 := Lib.hid (HOx06.out.next hb)
  have HKx07 := Lib.hid ((hb.block _ (lt_of_block HKx06.out)).trans HKx06.out)
  have HBs4_7 : Hid (Below w4.heap.size w4 w7) := Lib.hid (HBs4_6.out.trans (hb.mono HBs4_6.out.size))
  clear hb
  obtain ⟨pg, kg, rfl⟩ := ho.form
  have HOg7 := Lib.hid (ho)
  clear ho
  clear ca00 ca01 ca02 fa00 fa01 fa02 lta0
  have lta0 := lt_of_block HKa07.out
  obtain ⟨ca00, ca01, ca02, fa00, fa01, fa02⟩ := cell3 HKa07.out
  have ltx0 := lt_of_block HKx07.out
  obtain ⟨cx00, cx01, cx02, fx00, fx01, fx02⟩ := cell3 HKx07.out
  go_wp2_with fail
  refine (eqIntS_yes _ _ qs _ HOg7.out.reads HRw7.out).mono ?_
  rintro e w8 ⟨rfl, hb⟩
  have HB8 : Hid (Below w.heap.size w w8) := Lib.hid (HB7.out.trans (hb.mono HB7.out.size))
  have HZ8 : Hid (w7.heap.size ≤ w8.heap.size) := Lib.hid hb.size
  have HRf08 := Lib.hid (HRf00.out.below HB8.out (Nat.le_refl _))
  have HKa08 := Lib.hid ((hb.block _ (lt_of_block HKa07.out)).trans HKa07.out)
  have HRw8 := Lib.hid (HRw7.out.below hb (Nat.le_refl _))
  have HOx08 := Lib.hid (HOx07.out.next hb)
  have HKx08 := Lib.hid ((hb.block _ (lt_of_block HKx07.out)).trans HKx07.out)
  have HOg8 := Lib.hid (HOg7.out.next hb)
  have HBs4_8 : Hid (Below w4.heap.size w4 w8) := Lib.hid (HBs4_7.out.trans (hb.mono HBs4_7.out.size))
  clear hb
  clear ca00 ca01 ca02 fa00 fa01 fa02 lta0 cx00 cx01 cx02 fx00 fx01 fx02 ltx0
  have lta0 := lt_of_block HKa08.out
  obtain ⟨ca00, ca01, ca02, fa00, fa01, fa02⟩ := cell3 HKa08.out
  have ltx0 := lt_of_block HKx08.out
  obtain ⟨cx00, cx01, cx02, fx00, fx01, fx02⟩ := cell3 HKx08.out
  go_wp2_with fail
  clear ca00 ca01 ca02 fa00 fa01 fa02 lta0 cx00 cx01 cx02 fx00 fx01 fx02 ltx0
  have lta0 := lt_of_block HKa08.out
  obtain ⟨ca00, ca01, ca02, fa00, fa01, fa02⟩ := cell3 HKa08.out
  have ltx0 := lt_of_block HKx08.out
  obtain ⟨cx00, cx01, cx02, fx00, fx01, fx02⟩ := cell3 HKx08.out
  go_region_held3 (fun w' => w'.cell? ⟨w5.heap.size, 0, none⟩ = some (.int .i64 up0) ∧ w'.cell? ⟨w5.heap.size, 1, none⟩ = some (.int .i64 lo0) ∧ w'.cell? ⟨w5.heap.size, 2, none⟩ = some (.slice px0 rs0.length kx0) ∧ w'.cell? ⟨w.heap.size, 0, none⟩ = some (.int .i64 up0) ∧ w'.cell? ⟨w.heap.size, 1, none⟩ = some (.int .i64 lo0) ∧ w'.cell? ⟨w.heap.size, 2, none⟩ = some (.slice ad0 rs0.length cp0))
    (first
      | go_keep
      | exact ⟨(hq1.cell (p := ⟨w5.heap.size, 0, none⟩) ltx0).trans cx00, (hq1.cell (p := ⟨w5.heap.size, 1, none⟩) ltx0).trans cx01, (hq1.cell (p := ⟨w5.heap.size, 2, none⟩) ltx0).trans cx02, (hq1.cell (p := ⟨w.heap.size, 0, none⟩) lta0).trans ca00, (hq1.cell (p := ⟨w.heap.size, 1, none⟩) lta0).trans ca01, (hq1.cell (p := ⟨w.heap.size, 2, none⟩) lta0).trans ca02⟩)
    (first
      | (go_at_call 48; refine (toFrame_any up0 lo0 _ rs0 _ (HRf00.out.below HB8.out.drew (Nat.le_refl _)) hn0).mono ?_; rintro e w9 ⟨⟨s7, rfl, hown7⟩, hq1⟩; obtain ⟨p7, k7, rfl⟩ := own_form hown7)
      | (go_at_call 49; refine (eqFrame_yes up0 lo0 _ _ rs0 _ (RodsR.below (RodsR.of_own HOx08.out.1) ((Below.refl _ w8).drew.trans hq1) (Nat.le_refl _)) (RodsR.of_own hown7)).mono ?_; rintro e w9 ⟨rfl, hq2⟩; replace hq1 := hq1.trans (hq2.mono hq1.size); clear hq2))
  have hb := (Below.refl _ w8).drew.trans hq1
  clear hq1 hown7
  have HB9 : Hid (Below w.heap.size w w9) := Lib.hid (HB8.out.trans (hb.mono HB8.out.size))
  have HZ9 : Hid (w8.heap.size ≤ w9.heap.size) := Lib.hid hb.size
  have HRf09 := Lib.hid (HRf00.out.below HB9.out (Nat.le_refl _))
  have HKa09 := Lib.hid ((hb.block _ (lt_of_block HKa08.out)).trans HKa08.out)
  have HRw9 := Lib.hid (HRw8.out.below hb (Nat.le_refl _))
  have HOx09 := Lib.hid (HOx08.out.next hb)
  have HKx09 := Lib.hid ((hb.block _ (lt_of_block HKx08.out)).trans HKx08.out)
  have HOg9 := Lib.hid (HOg8.out.next hb)
  have HBs4_9 : Hid (Below w4.heap.size w4 w9) := Lib.hid (HBs4_8.out.trans (hb.mono HBs4_8.out.size))
  clear hb
  clear ca00 ca01 ca02 fa00 fa01 fa02 lta0 cx00 cx01 cx02 fx00 fx01 fx02 ltx0
  have lta0 := lt_of_block HKa09.out
  obtain ⟨ca00, ca01, ca02, fa00, fa01, fa02⟩ := cell3 HKa09.out
  have ltx0 := lt_of_block HKx09.out
  obtain ⟨cx00, cx01, cx02, fx00, fx01, fx02⟩ := cell3 HKx09.out
  go_wp2_with fail
  refine (markFrame_at up0 lo0 _ rs0.length _ _ _ _ HOx09.out hn0 1 (by omega) (by have := HZ1.out; have := HZ2.out; have := HZ3.out; have := HZ4.out; have := HZ5.out; have := HZ6.out; have := HZ7.out; have := HZ8.out; have := HZ9.out;  omega)).mono ?_
  rintro e w10 ⟨rfl, ho, hm⟩
  have HZ10 : Hid (w9.heap.size ≤ w10.heap.size) := Lib.hid hm.size
  have HB10 : Hid (Below w.heap.size w w10) := Lib.hid (HB9.out.trans (hm.below.mono (by have := HZ1.out; have := HZ2.out; have := HZ3.out; have := HZ4.out; have := HZ5.out; have := HZ6.out; have := HZ7.out; have := HZ8.out; have := HZ9.out; have := HB0.out.size; omega)))
  have HRf010 := Lib.hid (HRf00.out.below HB10.out (Nat.le_refl _))
  have HKa010 := Lib.hid ((hm.block _ (by have := lt_of_block HKa09.out; have := HZ1.out; have := HZ2.out; have := HZ3.out; have := HZ4.out; have := HZ5.out; have := HZ6.out; have := HZ7.out; have := HZ8.out; have := HZ9.out; omega)).trans HKa09.out)
  have HRw10 := Lib.hid (HRw4.out.below (HBs4_9.out.trans (hm.below.mono (by have := HZ1.out; have := HZ2.out; have := HZ3.out; have := HZ4.out; have := HZ5.out; have := HZ6.out; have := HZ7.out; have := HZ8.out; have := HZ9.out; omega))) (Nat.le_refl _))
  have HOg10 := Lib.hid (HOg9.out.btw hm (by have := HZ1.out; have := HZ2.out; have := HZ3.out; have := HZ4.out; have := HZ5.out; have := HZ6.out; have := HZ7.out; have := HZ8.out; have := HZ9.out; omega))
  have HBs4_10 : Hid (Below w4.heap.size w4 w10) := Lib.hid (HBs4_9.out.trans (hm.below.mono (by have := HZ1.out; have := HZ2.out; have := HZ3.out; have := HZ4.out; have := HZ5.out; have := HZ6.out; have := HZ7.out; have := HZ8.out; have := HZ9.out; omega)))
  clear hm
  clear ho
  have hxk : ¬ (1 + 2 * (rs0.length : Int) < 0) := by omega
  clear ca00 ca01 ca02 fa00 fa01 fa02 lta0 cx00 cx01 cx02 fx00 fx01 fx02 ltx0
  have lta0 := lt_of_block HKa010.out
  obtain ⟨ca00, ca01, ca02, fa00, fa01, fa02⟩ := cell3 HKa010.out
  go_wp2_with fail
  refine (eqIntS_yes _ _ qs _ HOg10.out.reads HRw10.out).mono ?_
  rintro e w11 ⟨rfl, hb⟩
  have HB11 : Hid (Below w.heap.size w w11) := Lib.hid (HB10.out.trans (hb.mono HB10.out.size))
  have HZ11 : Hid (w10.heap.size ≤ w11.heap.size) := Lib.hid hb.size
  have HRf011 := Lib.hid (HRf00.out.below HB11.out (Nat.le_refl _))
  have HKa011 := Lib.hid ((hb.block _ (lt_of_block HKa010.out)).trans HKa010.out)
  have HRw11 := Lib.hid (HRw10.out.below hb (Nat.le_refl _))
  have HOg11 := Lib.hid (HOg10.out.next hb)
  have HBs4_11 : Hid (Below w4.heap.size w4 w11) := Lib.hid (HBs4_10.out.trans (hb.mono HBs4_10.out.size))
  clear hb
  clear ca00 ca01 ca02 fa00 fa01 fa02 lta0
  have lta0 := lt_of_block HKa011.out
  obtain ⟨ca00, ca01, ca02, fa00, fa01, fa02⟩ := cell3 HKa011.out
  go_wp2_with fail
  refine (markIntS_oc _ qs.length 1 _ _ _ _ HOg11.out rfl (by omega) (by omega)).mono ?_
  rintro e w12 ⟨rfl, ho, hm⟩
  have HZ12 : Hid (w11.heap.size ≤ w12.heap.size) := Lib.hid hm.size
  have HB12 : Hid (Below w.heap.size w w12) := Lib.hid (HB11.out.trans (hm.below.mono (by have := HZ1.out; have := HZ2.out; have := HZ3.out; have := HZ4.out; have := HZ5.out; have := HZ6.out; have := HZ7.out; have := HZ8.out; have := HZ9.out; have := HZ10.out; have := HZ11.out; have := HB0.out.size; omega)))
  have HRf012 := Lib.hid (HRf00.out.below HB12.out (Nat.le_refl _))
  have HKa012 := Lib.hid ((hm.block _ (by have := lt_of_block HKa011.out; have := HZ1.out; have := HZ2.out; have := HZ3.out; have := HZ4.out; have := HZ5.out; have := HZ6.out; have := HZ7.out; have := HZ8.out; have := HZ9.out; have := HZ10.out; have := HZ11.out; omega)).trans HKa011.out)
  have HRw12 := Lib.hid (HRw4.out.below (HBs4_11.out.trans (hm.below.mono (by have := HZ1.out; have := HZ2.out; have := HZ3.out; have := HZ4.out; have := HZ5.out; have := HZ6.out; have := HZ7.out; have := HZ8.out; have := HZ9.out; have := HZ10.out; have := HZ11.out; omega))) (Nat.le_refl _))
  have HBs4_12 : Hid (Below w4.heap.size w4 w12) := Lib.hid (HBs4_11.out.trans (hm.below.mono (by have := HZ1.out; have := HZ2.out; have := HZ3.out; have := HZ4.out; have := HZ5.out; have := HZ6.out; have := HZ7.out; have := HZ8.out; have := HZ9.out; have := HZ10.out; have := HZ11.out; omega)))
  clear hm
  have HOg12 := Lib.hid (ho)
  clear ho
  clear ca00 ca01 ca02 fa00 fa01 fa02 lta0
  have lta0 := lt_of_block HKa012.out
  obtain ⟨ca00, ca01, ca02, fa00, fa01, fa02⟩ := cell3 HKa012.out
  go_wp2_with fail
  refine (heldIntS_any _ qs.length 1 _ HOg12.out.reads (by omega) (by omega)).mono ?_
  rintro e w13 ⟨rfl, hb⟩
  have HB13 : Hid (Below w.heap.size w w13) := Lib.hid (HB12.out.trans (hb.mono HB12.out.size))
  have HZ13 : Hid (w12.heap.size ≤ w13.heap.size) := Lib.hid hb.size
  have HRf013 := Lib.hid (HRf00.out.below HB13.out (Nat.le_refl _))
  have HKa013 := Lib.hid ((hb.block _ (lt_of_block HKa012.out)).trans HKa012.out)
  have HRw13 := Lib.hid (HRw12.out.below hb (Nat.le_refl _))
  have HOg13 := Lib.hid (HOg12.out.next hb)
  have HBs4_13 : Hid (Below w4.heap.size w4 w13) := Lib.hid (HBs4_12.out.trans (hb.mono HBs4_12.out.size))
  clear hb
  clear ca00 ca01 ca02 fa00 fa01 fa02 lta0
  have lta0 := lt_of_block HKa013.out
  obtain ⟨ca00, ca01, ca02, fa00, fa01, fa02⟩ := cell3 HKa013.out
  go_wp2_with fail
  refine (toFrame_any up0 lo0 _ rs0 _ HRf013.out hn0).mono ?_
  rintro e w14 ⟨⟨sz0, rfl, ho⟩, hb⟩
  have HB14 : Hid (Below w.heap.size w w14) := Lib.hid (HB13.out.trans (hb.mono HB13.out.size))
  have HZ14 : Hid (w13.heap.size ≤ w14.heap.size) := Lib.hid hb.size
  have HRf014 := Lib.hid (HRf00.out.below HB14.out (Nat.le_refl _))
  have HKa014 := Lib.hid ((hb.block _ (lt_of_block HKa013.out)).trans HKa013.out)
  have HRw14 := Lib.hid (HRw13.out.below hb (Nat.le_refl _))
  have HOg14 := Lib.hid (HOg13.out.next hb)
  have HBs4_14 : Hid (Below w4.heap.size w4 w14) := Lib.hid (HBs4_13.out.trans (hb.mono HBs4_13.out.size))
  clear hb
  obtain ⟨pz0, kz0, rfl⟩ := own_form ho
  have HRz014 := Lib.hid ((RodsR.of_own ho))
  have HBs14_14 : Hid (Below w14.heap.size w14 w14) := Lib.hid (Below.refl _ _)
  clear ho
  clear ca00 ca01 ca02 fa00 fa01 fa02 lta0
  have lta0 := lt_of_block HKa014.out
  obtain ⟨ca00, ca01, ca02, fa00, fa01, fa02⟩ := cell3 HKa014.out
  go_wp2_with fail
  refine (HI.out hn0 _ _ HRz014.out).mono ?_
  rintro e w15 ⟨⟨sh, rfl, ho⟩, hb⟩
  have HB15 : Hid (Below w.heap.size w w15) := Lib.hid (HB14.out.trans (hb.mono HB14.out.size))
  have HZ15 : Hid (w14.heap.size ≤ w15.heap.size) := Lib.hid hb.size
  have HRf015 := Lib.hid (HRf00.out.below HB15.out (Nat.le_refl _))
  have HKa015 := Lib.hid ((hb.block _ (lt_of_block HKa014.out)).trans HKa014.out)
  have HRw15 := Lib.hid (HRw14.out.below hb (Nat.le_refl _))
  have HOg15 := Lib.hid (HOg14.out.next hb)
  have HRz015 := Lib.hid (HRz014.out.below hb (Nat.le_refl _))
  have HBs4_15 : Hid (Below w4.heap.size w4 w15) := Lib.hid (HBs4_14.out.trans (hb.mono HBs4_14.out.size))
  have HBs14_15 : Hid (Below w14.heap.size w14 w15) := Lib.hid (HBs14_14.out.trans (hb.mono HBs14_14.out.size))
  clear hb
  obtain ⟨ph, kh, rfl⟩ := ho.form
  have HOh15 := Lib.hid (ho)
  clear ho
  clear ca00 ca01 ca02 fa00 fa01 fa02 lta0
  have lta0 := lt_of_block HKa015.out
  obtain ⟨ca00, ca01, ca02, fa00, fa01, fa02⟩ := cell3 HKa015.out
  go_wp2_with fail
  refine (eqIntS_yes _ _ qs _ HOh15.out.reads HRw15.out).mono ?_
  rintro e w16 ⟨rfl, hb⟩
  have HB16 : Hid (Below w.heap.size w w16) := Lib.hid (HB15.out.trans (hb.mono HB15.out.size))
  have HZ16 : Hid (w15.heap.size ≤ w16.heap.size) := Lib.hid hb.size
  have HRf016 := Lib.hid (HRf00.out.below HB16.out (Nat.le_refl _))
  have HKa016 := Lib.hid ((hb.block _ (lt_of_block HKa015.out)).trans HKa015.out)
  have HRw16 := Lib.hid (HRw15.out.below hb (Nat.le_refl _))
  have HOg16 := Lib.hid (HOg15.out.next hb)
  have HRz016 := Lib.hid (HRz015.out.below hb (Nat.le_refl _))
  have HOh16 := Lib.hid (HOh15.out.next hb)
  have HBs4_16 : Hid (Below w4.heap.size w4 w16) := Lib.hid (HBs4_15.out.trans (hb.mono HBs4_15.out.size))
  have HBs14_16 : Hid (Below w14.heap.size w14 w16) := Lib.hid (HBs14_15.out.trans (hb.mono HBs14_15.out.size))
  clear hb
  clear ca00 ca01 ca02 fa00 fa01 fa02 lta0
  have lta0 := lt_of_block HKa016.out
  obtain ⟨ca00, ca01, ca02, fa00, fa01, fa02⟩ := cell3 HKa016.out
  go_wp2_with fail
  refine (heldIntS_any _ qs.length 1 _ HOg16.out.reads (by omega) (by omega)).mono ?_
  rintro e w17 ⟨rfl, hb⟩
  have HB17 : Hid (Below w.heap.size w w17) := Lib.hid (HB16.out.trans (hb.mono HB16.out.size))
  have HZ17 : Hid (w16.heap.size ≤ w17.heap.size) := Lib.hid hb.size
  have HRf017 := Lib.hid (HRf00.out.below HB17.out (Nat.le_refl _))
  have HKa017 := Lib.hid ((hb.block _ (lt_of_block HKa016.out)).trans HKa016.out)
  have HRw17 := Lib.hid (HRw16.out.below hb (Nat.le_refl _))
  have HOg17 := Lib.hid (HOg16.out.next hb)
  have HRz017 := Lib.hid (HRz016.out.below hb (Nat.le_refl _))
  have HOh17 := Lib.hid (HOh16.out.next hb)
  have HBs4_17 : Hid (Below w4.heap.size w4 w17) := Lib.hid (HBs4_16.out.trans (hb.mono HBs4_16.out.size))
  have HBs14_17 : Hid (Below w14.heap.size w14 w17) := Lib.hid (HBs14_16.out.trans (hb.mono HBs14_16.out.size))
  clear hb
  clear ca00 ca01 ca02 fa00 fa01 fa02 lta0
  have lta0 := lt_of_block HKa017.out
  obtain ⟨ca00, ca01, ca02, fa00, fa01, fa02⟩ := cell3 HKa017.out
  go_wp2_with fail
  go_ret
  exact ⟨rfl, HB17.out⟩
end Go.Proofs.Ytjkjaadcdolbhaa
