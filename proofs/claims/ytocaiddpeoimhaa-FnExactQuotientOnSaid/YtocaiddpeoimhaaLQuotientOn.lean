/- The law on QuotientOn: it returns true where the model and the program give one answer. -/
import Derived.Test.YtocaiddpeoimhaaKb
import Derived.Test.YtocaiddpeoimhaaKa
import Derived.Deep.RegionHeld3
namespace Go.Proofs.Ytocaiddpeoimhaa
set_option linter.unusedVariables false
open Go.RowKit

set_option maxRecDepth 100000 in
set_option maxHeartbeats 6400000 in
theorem lawQuotientOn (w : World) (up0 lo0 : Int) (sv0 : Value) (rs0 : List (Int × Int)) (h0 : RodsR w sv0 rs0) (a1 : Int) (fu fl : Int) (qs : List (Int × Int)) (hq : qs.length ≤ 1000) (r1 : Int) (r2 : Bool) 
    (hS : rs0.length ≤ 1048576 → ∀ s0 w, RodsR w s0 rs0 → Calls Try.prog 29 #[.agg #[.int .i64 up0, .int .i64 lo0, s0], .int .i64 a1] w fun e w' => (∃ sq, e = .returned (.tuple #[.agg #[.int .i64 fu, .int .i64 fl, sq], .int .i64 r1, .bool r2]) ∧ RodsR w' sq qs) ∧ Below w.heap.size w w') 
    (hI : rs0.length ≤ 1048576 → ∀ s0 w, RodsR w s0 rs0 → Calls Try.prog 28 #[.agg #[.int .i64 up0, .int .i64 lo0, s0], .int .i64 a1] w fun e w' => (∃ sq, e = .returned (.tuple #[.agg #[.int .i64 fu, .int .i64 fl, sq], .int .i64 r1, .bool r2]) ∧ w'.ownsRow w.heap.size 94 2 sq qs.length (flat qs)) ∧ Below w.heap.size w w') :
    Calls Try.prog 12 #[.agg #[.int .i64 up0, .int .i64 lo0, sv0], .int .i64 a1] w fun e w' => e = .returned (.bool true) ∧ Below w.heap.size w w' := by
  have HS := Lib.hid hS
  have HI := Lib.hid hI
  obtain ⟨ad0, cp0, rfl⟩ : ∃ a c, sv0 = .slice a rs0.length c := by obtain ⟨a, c, e, _⟩ := h0; exact ⟨a, c, e⟩
  have hqk : ¬ (1 + 2 * (qs.length : Int) < 0) := by omega
  have hqk' : ((1 + 2 * (qs.length : Int)) != (1 + 2 * (qs.length : Int))) = false := by simp
  have HB0 : Hid (Below w.heap.size w w) := Lib.hid (Below.refl _ _)
  have HRf00 := Lib.hid (h0)
  clear hS hI h0
  have hr1 : (r1 != r1) = false := by simp
  have hr2 : (r2 != r2) = false := by simp
  go_enter Try.func12, Try.ntmps12
  go_wp2_with fail
  have hb : Below w.heap.size w (w.alloc (.cells #[.int .i64 up0, .int .i64 lo0, .slice ad0 rs0.length cp0] 60)) := (Below.refl _ _).alloc (Nat.le_refl _) _
  have hk : (w.alloc (.cells #[.int .i64 up0, .int .i64 lo0, .slice ad0 rs0.length cp0] 60)).heap[w.heap.size]? = some (.cells #[.int .i64 up0, .int .i64 lo0, .slice ad0 rs0.length cp0] 60 (0, 0)) := alloc_at rfl
  have hz : (w.alloc (.cells #[.int .i64 up0, .int .i64 lo0, .slice ad0 rs0.length cp0] 60)).heap.size = w.heap.size + 1 := by simp
  generalize w.alloc (.cells #[.int .i64 up0, .int .i64 lo0, .slice ad0 rs0.length cp0] 60) = w1 at hb hk hz ⊢
  have HB1 : Hid (Below w.heap.size w w1) := Lib.hid (HB0.out.trans (hb.mono HB0.out.size))
  have HZ1 : Hid (w.heap.size ≤ w1.heap.size) := Lib.hid hb.size
  have HRf01 := Lib.hid (HRf00.out.below HB1.out (Nat.le_refl _))
  have HKa01 := Lib.hid hk
  replace HZ1 : Hid (w.heap.size < w1.heap.size) := Lib.hid (by omega)
  have HE1 := Lib.hid hz
  clear hb hk hz
  refine (szFrame_any up0 lo0 1048576 _ rs0 _ HRf01.out (by omega) (by omega)).mono ?_
  rintro e w2 ⟨⟨l0, rfl, hl0, hk0⟩, hb⟩
  have HB2 : Hid (Below w.heap.size w w2) := Lib.hid (HB1.out.trans (hb.mono HB1.out.size))
  have HZ2 : Hid (w1.heap.size ≤ w2.heap.size) := Lib.hid hb.size
  have HRf02 := Lib.hid (HRf00.out.below HB2.out (Nat.le_refl _))
  have HKa02 := Lib.hid ((hb.block _ (lt_of_block HKa01.out)).trans HKa01.out)
  clear hb
  by_cases hr : l0 < 0
  · clear hk0
    have lta0 := lt_of_block HKa02.out
    obtain ⟨ca00, ca01, ca02, fa00, fa01, fa02⟩ := cell3 HKa02.out
    go_wp2_with fail
    go_ret
    exact ⟨rfl, HB2.out⟩
  have hn0 : rs0.length ≤ 1048576 := by have := hk0 (by omega); omega
  clear hk0
  have lta0 := lt_of_block HKa02.out
  obtain ⟨ca00, ca01, ca02, fa00, fa01, fa02⟩ := cell3 HKa02.out
  go_wp2_with fail
  refine (toFrame_any up0 lo0 _ rs0 _ HRf02.out hn0).mono ?_
  rintro e w3 ⟨⟨st0, rfl, ho⟩, hb⟩
  have HB3 : Hid (Below w.heap.size w w3) := Lib.hid (HB2.out.trans (hb.mono HB2.out.size))
  have HZ3 : Hid (w2.heap.size ≤ w3.heap.size) := Lib.hid hb.size
  have HRf03 := Lib.hid (HRf00.out.below HB3.out (Nat.le_refl _))
  have HKa03 := Lib.hid ((hb.block _ (lt_of_block HKa02.out)).trans HKa02.out)
  clear hb
  obtain ⟨pt0, kt0, rfl⟩ := own_form ho
  have HRt03 := Lib.hid ((RodsR.of_own ho))
  have HBs3_3 : Hid (Below w3.heap.size w3 w3) := Lib.hid (Below.refl _ _)
  clear ho
  clear ca00 ca01 ca02 fa00 fa01 fa02 lta0
  have lta0 := lt_of_block HKa03.out
  obtain ⟨ca00, ca01, ca02, fa00, fa01, fa02⟩ := cell3 HKa03.out
  go_wp2_with fail
  refine (HS.out hn0 _ _ HRt03.out).mono ?_
  rintro e w4 ⟨⟨sw, rfl, ho⟩, hb⟩
  have HB4 : Hid (Below w.heap.size w w4) := Lib.hid (HB3.out.trans (hb.mono HB3.out.size))
  have HZ4 : Hid (w3.heap.size ≤ w4.heap.size) := Lib.hid hb.size
  have HRf04 := Lib.hid (HRf00.out.below HB4.out (Nat.le_refl _))
  have HKa04 := Lib.hid ((hb.block _ (lt_of_block HKa03.out)).trans HKa03.out)
  have HRt04 := Lib.hid (HRt03.out.below hb (Nat.le_refl _))
  have HBs3_4 : Hid (Below w3.heap.size w3 w4) := Lib.hid (HBs3_3.out.trans (hb.mono HBs3_3.out.size))
  clear hb
  obtain ⟨pw, kw, rfl⟩ : ∃ a c, sw = .slice a qs.length c := by obtain ⟨a, c, e, _⟩ := ho; exact ⟨a, c, e⟩
  have HRw4 := Lib.hid (ho)
  have HBs4_4 : Hid (Below w4.heap.size w4 w4) := Lib.hid (Below.refl _ _)
  clear ho
  clear ca00 ca01 ca02 fa00 fa01 fa02 lta0
  have lta0 := lt_of_block HKa04.out
  obtain ⟨ca00, ca01, ca02, fa00, fa01, fa02⟩ := cell3 HKa04.out
  go_wp2_with fail
  have hb : Below w4.heap.size w4 (w4.alloc (.cells #[.int .i64 fu, .int .i64 fl, .slice pw qs.length kw] 43)) := (Below.refl _ _).alloc (Nat.le_refl _) _
  have hk : (w4.alloc (.cells #[.int .i64 fu, .int .i64 fl, .slice pw qs.length kw] 43)).heap[w4.heap.size]? = some (.cells #[.int .i64 fu, .int .i64 fl, .slice pw qs.length kw] 43 (0, 0)) := alloc_at rfl
  have hz : (w4.alloc (.cells #[.int .i64 fu, .int .i64 fl, .slice pw qs.length kw] 43)).heap.size = w4.heap.size + 1 := by simp
  generalize w4.alloc (.cells #[.int .i64 fu, .int .i64 fl, .slice pw qs.length kw] 43) = w5 at hb hk hz ⊢
  have HB5 : Hid (Below w.heap.size w w5) := Lib.hid (HB4.out.trans (hb.mono HB4.out.size))
  have HZ5 : Hid (w4.heap.size ≤ w5.heap.size) := Lib.hid hb.size
  have HRf05 := Lib.hid (HRf00.out.below HB5.out (Nat.le_refl _))
  have HKa05 := Lib.hid ((hb.block _ (lt_of_block HKa04.out)).trans HKa04.out)
  have HRt05 := Lib.hid (HRt04.out.below hb (Nat.le_refl _))
  have HRw5 := Lib.hid (HRw4.out.below hb (Nat.le_refl _))
  have HBs3_5 : Hid (Below w3.heap.size w3 w5) := Lib.hid (HBs3_4.out.trans (hb.mono HBs3_4.out.size))
  have HBs4_5 : Hid (Below w4.heap.size w4 w5) := Lib.hid (HBs4_4.out.trans (hb.mono HBs4_4.out.size))
  have HKw05 := Lib.hid hk
  replace HZ5 : Hid (w4.heap.size < w5.heap.size) := Lib.hid (by omega)
  have HE5 := Lib.hid hz
  clear hb hk hz
  refine (toFrame_any up0 lo0 _ rs0 _ HRf05.out hn0).mono ?_
  rintro e w6 ⟨⟨sx0, rfl, ho⟩, hb⟩
  have HB6 : Hid (Below w.heap.size w w6) := Lib.hid (HB5.out.trans (hb.mono HB5.out.size))
  have HZ6 : Hid (w5.heap.size ≤ w6.heap.size) := Lib.hid hb.size
  have HRf06 := Lib.hid (HRf00.out.below HB6.out (Nat.le_refl _))
  have HKa06 := Lib.hid ((hb.block _ (lt_of_block HKa05.out)).trans HKa05.out)
  have HRw6 := Lib.hid (HRw5.out.below hb (Nat.le_refl _))
  have HKw06 := Lib.hid ((hb.block _ (lt_of_block HKw05.out)).trans HKw05.out)
  have HBs4_6 : Hid (Below w4.heap.size w4 w6) := Lib.hid (HBs4_5.out.trans (hb.mono HBs4_5.out.size))
  clear hb
  obtain ⟨px0, kx0, rfl⟩ := own_form ho
  have HOx06 := Lib.hid (Ow.mk' ho)
  clear ho
  clear ca00 ca01 ca02 fa00 fa01 fa02 lta0
  have lta0 := lt_of_block HKa06.out
  obtain ⟨ca00, ca01, ca02, fa00, fa01, fa02⟩ := cell3 HKa06.out
  have ltw0 := lt_of_block HKw06.out
  obtain ⟨cw00, cw01, cw02, fw00, fw01, fw02⟩ := cell3 HKw06.out
  go_wp2_with fail
  have hb : Below w6.heap.size w6 (w6.alloc (.cells #[.int .i64 up0, .int .i64 lo0, .slice px0 rs0.length kx0] 43)) := (Below.refl _ _).alloc (Nat.le_refl _) _
  have hk : (w6.alloc (.cells #[.int .i64 up0, .int .i64 lo0, .slice px0 rs0.length kx0] 43)).heap[w6.heap.size]? = some (.cells #[.int .i64 up0, .int .i64 lo0, .slice px0 rs0.length kx0] 43 (0, 0)) := alloc_at rfl
  have hz : (w6.alloc (.cells #[.int .i64 up0, .int .i64 lo0, .slice px0 rs0.length kx0] 43)).heap.size = w6.heap.size + 1 := by simp
  generalize w6.alloc (.cells #[.int .i64 up0, .int .i64 lo0, .slice px0 rs0.length kx0] 43) = w7 at hb hk hz ⊢
  have HB7 : Hid (Below w.heap.size w w7) := Lib.hid (HB6.out.trans (hb.mono HB6.out.size))
  have HZ7 : Hid (w6.heap.size ≤ w7.heap.size) := Lib.hid hb.size
  have HRf07 := Lib.hid (HRf00.out.below HB7.out (Nat.le_refl _))
  have HKa07 := Lib.hid ((hb.block _ (lt_of_block HKa06.out)).trans HKa06.out)
  have HRw7 := Lib.hid (HRw6.out.below hb (Nat.le_refl _))
  have HKw07 := Lib.hid ((hb.block _ (lt_of_block HKw06.out)).trans HKw06.out)
  have HOx07 := Lib.hid (HOx06.out.next hb)
  have HBs4_7 : Hid (Below w4.heap.size w4 w7) := Lib.hid (HBs4_6.out.trans (hb.mono HBs4_6.out.size))
  have HKx07 := Lib.hid hk
  replace HZ7 : Hid (w6.heap.size < w7.heap.size) := Lib.hid (by omega)
  have HE7 := Lib.hid hz
  clear hb hk hz
  refine (HI.out hn0 _ _ (RodsR.of_own HOx07.out.1)).mono ?_
  rintro e w8 ⟨⟨sg, rfl, ho⟩, hb⟩
  have HB8 : Hid (Below w.heap.size w w8) := Lib.hid (HB7.out.trans (hb.mono HB7.out.size))
  have HZ8 : Hid (w7.heap.size ≤ w8.heap.size) := Lib.hid hb.size
  have HRf08 := Lib.hid (HRf00.out.below HB8.out (Nat.le_refl _))
  have HKa08 := Lib.hid ((hb.block _ (lt_of_block HKa07.out)).trans HKa07.out)
  have HRw8 := Lib.hid (HRw7.out.below hb (Nat.le_refl _))
  have HKw08 := Lib.hid ((hb.block _ (lt_of_block HKw07.out)).trans HKw07.out)
  have HOx08 := Lib.hid (HOx07.out.next hb)
  have HKx08 := Lib.hid ((hb.block _ (lt_of_block HKx07.out)).trans HKx07.out)
  have HBs4_8 : Hid (Below w4.heap.size w4 w8) := Lib.hid (HBs4_7.out.trans (hb.mono HBs4_7.out.size))
  clear hb
  obtain ⟨pg, kg, rfl⟩ := own_form ho
  have HOg8 := Lib.hid (Ow.mk' ho)
  clear ho
  clear ca00 ca01 ca02 fa00 fa01 fa02 lta0 cw00 cw01 cw02 fw00 fw01 fw02 ltw0
  have lta0 := lt_of_block HKa08.out
  obtain ⟨ca00, ca01, ca02, fa00, fa01, fa02⟩ := cell3 HKa08.out
  have ltw0 := lt_of_block HKw08.out
  obtain ⟨cw00, cw01, cw02, fw00, fw01, fw02⟩ := cell3 HKw08.out
  have ltx0 := lt_of_block HKx08.out
  obtain ⟨cx00, cx01, cx02, fx00, fx01, fx02⟩ := cell3 HKx08.out
  go_wp2_with fail
  have hb : Below w8.heap.size w8 (w8.alloc (.cells #[.int .i64 fu, .int .i64 fl, .slice pg qs.length kg] 43)) := (Below.refl _ _).alloc (Nat.le_refl _) _
  have hk : (w8.alloc (.cells #[.int .i64 fu, .int .i64 fl, .slice pg qs.length kg] 43)).heap[w8.heap.size]? = some (.cells #[.int .i64 fu, .int .i64 fl, .slice pg qs.length kg] 43 (0, 0)) := alloc_at rfl
  have hz : (w8.alloc (.cells #[.int .i64 fu, .int .i64 fl, .slice pg qs.length kg] 43)).heap.size = w8.heap.size + 1 := by simp
  generalize w8.alloc (.cells #[.int .i64 fu, .int .i64 fl, .slice pg qs.length kg] 43) = w9 at hb hk hz ⊢
  have HB9 : Hid (Below w.heap.size w w9) := Lib.hid (HB8.out.trans (hb.mono HB8.out.size))
  have HZ9 : Hid (w8.heap.size ≤ w9.heap.size) := Lib.hid hb.size
  have HRf09 := Lib.hid (HRf00.out.below HB9.out (Nat.le_refl _))
  have HKa09 := Lib.hid ((hb.block _ (lt_of_block HKa08.out)).trans HKa08.out)
  have HRw9 := Lib.hid (HRw8.out.below hb (Nat.le_refl _))
  have HKw09 := Lib.hid ((hb.block _ (lt_of_block HKw08.out)).trans HKw08.out)
  have HOx09 := Lib.hid (HOx08.out.next hb)
  have HKx09 := Lib.hid ((hb.block _ (lt_of_block HKx08.out)).trans HKx08.out)
  have HOg9 := Lib.hid (HOg8.out.next hb)
  have HBs4_9 : Hid (Below w4.heap.size w4 w9) := Lib.hid (HBs4_8.out.trans (hb.mono HBs4_8.out.size))
  have HKg09 := Lib.hid hk
  replace HZ9 : Hid (w8.heap.size < w9.heap.size) := Lib.hid (by omega)
  have HE9 := Lib.hid hz
  clear hb hk hz
  refine (eqFrame_yes fu fl _ _ qs _ (RodsR.of_own HOg9.out.1) HRw9.out).mono ?_
  rintro e w10 ⟨rfl, hb⟩
  have HB10 : Hid (Below w.heap.size w w10) := Lib.hid (HB9.out.trans (hb.mono HB9.out.size))
  have HZ10 : Hid (w9.heap.size ≤ w10.heap.size) := Lib.hid hb.size
  have HRf010 := Lib.hid (HRf00.out.below HB10.out (Nat.le_refl _))
  have HKa010 := Lib.hid ((hb.block _ (lt_of_block HKa09.out)).trans HKa09.out)
  have HRw10 := Lib.hid (HRw9.out.below hb (Nat.le_refl _))
  have HKw010 := Lib.hid ((hb.block _ (lt_of_block HKw09.out)).trans HKw09.out)
  have HOx010 := Lib.hid (HOx09.out.next hb)
  have HKx010 := Lib.hid ((hb.block _ (lt_of_block HKx09.out)).trans HKx09.out)
  have HOg10 := Lib.hid (HOg9.out.next hb)
  have HKg010 := Lib.hid ((hb.block _ (lt_of_block HKg09.out)).trans HKg09.out)
  have HBs4_10 : Hid (Below w4.heap.size w4 w10) := Lib.hid (HBs4_9.out.trans (hb.mono HBs4_9.out.size))
  clear hb
  clear ca00 ca01 ca02 fa00 fa01 fa02 lta0 cw00 cw01 cw02 fw00 fw01 fw02 ltw0 cx00 cx01 cx02 fx00 fx01 fx02 ltx0
  have lta0 := lt_of_block HKa010.out
  obtain ⟨ca00, ca01, ca02, fa00, fa01, fa02⟩ := cell3 HKa010.out
  have ltw0 := lt_of_block HKw010.out
  obtain ⟨cw00, cw01, cw02, fw00, fw01, fw02⟩ := cell3 HKw010.out
  have ltx0 := lt_of_block HKx010.out
  obtain ⟨cx00, cx01, cx02, fx00, fx01, fx02⟩ := cell3 HKx010.out
  have ltg0 := lt_of_block HKg010.out
  obtain ⟨cg00, cg01, cg02, fg00, fg01, fg02⟩ := cell3 HKg010.out
  go_wp2_with fail
  clear ca00 ca01 ca02 fa00 fa01 fa02 lta0 cw00 cw01 cw02 fw00 fw01 fw02 ltw0 cx00 cx01 cx02 fx00 fx01 fx02 ltx0 cg00 cg01 cg02 fg00 fg01 fg02 ltg0
  have lta0 := lt_of_block HKa010.out
  obtain ⟨ca00, ca01, ca02, fa00, fa01, fa02⟩ := cell3 HKa010.out
  have ltw0 := lt_of_block HKw010.out
  obtain ⟨cw00, cw01, cw02, fw00, fw01, fw02⟩ := cell3 HKw010.out
  have ltx0 := lt_of_block HKx010.out
  obtain ⟨cx00, cx01, cx02, fx00, fx01, fx02⟩ := cell3 HKx010.out
  have ltg0 := lt_of_block HKg010.out
  obtain ⟨cg00, cg01, cg02, fg00, fg01, fg02⟩ := cell3 HKg010.out
  go_region_held3 (fun w' => w'.cell? ⟨w6.heap.size, 0, none⟩ = some (.int .i64 up0) ∧ w'.cell? ⟨w6.heap.size, 1, none⟩ = some (.int .i64 lo0) ∧ w'.cell? ⟨w6.heap.size, 2, none⟩ = some (.slice px0 rs0.length kx0) ∧ w'.cell? ⟨w.heap.size, 0, none⟩ = some (.int .i64 up0) ∧ w'.cell? ⟨w.heap.size, 1, none⟩ = some (.int .i64 lo0) ∧ w'.cell? ⟨w.heap.size, 2, none⟩ = some (.slice ad0 rs0.length cp0))
    (first
      | go_keep
      | exact ⟨(hq1.cell (p := ⟨w6.heap.size, 0, none⟩) ltx0).trans cx00, (hq1.cell (p := ⟨w6.heap.size, 1, none⟩) ltx0).trans cx01, (hq1.cell (p := ⟨w6.heap.size, 2, none⟩) ltx0).trans cx02, (hq1.cell (p := ⟨w.heap.size, 0, none⟩) lta0).trans ca00, (hq1.cell (p := ⟨w.heap.size, 1, none⟩) lta0).trans ca01, (hq1.cell (p := ⟨w.heap.size, 2, none⟩) lta0).trans ca02⟩)
    (first
      | (go_at_call 51; refine (toFrame_any up0 lo0 _ rs0 _ (HRf00.out.below HB10.out.drew (Nat.le_refl _)) hn0).mono ?_; rintro e w11 ⟨⟨s7, rfl, hown7⟩, hq1⟩; obtain ⟨p7, k7, rfl⟩ := own_form hown7)
      | (go_at_call 52; refine (eqFrame_yes up0 lo0 _ _ rs0 _ (RodsR.below (RodsR.of_own HOx010.out.1) ((Below.refl _ w10).drew.trans hq1) (Nat.le_refl _)) (RodsR.of_own hown7)).mono ?_; rintro e w11 ⟨rfl, hq2⟩; replace hq1 := hq1.trans (hq2.mono hq1.size); clear hq2))
  have hb := (Below.refl _ w10).drew.trans hq1
  clear hq1 hown7
  have HB11 : Hid (Below w.heap.size w w11) := Lib.hid (HB10.out.trans (hb.mono HB10.out.size))
  have HZ11 : Hid (w10.heap.size ≤ w11.heap.size) := Lib.hid hb.size
  have HRf011 := Lib.hid (HRf00.out.below HB11.out (Nat.le_refl _))
  have HKa011 := Lib.hid ((hb.block _ (lt_of_block HKa010.out)).trans HKa010.out)
  have HRw11 := Lib.hid (HRw10.out.below hb (Nat.le_refl _))
  have HKw011 := Lib.hid ((hb.block _ (lt_of_block HKw010.out)).trans HKw010.out)
  have HOx011 := Lib.hid (HOx010.out.next hb)
  have HKx011 := Lib.hid ((hb.block _ (lt_of_block HKx010.out)).trans HKx010.out)
  have HOg11 := Lib.hid (HOg10.out.next hb)
  have HKg011 := Lib.hid ((hb.block _ (lt_of_block HKg010.out)).trans HKg010.out)
  have HBs4_11 : Hid (Below w4.heap.size w4 w11) := Lib.hid (HBs4_10.out.trans (hb.mono HBs4_10.out.size))
  clear hb
  clear ca00 ca01 ca02 fa00 fa01 fa02 lta0 cw00 cw01 cw02 fw00 fw01 fw02 ltw0 cx00 cx01 cx02 fx00 fx01 fx02 ltx0 cg00 cg01 cg02 fg00 fg01 fg02 ltg0
  have lta0 := lt_of_block HKa011.out
  obtain ⟨ca00, ca01, ca02, fa00, fa01, fa02⟩ := cell3 HKa011.out
  have ltw0 := lt_of_block HKw011.out
  obtain ⟨cw00, cw01, cw02, fw00, fw01, fw02⟩ := cell3 HKw011.out
  have ltx0 := lt_of_block HKx011.out
  obtain ⟨cx00, cx01, cx02, fx00, fx01, fx02⟩ := cell3 HKx011.out
  have ltg0 := lt_of_block HKg011.out
  obtain ⟨cg00, cg01, cg02, fg00, fg01, fg02⟩ := cell3 HKg011.out
  go_wp2_with fail
  refine (markFrame_at up0 lo0 _ rs0.length _ _ _ _ HOx011.out hn0 1 (by omega) (by have := HZ1.out; have := HZ2.out; have := HZ3.out; have := HZ4.out; have := HZ5.out; have := HZ6.out; have := HZ7.out; have := HZ8.out; have := HZ9.out; have := HZ10.out; have := HZ11.out;  omega)).mono ?_
  rintro e w12 ⟨rfl, ho, hm⟩
  have HZ12 : Hid (w11.heap.size ≤ w12.heap.size) := Lib.hid hm.size
  have HB12 : Hid (Below w.heap.size w w12) := Lib.hid (HB11.out.trans (hm.below.mono (by have := HZ1.out; have := HZ2.out; have := HZ3.out; have := HZ4.out; have := HZ5.out; have := HZ6.out; have := HZ7.out; have := HZ8.out; have := HZ9.out; have := HZ10.out; have := HZ11.out; have := HB0.out.size; omega)))
  have HRf012 := Lib.hid (HRf00.out.below HB12.out (Nat.le_refl _))
  have HKa012 := Lib.hid ((hm.block _ (by have := lt_of_block HKa011.out; have := HZ1.out; have := HZ2.out; have := HZ3.out; have := HZ4.out; have := HZ5.out; have := HZ6.out; have := HZ7.out; have := HZ8.out; have := HZ9.out; have := HZ10.out; have := HZ11.out; omega)).trans HKa011.out)
  have HRw12 := Lib.hid (HRw4.out.below (HBs4_11.out.trans (hm.below.mono (by have := HZ1.out; have := HZ2.out; have := HZ3.out; have := HZ4.out; have := HZ5.out; have := HZ6.out; have := HZ7.out; have := HZ8.out; have := HZ9.out; have := HZ10.out; have := HZ11.out; omega))) (Nat.le_refl _))
  have HKw012 := Lib.hid ((hm.block _ (by have := lt_of_block HKw011.out; have := HZ1.out; have := HZ2.out; have := HZ3.out; have := HZ4.out; have := HZ5.out; have := HZ6.out; have := HZ7.out; have := HZ8.out; have := HZ9.out; have := HZ10.out; have := HZ11.out; omega)).trans HKw011.out)
  have HOg12 := Lib.hid (HOg11.out.btw hm (by have := HZ1.out; have := HZ2.out; have := HZ3.out; have := HZ4.out; have := HZ5.out; have := HZ6.out; have := HZ7.out; have := HZ8.out; have := HZ9.out; have := HZ10.out; have := HZ11.out; omega))
  have HKg012 := Lib.hid ((hm.block _ (by have := lt_of_block HKg011.out; have := HZ1.out; have := HZ2.out; have := HZ3.out; have := HZ4.out; have := HZ5.out; have := HZ6.out; have := HZ7.out; have := HZ8.out; have := HZ9.out; have := HZ10.out; have := HZ11.out; omega)).trans HKg011.out)
  have HBs4_12 : Hid (Below w4.heap.size w4 w12) := Lib.hid (HBs4_11.out.trans (hm.below.mono (by have := HZ1.out; have := HZ2.out; have := HZ3.out; have := HZ4.out; have := HZ5.out; have := HZ6.out; have := HZ7.out; have := HZ8.out; have := HZ9.out; have := HZ10.out; have := HZ11.out; omega)))
  clear hm
  clear ho
  have hxk : ¬ (1 + 2 * (rs0.length : Int) < 0) := by omega
  clear ca00 ca01 ca02 fa00 fa01 fa02 lta0 cw00 cw01 cw02 fw00 fw01 fw02 ltw0 cx00 cx01 cx02 fx00 fx01 fx02 ltx0 cg00 cg01 cg02 fg00 fg01 fg02 ltg0
  have lta0 := lt_of_block HKa012.out
  obtain ⟨ca00, ca01, ca02, fa00, fa01, fa02⟩ := cell3 HKa012.out
  have ltw0 := lt_of_block HKw012.out
  obtain ⟨cw00, cw01, cw02, fw00, fw01, fw02⟩ := cell3 HKw012.out
  have ltg0 := lt_of_block HKg012.out
  obtain ⟨cg00, cg01, cg02, fg00, fg01, fg02⟩ := cell3 HKg012.out
  go_wp2_with fail
  refine (eqFrame_yes fu fl _ _ qs _ (RodsR.of_own HOg12.out.1) HRw12.out).mono ?_
  rintro e w13 ⟨rfl, hb⟩
  have HB13 : Hid (Below w.heap.size w w13) := Lib.hid (HB12.out.trans (hb.mono HB12.out.size))
  have HZ13 : Hid (w12.heap.size ≤ w13.heap.size) := Lib.hid hb.size
  have HRf013 := Lib.hid (HRf00.out.below HB13.out (Nat.le_refl _))
  have HKa013 := Lib.hid ((hb.block _ (lt_of_block HKa012.out)).trans HKa012.out)
  have HRw13 := Lib.hid (HRw12.out.below hb (Nat.le_refl _))
  have HKw013 := Lib.hid ((hb.block _ (lt_of_block HKw012.out)).trans HKw012.out)
  have HOg13 := Lib.hid (HOg12.out.next hb)
  have HKg013 := Lib.hid ((hb.block _ (lt_of_block HKg012.out)).trans HKg012.out)
  have HBs4_13 : Hid (Below w4.heap.size w4 w13) := Lib.hid (HBs4_12.out.trans (hb.mono HBs4_12.out.size))
  clear hb
  clear ca00 ca01 ca02 fa00 fa01 fa02 lta0 cw00 cw01 cw02 fw00 fw01 fw02 ltw0 cg00 cg01 cg02 fg00 fg01 fg02 ltg0
  have lta0 := lt_of_block HKa013.out
  obtain ⟨ca00, ca01, ca02, fa00, fa01, fa02⟩ := cell3 HKa013.out
  have ltw0 := lt_of_block HKw013.out
  obtain ⟨cw00, cw01, cw02, fw00, fw01, fw02⟩ := cell3 HKw013.out
  have ltg0 := lt_of_block HKg013.out
  obtain ⟨cg00, cg01, cg02, fg00, fg01, fg02⟩ := cell3 HKg013.out
  go_wp2_with fail
  refine (markFrame_any fu fl _ qs.length _ _ _ _ HOg13.out (by omega) (by have := HZ1.out; have := HZ2.out; have := HZ3.out; have := HZ4.out; have := HZ5.out; have := HZ6.out; have := HZ7.out; have := HZ8.out; have := HZ9.out; have := HZ10.out; have := HZ11.out; have := HZ12.out; have := HZ13.out;  omega)).mono ?_
  rintro e w14 ⟨rfl, ho, hm⟩
  have HZ14 : Hid (w13.heap.size ≤ w14.heap.size) := Lib.hid hm.size
  have HB14 : Hid (Below w.heap.size w w14) := Lib.hid (HB13.out.trans (hm.below.mono (by have := HZ1.out; have := HZ2.out; have := HZ3.out; have := HZ4.out; have := HZ5.out; have := HZ6.out; have := HZ7.out; have := HZ8.out; have := HZ9.out; have := HZ10.out; have := HZ11.out; have := HZ12.out; have := HZ13.out; have := HB0.out.size; omega)))
  have HRf014 := Lib.hid (HRf00.out.below HB14.out (Nat.le_refl _))
  have HKa014 := Lib.hid ((hm.block _ (by have := lt_of_block HKa013.out; have := HZ1.out; have := HZ2.out; have := HZ3.out; have := HZ4.out; have := HZ5.out; have := HZ6.out; have := HZ7.out; have := HZ8.out; have := HZ9.out; have := HZ10.out; have := HZ11.out; have := HZ12.out; have := HZ13.out; omega)).trans HKa013.out)
  have HRw14 := Lib.hid (HRw4.out.below (HBs4_13.out.trans (hm.below.mono (by have := HZ1.out; have := HZ2.out; have := HZ3.out; have := HZ4.out; have := HZ5.out; have := HZ6.out; have := HZ7.out; have := HZ8.out; have := HZ9.out; have := HZ10.out; have := HZ11.out; have := HZ12.out; have := HZ13.out; omega))) (Nat.le_refl _))
  have HKw014 := Lib.hid ((hm.block _ (by have := lt_of_block HKw013.out; have := HZ1.out; have := HZ2.out; have := HZ3.out; have := HZ4.out; have := HZ5.out; have := HZ6.out; have := HZ7.out; have := HZ8.out; have := HZ9.out; have := HZ10.out; have := HZ11.out; have := HZ12.out; have := HZ13.out; omega)).trans HKw013.out)
  have HKg014 := Lib.hid ((hm.block _ (by have := lt_of_block HKg013.out; have := HZ1.out; have := HZ2.out; have := HZ3.out; have := HZ4.out; have := HZ5.out; have := HZ6.out; have := HZ7.out; have := HZ8.out; have := HZ9.out; have := HZ10.out; have := HZ11.out; have := HZ12.out; have := HZ13.out; omega)).trans HKg013.out)
  have HBs4_14 : Hid (Below w4.heap.size w4 w14) := Lib.hid (HBs4_13.out.trans (hm.below.mono (by have := HZ1.out; have := HZ2.out; have := HZ3.out; have := HZ4.out; have := HZ5.out; have := HZ6.out; have := HZ7.out; have := HZ8.out; have := HZ9.out; have := HZ10.out; have := HZ11.out; have := HZ12.out; have := HZ13.out; omega)))
  clear hm
  have HOg14 := Lib.hid (ho)
  clear ho
  clear ca00 ca01 ca02 fa00 fa01 fa02 lta0 cw00 cw01 cw02 fw00 fw01 fw02 ltw0 cg00 cg01 cg02 fg00 fg01 fg02 ltg0
  have lta0 := lt_of_block HKa014.out
  obtain ⟨ca00, ca01, ca02, fa00, fa01, fa02⟩ := cell3 HKa014.out
  have ltw0 := lt_of_block HKw014.out
  obtain ⟨cw00, cw01, cw02, fw00, fw01, fw02⟩ := cell3 HKw014.out
  have ltg0 := lt_of_block HKg014.out
  obtain ⟨cg00, cg01, cg02, fg00, fg01, fg02⟩ := cell3 HKg014.out
  go_wp2_with fail
  refine (heldFrame_any fu fl _ qs.length _ (RowR.of_own HOg14.out.1) (by omega)).mono ?_
  rintro e w15 ⟨rfl, hb⟩
  have HB15 : Hid (Below w.heap.size w w15) := Lib.hid (HB14.out.trans (hb.mono HB14.out.size))
  have HZ15 : Hid (w14.heap.size ≤ w15.heap.size) := Lib.hid hb.size
  have HRf015 := Lib.hid (HRf00.out.below HB15.out (Nat.le_refl _))
  have HKa015 := Lib.hid ((hb.block _ (lt_of_block HKa014.out)).trans HKa014.out)
  have HRw15 := Lib.hid (HRw14.out.below hb (Nat.le_refl _))
  have HKw015 := Lib.hid ((hb.block _ (lt_of_block HKw014.out)).trans HKw014.out)
  have HOg15 := Lib.hid (HOg14.out.next hb)
  have HKg015 := Lib.hid ((hb.block _ (lt_of_block HKg014.out)).trans HKg014.out)
  have HBs4_15 : Hid (Below w4.heap.size w4 w15) := Lib.hid (HBs4_14.out.trans (hb.mono HBs4_14.out.size))
  clear hb
  clear ca00 ca01 ca02 fa00 fa01 fa02 lta0 cw00 cw01 cw02 fw00 fw01 fw02 ltw0 cg00 cg01 cg02 fg00 fg01 fg02 ltg0
  have lta0 := lt_of_block HKa015.out
  obtain ⟨ca00, ca01, ca02, fa00, fa01, fa02⟩ := cell3 HKa015.out
  have ltw0 := lt_of_block HKw015.out
  obtain ⟨cw00, cw01, cw02, fw00, fw01, fw02⟩ := cell3 HKw015.out
  have ltg0 := lt_of_block HKg015.out
  obtain ⟨cg00, cg01, cg02, fg00, fg01, fg02⟩ := cell3 HKg015.out
  go_wp2_with fail
  refine (toFrame_any up0 lo0 _ rs0 _ HRf015.out hn0).mono ?_
  rintro e w16 ⟨⟨sz0, rfl, ho⟩, hb⟩
  have HB16 : Hid (Below w.heap.size w w16) := Lib.hid (HB15.out.trans (hb.mono HB15.out.size))
  have HZ16 : Hid (w15.heap.size ≤ w16.heap.size) := Lib.hid hb.size
  have HRf016 := Lib.hid (HRf00.out.below HB16.out (Nat.le_refl _))
  have HKa016 := Lib.hid ((hb.block _ (lt_of_block HKa015.out)).trans HKa015.out)
  have HRw16 := Lib.hid (HRw15.out.below hb (Nat.le_refl _))
  have HKw016 := Lib.hid ((hb.block _ (lt_of_block HKw015.out)).trans HKw015.out)
  have HOg16 := Lib.hid (HOg15.out.next hb)
  have HKg016 := Lib.hid ((hb.block _ (lt_of_block HKg015.out)).trans HKg015.out)
  have HBs4_16 : Hid (Below w4.heap.size w4 w16) := Lib.hid (HBs4_15.out.trans (hb.mono HBs4_15.out.size))
  clear hb
  obtain ⟨pz0, kz0, rfl⟩ := own_form ho
  have HRz016 := Lib.hid ((RodsR.of_own ho))
  have HBs16_16 : Hid (Below w16.heap.size w16 w16) := Lib.hid (Below.refl _ _)
  clear ho
  clear ca00 ca01 ca02 fa00 fa01 fa02 lta0 cw00 cw01 cw02 fw00 fw01 fw02 ltw0 cg00 cg01 cg02 fg00 fg01 fg02 ltg0
  have lta0 := lt_of_block HKa016.out
  obtain ⟨ca00, ca01, ca02, fa00, fa01, fa02⟩ := cell3 HKa016.out
  have ltw0 := lt_of_block HKw016.out
  obtain ⟨cw00, cw01, cw02, fw00, fw01, fw02⟩ := cell3 HKw016.out
  have ltg0 := lt_of_block HKg016.out
  obtain ⟨cg00, cg01, cg02, fg00, fg01, fg02⟩ := cell3 HKg016.out
  go_wp2_with fail
  refine (HI.out hn0 _ _ HRz016.out).mono ?_
  rintro e w17 ⟨⟨sh, rfl, ho⟩, hb⟩
  have HB17 : Hid (Below w.heap.size w w17) := Lib.hid (HB16.out.trans (hb.mono HB16.out.size))
  have HZ17 : Hid (w16.heap.size ≤ w17.heap.size) := Lib.hid hb.size
  have HRf017 := Lib.hid (HRf00.out.below HB17.out (Nat.le_refl _))
  have HKa017 := Lib.hid ((hb.block _ (lt_of_block HKa016.out)).trans HKa016.out)
  have HRw17 := Lib.hid (HRw16.out.below hb (Nat.le_refl _))
  have HKw017 := Lib.hid ((hb.block _ (lt_of_block HKw016.out)).trans HKw016.out)
  have HOg17 := Lib.hid (HOg16.out.next hb)
  have HKg017 := Lib.hid ((hb.block _ (lt_of_block HKg016.out)).trans HKg016.out)
  have HRz017 := Lib.hid (HRz016.out.below hb (Nat.le_refl _))
  have HBs4_17 : Hid (Below w4.heap.size w4 w17) := Lib.hid (HBs4_16.out.trans (hb.mono HBs4_16.out.size))
  have HBs16_17 : Hid (Below w16.heap.size w16 w17) := Lib.hid (HBs16_16.out.trans (hb.mono HBs16_16.out.size))
  clear hb
  obtain ⟨ph, kh, rfl⟩ := own_form ho
  have HOh17 := Lib.hid (Ow.mk' ho)
  clear ho
  clear ca00 ca01 ca02 fa00 fa01 fa02 lta0 cw00 cw01 cw02 fw00 fw01 fw02 ltw0 cg00 cg01 cg02 fg00 fg01 fg02 ltg0
  have lta0 := lt_of_block HKa017.out
  obtain ⟨ca00, ca01, ca02, fa00, fa01, fa02⟩ := cell3 HKa017.out
  have ltw0 := lt_of_block HKw017.out
  obtain ⟨cw00, cw01, cw02, fw00, fw01, fw02⟩ := cell3 HKw017.out
  have ltg0 := lt_of_block HKg017.out
  obtain ⟨cg00, cg01, cg02, fg00, fg01, fg02⟩ := cell3 HKg017.out
  go_wp2_with fail
  have hb : Below w17.heap.size w17 (w17.alloc (.cells #[.int .i64 fu, .int .i64 fl, .slice ph qs.length kh] 43)) := (Below.refl _ _).alloc (Nat.le_refl _) _
  have hk : (w17.alloc (.cells #[.int .i64 fu, .int .i64 fl, .slice ph qs.length kh] 43)).heap[w17.heap.size]? = some (.cells #[.int .i64 fu, .int .i64 fl, .slice ph qs.length kh] 43 (0, 0)) := alloc_at rfl
  have hz : (w17.alloc (.cells #[.int .i64 fu, .int .i64 fl, .slice ph qs.length kh] 43)).heap.size = w17.heap.size + 1 := by simp
  generalize w17.alloc (.cells #[.int .i64 fu, .int .i64 fl, .slice ph qs.length kh] 43) = w18 at hb hk hz ⊢
  have HB18 : Hid (Below w.heap.size w w18) := Lib.hid (HB17.out.trans (hb.mono HB17.out.size))
  have HZ18 : Hid (w17.heap.size ≤ w18.heap.size) := Lib.hid hb.size
  have HRf018 := Lib.hid (HRf00.out.below HB18.out (Nat.le_refl _))
  have HKa018 := Lib.hid ((hb.block _ (lt_of_block HKa017.out)).trans HKa017.out)
  have HRw18 := Lib.hid (HRw17.out.below hb (Nat.le_refl _))
  have HKw018 := Lib.hid ((hb.block _ (lt_of_block HKw017.out)).trans HKw017.out)
  have HOg18 := Lib.hid (HOg17.out.next hb)
  have HKg018 := Lib.hid ((hb.block _ (lt_of_block HKg017.out)).trans HKg017.out)
  have HRz018 := Lib.hid (HRz017.out.below hb (Nat.le_refl _))
  have HOh18 := Lib.hid (HOh17.out.next hb)
  have HBs4_18 : Hid (Below w4.heap.size w4 w18) := Lib.hid (HBs4_17.out.trans (hb.mono HBs4_17.out.size))
  have HBs16_18 : Hid (Below w16.heap.size w16 w18) := Lib.hid (HBs16_17.out.trans (hb.mono HBs16_17.out.size))
  have HKh018 := Lib.hid hk
  replace HZ18 : Hid (w17.heap.size < w18.heap.size) := Lib.hid (by omega)
  have HE18 := Lib.hid hz
  clear hb hk hz
  refine (eqFrame_yes fu fl _ _ qs _ (RodsR.of_own HOh18.out.1) HRw18.out).mono ?_
  rintro e w19 ⟨rfl, hb⟩
  have HB19 : Hid (Below w.heap.size w w19) := Lib.hid (HB18.out.trans (hb.mono HB18.out.size))
  have HZ19 : Hid (w18.heap.size ≤ w19.heap.size) := Lib.hid hb.size
  have HRf019 := Lib.hid (HRf00.out.below HB19.out (Nat.le_refl _))
  have HKa019 := Lib.hid ((hb.block _ (lt_of_block HKa018.out)).trans HKa018.out)
  have HRw19 := Lib.hid (HRw18.out.below hb (Nat.le_refl _))
  have HKw019 := Lib.hid ((hb.block _ (lt_of_block HKw018.out)).trans HKw018.out)
  have HOg19 := Lib.hid (HOg18.out.next hb)
  have HKg019 := Lib.hid ((hb.block _ (lt_of_block HKg018.out)).trans HKg018.out)
  have HRz019 := Lib.hid (HRz018.out.below hb (Nat.le_refl _))
  have HOh19 := Lib.hid (HOh18.out.next hb)
  have HKh019 := Lib.hid ((hb.block _ (lt_of_block HKh018.out)).trans HKh018.out)
  have HBs4_19 : Hid (Below w4.heap.size w4 w19) := Lib.hid (HBs4_18.out.trans (hb.mono HBs4_18.out.size))
  have HBs16_19 : Hid (Below w16.heap.size w16 w19) := Lib.hid (HBs16_18.out.trans (hb.mono HBs16_18.out.size))
  clear hb
  clear ca00 ca01 ca02 fa00 fa01 fa02 lta0 cw00 cw01 cw02 fw00 fw01 fw02 ltw0 cg00 cg01 cg02 fg00 fg01 fg02 ltg0
  have lta0 := lt_of_block HKa019.out
  obtain ⟨ca00, ca01, ca02, fa00, fa01, fa02⟩ := cell3 HKa019.out
  have ltw0 := lt_of_block HKw019.out
  obtain ⟨cw00, cw01, cw02, fw00, fw01, fw02⟩ := cell3 HKw019.out
  have ltg0 := lt_of_block HKg019.out
  obtain ⟨cg00, cg01, cg02, fg00, fg01, fg02⟩ := cell3 HKg019.out
  have lth0 := lt_of_block HKh019.out
  obtain ⟨ch00, ch01, ch02, fh00, fh01, fh02⟩ := cell3 HKh019.out
  go_wp2_with fail
  refine (heldFrame_any fu fl _ qs.length _ (RowR.of_own HOg19.out.1) (by omega)).mono ?_
  rintro e w20 ⟨rfl, hb⟩
  have HB20 : Hid (Below w.heap.size w w20) := Lib.hid (HB19.out.trans (hb.mono HB19.out.size))
  have HZ20 : Hid (w19.heap.size ≤ w20.heap.size) := Lib.hid hb.size
  have HRf020 := Lib.hid (HRf00.out.below HB20.out (Nat.le_refl _))
  have HKa020 := Lib.hid ((hb.block _ (lt_of_block HKa019.out)).trans HKa019.out)
  have HRw20 := Lib.hid (HRw19.out.below hb (Nat.le_refl _))
  have HKw020 := Lib.hid ((hb.block _ (lt_of_block HKw019.out)).trans HKw019.out)
  have HOg20 := Lib.hid (HOg19.out.next hb)
  have HKg020 := Lib.hid ((hb.block _ (lt_of_block HKg019.out)).trans HKg019.out)
  have HRz020 := Lib.hid (HRz019.out.below hb (Nat.le_refl _))
  have HOh20 := Lib.hid (HOh19.out.next hb)
  have HKh020 := Lib.hid ((hb.block _ (lt_of_block HKh019.out)).trans HKh019.out)
  have HBs4_20 : Hid (Below w4.heap.size w4 w20) := Lib.hid (HBs4_19.out.trans (hb.mono HBs4_19.out.size))
  have HBs16_20 : Hid (Below w16.heap.size w16 w20) := Lib.hid (HBs16_19.out.trans (hb.mono HBs16_19.out.size))
  clear hb
  clear ca00 ca01 ca02 fa00 fa01 fa02 lta0 cw00 cw01 cw02 fw00 fw01 fw02 ltw0 cg00 cg01 cg02 fg00 fg01 fg02 ltg0 ch00 ch01 ch02 fh00 fh01 fh02 lth0
  have lta0 := lt_of_block HKa020.out
  obtain ⟨ca00, ca01, ca02, fa00, fa01, fa02⟩ := cell3 HKa020.out
  have ltw0 := lt_of_block HKw020.out
  obtain ⟨cw00, cw01, cw02, fw00, fw01, fw02⟩ := cell3 HKw020.out
  have ltg0 := lt_of_block HKg020.out
  obtain ⟨cg00, cg01, cg02, fg00, fg01, fg02⟩ := cell3 HKg020.out
  have lth0 := lt_of_block HKh020.out
  obtain ⟨ch00, ch01, ch02, fh00, fh01, fh02⟩ := cell3 HKh020.out
  go_wp2_with fail
  go_ret
  exact ⟨rfl, HB20.out⟩
end Go.Proofs.Ytocaiddpeoimhaa
