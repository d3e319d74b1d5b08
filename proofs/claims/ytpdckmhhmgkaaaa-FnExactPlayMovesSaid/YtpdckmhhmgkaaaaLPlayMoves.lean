/- The law on PlayMoves: it returns true where the model and the program give one answer. -/
import Derived.Test.YtpdckmhhmgkaaaaFrm
import Derived.Test.YtpdckmhhmgkaaaaRat
import Derived.Test.YtpdckmhhmgkaaaaMk
import Derived.Test.YtpdckmhhmgkaaaaBeadMoves
import Derived.Test.YtpdckmhhmgkaaaaReg
import Derived.Deep.RegionHeld3
namespace Go.Proofs.Ytpdckmhhmgkaaaa
set_option linter.unusedVariables false
open Go.RowKit

set_option maxRecDepth 100000 in
set_option maxHeartbeats 6400000 in
theorem lawPlayMoves (w : World) (up0 lo0 : Int) (sv0 : Value) (rs0 : List (Int × Int)) (h0 : RodsR w sv0 rs0) (sv1 : Value) (ps1 : List Mv) (h1 : RowsR 3 mvC w sv1 ps1) (fu fl : Int) (qs : List (Int × Int)) (hq : qs.length ≤ 1000) (r1 : Bool) 
    (hS : rs0.length ≤ 1048576 → ps1.length ≤ 1048576 → ∀ s0 s1 w, RodsR w s0 rs0 → RowsR 3 mvC w s1 ps1 → Calls Try.prog 30 #[.agg #[.int .i64 up0, .int .i64 lo0, s0], s1] w fun e w' => (∃ sq, e = .returned (.tuple #[.agg #[.int .i64 fu, .int .i64 fl, sq], .bool r1]) ∧ RodsR w' sq qs) ∧ Below w.heap.size w w') 
    (hI : rs0.length ≤ 1048576 → ps1.length ≤ 1048576 → ∀ s0 s1 w, RodsR w s0 rs0 → RowsR 3 mvC w s1 ps1 → Calls Try.prog 32 #[.agg #[.int .i64 up0, .int .i64 lo0, s0], s1] w fun e w' => (∃ sq, e = .returned (.tuple #[.agg #[.int .i64 fu, .int .i64 fl, sq], .bool r1]) ∧ w'.ownsRow w.heap.size 74 2 sq qs.length (flat qs)) ∧ Below w.heap.size w w') :
    Calls Try.prog 7 #[.agg #[.int .i64 up0, .int .i64 lo0, sv0], sv1] w fun e w' => e = .returned (.bool true) ∧ Below w.heap.size w w' := by
  have HS := Lib.hid hS
  have HI := Lib.hid hI
  obtain ⟨ad0, cp0, rfl⟩ : ∃ a c, sv0 = .slice a rs0.length c := by obtain ⟨a, c, e, _⟩ := h0; exact ⟨a, c, e⟩
  obtain ⟨ad1, cp1, rfl⟩ := h1.form
  have hm1 : ps1.length ≤ 9223372036854775807 := by obtain ⟨_, _, _, ⟨m, _⟩, _⟩ := h1; exact m
  have hqk : ¬ (1 + 2 * (qs.length : Int) < 0) := by omega
  have hqk' : ((1 + 2 * (qs.length : Int)) != (1 + 2 * (qs.length : Int))) = false := by simp
  have HB0 : Hid (Below w.heap.size w w) := Lib.hid (Below.refl _ _)
  have HRf00 := Lib.hid (h0)
  have HRf10 := Lib.hid (h1)
  clear hS hI h0 h1
  have hr1 : (r1 != r1) = false := by simp
  go_enter Try.func7, Try.ntmps7
  go_wp2_with fail
  have hb : Below w.heap.size w (w.alloc (.cells #[.int .i64 up0, .int .i64 lo0, .slice ad0 rs0.length cp0] 24)) := (Below.refl _ _).alloc (Nat.le_refl _) _
  have hk : (w.alloc (.cells #[.int .i64 up0, .int .i64 lo0, .slice ad0 rs0.length cp0] 24)).heap[w.heap.size]? = some (.cells #[.int .i64 up0, .int .i64 lo0, .slice ad0 rs0.length cp0] 24 (0, 0)) := alloc_at rfl
  have hz : (w.alloc (.cells #[.int .i64 up0, .int .i64 lo0, .slice ad0 rs0.length cp0] 24)).heap.size = w.heap.size + 1 := by simp
  generalize w.alloc (.cells #[.int .i64 up0, .int .i64 lo0, .slice ad0 rs0.length cp0] 24) = w1 at hb hk hz ⊢
  have HB1 : Hid (Below w.heap.size w w1) := Lib.hid (HB0.out.trans (hb.mono HB0.out.size))
  have HZ1 : Hid (w.heap.size ≤ w1.heap.size) := Lib.hid hb.size
  have HRf01 := Lib.hid (HRf00.out.below HB1.out (Nat.le_refl _))
  have HRf11 := Lib.hid (HRf10.out.below HB1.out (Nat.le_refl _))
  have HKa01 := Lib.hid hk
  replace HZ1 : Hid (w.heap.size < w1.heap.size) := Lib.hid (by omega)
  have HE1 := Lib.hid hz
  clear hb hk hz
  refine (szFrame_any up0 lo0 1048576 _ rs0 _ HRf01.out (by omega) (by omega)).mono ?_
  rintro e w2 ⟨⟨l0, rfl, hl0, hk0⟩, hb⟩
  have HB2 : Hid (Below w.heap.size w w2) := Lib.hid (HB1.out.trans (hb.mono HB1.out.size))
  have HZ2 : Hid (w1.heap.size ≤ w2.heap.size) := Lib.hid hb.size
  have HRf02 := Lib.hid (HRf00.out.below HB2.out (Nat.le_refl _))
  have HRf12 := Lib.hid (HRf10.out.below HB2.out (Nat.le_refl _))
  have HKa02 := Lib.hid ((hb.block _ (lt_of_block HKa01.out)).trans HKa01.out)
  clear hb
  by_cases hr : l0 < 0
  · clear hk0
    have lta0 := lt_of_block HKa02.out
    obtain ⟨ca00, ca01, ca02, fa00, fa01, fa02⟩ := cell3 HKa02.out
    go_wp2_with fail
    go_ret
    exact ⟨rfl, HB2.out⟩
  have hn0 : rs0.length ≤ 1048576 := by have := hk0 (by omega); omega
  clear hk0
  have lta0 := lt_of_block HKa02.out
  obtain ⟨ca00, ca01, ca02, fa00, fa01, fa02⟩ := cell3 HKa02.out
  go_wp2_with fail
  refine (szBeadMoveS_any _ ps1 l0 _ HRf12.out (by omega) (by omega)).mono ?_
  rintro e w3 ⟨⟨l1, rfl, hl1, hk1⟩, hb⟩
  have HB3 : Hid (Below w.heap.size w w3) := Lib.hid (HB2.out.trans (hb.mono HB2.out.size))
  have HZ3 : Hid (w2.heap.size ≤ w3.heap.size) := Lib.hid hb.size
  have HRf03 := Lib.hid (HRf00.out.below HB3.out (Nat.le_refl _))
  have HRf13 := Lib.hid (HRf10.out.below HB3.out (Nat.le_refl _))
  have HKa03 := Lib.hid ((hb.block _ (lt_of_block HKa02.out)).trans HKa02.out)
  clear hb
  by_cases hr : l1 < 0
  · clear hk1
    clear ca00 ca01 ca02 fa00 fa01 fa02 lta0
    have lta0 := lt_of_block HKa03.out
    obtain ⟨ca00, ca01, ca02, fa00, fa01, fa02⟩ := cell3 HKa03.out
    go_wp2_with fail
    go_ret
    exact ⟨rfl, HB3.out⟩
  have hn1 : ps1.length ≤ 1048576 := by have := hk1 (by omega); omega
  clear hk1
  clear ca00 ca01 ca02 fa00 fa01 fa02 lta0
  have lta0 := lt_of_block HKa03.out
  obtain ⟨ca00, ca01, ca02, fa00, fa01, fa02⟩ := cell3 HKa03.out
  go_wp2_with fail
  refine (toFrame_any up0 lo0 _ rs0 _ HRf03.out hn0).mono ?_
  rintro e w4 ⟨⟨st0, rfl, ho⟩, hb⟩
  have HB4 : Hid (Below w.heap.size w w4) := Lib.hid (HB3.out.trans (hb.mono HB3.out.size))
  have HZ4 : Hid (w3.heap.size ≤ w4.heap.size) := Lib.hid hb.size
  have HRf04 := Lib.hid (HRf00.out.below HB4.out (Nat.le_refl _))
  have HRf14 := Lib.hid (HRf10.out.below HB4.out (Nat.le_refl _))
  have HKa04 := Lib.hid ((hb.block _ (lt_of_block HKa03.out)).trans HKa03.out)
  clear hb
  obtain ⟨pt0, kt0, rfl⟩ := own_form ho
  have HRt04 := Lib.hid ((RodsR.of_own ho))
  have HBs4_4 : Hid (Below w4.heap.size w4 w4) := Lib.hid (Below.refl _ _)
  clear ho
  clear ca00 ca01 ca02 fa00 fa01 fa02 lta0
  have lta0 := lt_of_block HKa04.out
  obtain ⟨ca00, ca01, ca02, fa00, fa01, fa02⟩ := cell3 HKa04.out
  go_wp2_with fail
  refine (toBeadMoveS_any _ ps1 _ HRf14.out hn1).mono ?_
  rintro e w5 ⟨⟨st1, rfl, ho⟩, hb⟩
  have HB5 : Hid (Below w.heap.size w w5) := Lib.hid (HB4.out.trans (hb.mono HB4.out.size))
  have HZ5 : Hid (w4.heap.size ≤ w5.heap.size) := Lib.hid hb.size
  have HRf05 := Lib.hid (HRf00.out.below HB5.out (Nat.le_refl _))
  have HRf15 := Lib.hid (HRf10.out.below HB5.out (Nat.le_refl _))
  have HKa05 := Lib.hid ((hb.block _ (lt_of_block HKa04.out)).trans HKa04.out)
  have HRt05 := Lib.hid (HRt04.out.below hb (Nat.le_refl _))
  have HBs4_5 : Hid (Below w4.heap.size w4 w5) := Lib.hid (HBs4_4.out.trans (hb.mono HBs4_4.out.size))
  clear hb
  obtain ⟨pt1, kt1, rfl⟩ := own_form ho
  have HRt15 := Lib.hid ((RowsR.of_own mvC_len ho))
  have HBs5_5 : Hid (Below w5.heap.size w5 w5) := Lib.hid (Below.refl _ _)
  clear ho
  clear ca00 ca01 ca02 fa00 fa01 fa02 lta0
  have lta0 := lt_of_block HKa05.out
  obtain ⟨ca00, ca01, ca02, fa00, fa01, fa02⟩ := cell3 HKa05.out
  go_wp2_with fail
  refine (HS.out hn0 hn1 _ _ _ HRt05.out HRt15.out).mono ?_
  rintro e w6 ⟨⟨sw, rfl, ho⟩, hb⟩
  have HB6 : Hid (Below w.heap.size w w6) := Lib.hid (HB5.out.trans (hb.mono HB5.out.size))
  have HZ6 : Hid (w5.heap.size ≤ w6.heap.size) := Lib.hid hb.size
  have HRf06 := Lib.hid (HRf00.out.below HB6.out (Nat.le_refl _))
  have HRf16 := Lib.hid (HRf10.out.below HB6.out (Nat.le_refl _))
  have HKa06 := Lib.hid ((hb.block _ (lt_of_block HKa05.out)).trans HKa05.out)
  have HRt06 := Lib.hid (HRt05.out.below hb (Nat.le_refl _))
  have HRt16 := Lib.hid (HRt15.out.below hb (Nat.le_refl _))
  have HBs4_6 : Hid (Below w4.heap.size w4 w6) := Lib.hid (HBs4_5.out.trans (hb.mono HBs4_5.out.size))
  have HBs5_6 : Hid (Below w5.heap.size w5 w6) := Lib.hid (HBs5_5.out.trans (hb.mono HBs5_5.out.size))
  clear hb
  obtain ⟨pw, kw, rfl⟩ : ∃ a c, sw = .slice a qs.length c := by obtain ⟨a, c, e, _⟩ := ho; exact ⟨a, c, e⟩
  have HRw6 := Lib.hid (ho)
  have HBs6_6 : Hid (Below w6.heap.size w6 w6) := Lib.hid (Below.refl _ _)
  clear ho
  clear ca00 ca01 ca02 fa00 fa01 fa02 lta0
  have lta0 := lt_of_block HKa06.out
  obtain ⟨ca00, ca01, ca02, fa00, fa01, fa02⟩ := cell3 HKa06.out
  go_wp2_with fail
  have hb : Below w6.heap.size w6 (w6.alloc (.cells #[.int .i64 fu, .int .i64 fl, .slice pw qs.length kw] 28)) := (Below.refl _ _).alloc (Nat.le_refl _) _
  have hk : (w6.alloc (.cells #[.int .i64 fu, .int .i64 fl, .slice pw qs.length kw] 28)).heap[w6.heap.size]? = some (.cells #[.int .i64 fu, .int .i64 fl, .slice pw qs.length kw] 28 (0, 0)) := alloc_at rfl
  have hz : (w6.alloc (.cells #[.int .i64 fu, .int .i64 fl, .slice pw qs.length kw] 28)).heap.size = w6.heap.size + 1 := by simp
  generalize w6.alloc (.cells #[.int .i64 fu, .int .i64 fl, .slice pw qs.length kw] 28) = w7 at hb hk hz ⊢
  have HB7 : Hid (Below w.heap.size w w7) := Lib.hid (HB6.out.trans (hb.mono HB6.out.size))
  have HZ7 : Hid (w6.heap.size ≤ w7.heap.size) := Lib.hid hb.size
  have HRf07 := Lib.hid (HRf00.out.below HB7.out (Nat.le_refl _))
  have HRf17 := Lib.hid (HRf10.out.below HB7.out (Nat.le_refl _))
  have HKa07 := Lib.hid ((hb.block _ (lt_of_block HKa06.out)).trans HKa06.out)
  have HRt07 := Lib.hid (HRt06.out.below hb (Nat.le_refl _))
  have HRt17 := Lib.hid (HRt16.out.below hb (Nat.le_refl _))
  have HRw7 := Lib.hid (HRw6.out.below hb (Nat.le_refl _))
  have HBs4_7 : Hid (Below w4.heap.size w4 w7) := Lib.hid (HBs4_6.out.trans (hb.mono HBs4_6.out.size))
  have HBs5_7 : Hid (Below w5.heap.size w5 w7) := Lib.hid (HBs5_6.out.trans (hb.mono HBs5_6.out.size))
  have HBs6_7 : Hid (Below w6.heap.size w6 w7) := Lib.hid (HBs6_6.out.trans (hb.mono HBs6_6.out.size))
  have HKw07 := Lib.hid hk
  replace HZ7 : Hid (w6.heap.size < w7.heap.size) := Lib.hid (by omega)
  have HE7 := Lib.hid hz
  clear hb hk hz
  refine (toFrame_any up0 lo0 _ rs0 _ HRf07.out hn0).mono ?_
  rintro e w8 ⟨⟨sx0, rfl, ho⟩, hb⟩
  have HB8 : Hid (Below w.heap.size w w8) := Lib.hid (HB7.out.trans (hb.mono HB7.out.size))
  have HZ8 : Hid (w7.heap.size ≤ w8.heap.size) := Lib.hid hb.size
  have HRf08 := Lib.hid (HRf00.out.below HB8.out (Nat.le_refl _))
  have HRf18 := Lib.hid (HRf10.out.below HB8.out (Nat.le_refl _))
  have HKa08 := Lib.hid ((hb.block _ (lt_of_block HKa07.out)).trans HKa07.out)
  have HRw8 := Lib.hid (HRw7.out.below hb (Nat.le_refl _))
  have HKw08 := Lib.hid ((hb.block _ (lt_of_block HKw07.out)).trans HKw07.out)
  have HBs6_8 : Hid (Below w6.heap.size w6 w8) := Lib.hid (HBs6_7.out.trans (hb.mono HBs6_7.out.size))
  clear hb
  obtain ⟨px0, kx0, rfl⟩ := own_form ho
  have HOx08 := Lib.hid (Ow.mk' ho)
  clear ho
  clear ca00 ca01 ca02 fa00 fa01 fa02 lta0
  have lta0 := lt_of_block HKa08.out
  obtain ⟨ca00, ca01, ca02, fa00, fa01, fa02⟩ := cell3 HKa08.out
  have ltw0 := lt_of_block HKw08.out
  obtain ⟨cw00, cw01, cw02, fw00, fw01, fw02⟩ := cell3 HKw08.out
  go_wp2_with fail
  have hb : Below w8.heap.size w8 (w8.alloc (.cells #[.int .i64 up0, .int .i64 lo0, .slice px0 rs0.length kx0] 28)) := (Below.refl _ _).alloc (Nat.le_refl _) _
  have hk : (w8.alloc (.cells #[.int .i64 up0, .int .i64 lo0, .slice px0 rs0.length kx0] 28)).heap[w8.heap.size]? = some (.cells #[.int .i64 up0, .int .i64 lo0, .slice px0 rs0.length kx0] 28 (0, 0)) := alloc_at rfl
  have hz : (w8.alloc (.cells #[.int .i64 up0, .int .i64 lo0, .slice px0 rs0.length kx0] 28)).heap.size = w8.heap.size + 1 := by simp
  generalize w8.alloc (.cells #[.int .i64 up0, .int .i64 lo0, .slice px0 rs0.length kx0] 28) = w9 at hb hk hz ⊢
  have HB9 : Hid (Below w.heap.size w w9) := Lib.hid (HB8.out.trans (hb.mono HB8.out.size))
  have HZ9 : Hid (w8.heap.size ≤ w9.heap.size) := Lib.hid hb.size
  have HRf09 := Lib.hid (HRf00.out.below HB9.out (Nat.le_refl _))
  have HRf19 := Lib.hid (HRf10.out.below HB9.out (Nat.le_refl _))
  have HKa09 := Lib.hid ((hb.block _ (lt_of_block HKa08.out)).trans HKa08.out)
  have HRw9 := Lib.hid (HRw8.out.below hb (Nat.le_refl _))
  have HKw09 := Lib.hid ((hb.block _ (lt_of_block HKw08.out)).trans HKw08.out)
  have HOx09 := Lib.hid (HOx08.out.next hb)
  have HBs6_9 : Hid (Below w6.heap.size w6 w9) := Lib.hid (HBs6_8.out.trans (hb.mono HBs6_8.out.size))
  have HKx09 := Lib.hid hk
  replace HZ9 : Hid (w8.heap.size < w9.heap.size) := Lib.hid (by omega)
  have HE9 := Lib.hid hz
  clear hb hk hz
  refine (toBeadMoveS_any _ ps1 _ HRf19.out hn1).mono ?_
  rintro e w10 ⟨⟨sx1, rfl, ho⟩, hb⟩
  have HB10 : Hid (Below w.heap.size w w10) := Lib.hid (HB9.out.trans (hb.mono HB9.out.size))
  have HZ10 : Hid (w9.heap.size ≤ w10.heap.size) := Lib.hid hb.size
  have HRf010 := Lib.hid (HRf00.out.below HB10.out (Nat.le_refl _))
  have HRf110 := Lib.hid (HRf10.out.below HB10.out (Nat.le_refl _))
  have HKa010 := Lib.hid ((hb.block _ (lt_of_block HKa09.out)).trans HKa09.out)
  have HRw10 := Lib.hid (HRw9.out.below hb (Nat.le_refl _))
  have HKw010 := Lib.hid ((hb.block _ (lt_of_block HKw09.out)).trans HKw09.out)
  have HOx010 := Lib.hid (HOx09.out.next hb)
  have HKx010 := Lib.hid ((hb.block _ (lt_of_block HKx09.out)).trans HKx09.out)
  have HBs6_10 : Hid (Below w6.heap.size w6 w10) := Lib.hid (HBs6_9.out.trans (hb.mono HBs6_9.out.size))
  clear hb
  obtain ⟨px1, kx1, rfl⟩ := own_form ho
  have HOx110 := Lib.hid (Ow.mk' ho)
  clear ho
  clear ca00 ca01 ca02 fa00 fa01 fa02 lta0 cw00 cw01 cw02 fw00 fw01 fw02 ltw0
  have lta0 := lt_of_block HKa010.out
  obtain ⟨ca00, ca01, ca02, fa00, fa01, fa02⟩ := cell3 HKa010.out
  have ltw0 := lt_of_block HKw010.out
  obtain ⟨cw00, cw01, cw02, fw00, fw01, fw02⟩ := cell3 HKw010.out
  have ltx0 := lt_of_block HKx010.out
  obtain ⟨cx00, cx01, cx02, fx00, fx01, fx02⟩ := cell3 HKx010.out
  go_wp2_with fail
  refine (HI.out hn0 hn1 _ _ _ (RodsR.of_own HOx010.out.1) (RowsR.of_own mvC_len HOx110.out.1)).mono ?_
  rintro e w11 ⟨⟨sg, rfl, ho⟩, hb⟩
  have HB11 : Hid (Below w.heap.size w w11) := Lib.hid (HB10.out.trans (hb.mono HB10.out.size))
  have HZ11 : Hid (w10.heap.size ≤ w11.heap.size) := Lib.hid hb.size
  have HRf011 := Lib.hid (HRf00.out.below HB11.out (Nat.le_refl _))
  have HRf111 := Lib.hid (HRf10.out.below HB11.out (Nat.le_refl _))
  have HKa011 := Lib.hid ((hb.block _ (lt_of_block HKa010.out)).trans HKa010.out)
  have HRw11 := Lib.hid (HRw10.out.below hb (Nat.le_refl _))
  have HKw011 := Lib.hid ((hb.block _ (lt_of_block HKw010.out)).trans HKw010.out)
  have HOx011 := Lib.hid (HOx010.out.next hb)
  have HKx011 := Lib.hid ((hb.block _ (lt_of_block HKx010.out)).trans HKx010.out)
  have HOx111 := Lib.hid (HOx110.out.next hb)
  have HBs6_11 : Hid (Below w6.heap.size w6 w11) := Lib.hid (HBs6_10.out.trans (hb.mono HBs6_10.out.size))
  clear hb
  obtain ⟨pg, kg, rfl⟩ := own_form ho
  have HOg11 := Lib.hid (Ow.mk' ho)
  clear ho
  clear ca00 ca01 ca02 fa00 fa01 fa02 lta0 cw00 cw01 cw02 fw00 fw01 fw02 ltw0 cx00 cx01 cx02 fx00 fx01 fx02 ltx0
  have lta0 := lt_of_block HKa011.out
  obtain ⟨ca00, ca01, ca02, fa00, fa01, fa02⟩ := cell3 HKa011.out
  have ltw0 := lt_of_block HKw011.out
  obtain ⟨cw00, cw01, cw02, fw00, fw01, fw02⟩ := cell3 HKw011.out
  have ltx0 := lt_of_block HKx011.out
  obtain ⟨cx00, cx01, cx02, fx00, fx01, fx02⟩ := cell3 HKx011.out
  go_wp2_with fail
  have hb : Below w11.heap.size w11 (w11.alloc (.cells #[.int .i64 fu, .int .i64 fl, .slice pg qs.length kg] 28)) := (Below.refl _ _).alloc (Nat.le_refl _) _
  have hk : (w11.alloc (.cells #[.int .i64 fu, .int .i64 fl, .slice pg qs.length kg] 28)).heap[w11.heap.size]? = some (.cells #[.int .i64 fu, .int .i64 fl, .slice pg qs.length kg] 28 (0, 0)) := alloc_at rfl
  have hz : (w11.alloc (.cells #[.int .i64 fu, .int .i64 fl, .slice pg qs.length kg] 28)).heap.size = w11.heap.size + 1 := by simp
  generalize w11.alloc (.cells #[.int .i64 fu, .int .i64 fl, .slice pg qs.length kg] 28) = w12 at hb hk hz ⊢
  have HB12 : Hid (Below w.heap.size w w12) := Lib.hid (HB11.out.trans (hb.mono HB11.out.size))
  have HZ12 : Hid (w11.heap.size ≤ w12.heap.size) := Lib.hid hb.size
  have HRf012 := Lib.hid (HRf00.out.below HB12.out (Nat.le_refl _))
  have HRf112 := Lib.hid (HRf10.out.below HB12.out (Nat.le_refl _))
  have HKa012 := Lib.hid ((hb.block _ (lt_of_block HKa011.out)).trans HKa011.out)
  have HRw12 := Lib.hid (HRw11.out.below hb (Nat.le_refl _))
  have HKw012 := Lib.hid ((hb.block _ (lt_of_block HKw011.out)).trans HKw011.out)
  have HOx012 := Lib.hid (HOx011.out.next hb)
  have HKx012 := Lib.hid ((hb.block _ (lt_of_block HKx011.out)).trans HKx011.out)
  have HOx112 := Lib.hid (HOx111.out.next hb)
  have HOg12 := Lib.hid (HOg11.out.next hb)
  have HBs6_12 : Hid (Below w6.heap.size w6 w12) := Lib.hid (HBs6_11.out.trans (hb.mono HBs6_11.out.size))
  have HKg012 := Lib.hid hk
  replace HZ12 : Hid (w11.heap.size < w12.heap.size) := Lib.hid (by omega)
  have HE12 := Lib.hid hz
  clear hb hk hz
  refine (eqFrame_yes fu fl _ _ qs _ (RodsR.of_own HOg12.out.1) HRw12.out).mono ?_
  rintro e w13 ⟨rfl, hb⟩
  have HB13 : Hid (Below w.heap.size w w13) := Lib.hid (HB12.out.trans (hb.mono HB12.out.size))
  have HZ13 : Hid (w12.heap.size ≤ w13.heap.size) := Lib.hid hb.size
  have HRf013 := Lib.hid (HRf00.out.below HB13.out (Nat.le_refl _))
  have HRf113 := Lib.hid (HRf10.out.below HB13.out (Nat.le_refl _))
  have HKa013 := Lib.hid ((hb.block _ (lt_of_block HKa012.out)).trans HKa012.out)
  have HRw13 := Lib.hid (HRw12.out.below hb (Nat.le_refl _))
  have HKw013 := Lib.hid ((hb.block _ (lt_of_block HKw012.out)).trans HKw012.out)
  have HOx013 := Lib.hid (HOx012.out.next hb)
  have HKx013 := Lib.hid ((hb.block _ (lt_of_block HKx012.out)).trans HKx012.out)
  have HOx113 := Lib.hid (HOx112.out.next hb)
  have HOg13 := Lib.hid (HOg12.out.next hb)
  have HKg013 := Lib.hid ((hb.block _ (lt_of_block HKg012.out)).trans HKg012.out)
  have HBs6_13 : Hid (Below w6.heap.size w6 w13) := Lib.hid (HBs6_12.out.trans (hb.mono HBs6_12.out.size))
  clear hb
  clear ca00 ca01 ca02 fa00 fa01 fa02 lta0 cw00 cw01 cw02 fw00 fw01 fw02 ltw0 cx00 cx01 cx02 fx00 fx01 fx02 ltx0
  have lta0 := lt_of_block HKa013.out
  obtain ⟨ca00, ca01, ca02, fa00, fa01, fa02⟩ := cell3 HKa013.out
  have ltw0 := lt_of_block HKw013.out
  obtain ⟨cw00, cw01, cw02, fw00, fw01, fw02⟩ := cell3 HKw013.out
  have ltx0 := lt_of_block HKx013.out
  obtain ⟨cx00, cx01, cx02, fx00, fx01, fx02⟩ := cell3 HKx013.out
  have ltg0 := lt_of_block HKg013.out
  obtain ⟨cg00, cg01, cg02, fg00, fg01, fg02⟩ := cell3 HKg013.out
  go_wp2_with fail
  clear ca00 ca01 ca02 fa00 fa01 fa02 lta0 cw00 cw01 cw02 fw00 fw01 fw02 ltw0 cx00 cx01 cx02 fx00 fx01 fx02 ltx0 cg00 cg01 cg02 fg00 fg01 fg02 ltg0
  have lta0 := lt_of_block HKa013.out
  obtain ⟨ca00, ca01, ca02, fa00, fa01, fa02⟩ := cell3 HKa013.out
  have ltw0 := lt_of_block HKw013.out
  obtain ⟨cw00, cw01, cw02, fw00, fw01, fw02⟩ := cell3 HKw013.out
  have ltx0 := lt_of_block HKx013.out
  obtain ⟨cx00, cx01, cx02, fx00, fx01, fx02⟩ := cell3 HKx013.out
  have ltg0 := lt_of_block HKg013.out
  obtain ⟨cg00, cg01, cg02, fg00, fg01, fg02⟩ := cell3 HKg013.out
  go_region_held3 (fun w' => w'.cell? ⟨w8.heap.size, 0, none⟩ = some (.int .i64 up0) ∧ w'.cell? ⟨w8.heap.size, 1, none⟩ = some (.int .i64 lo0) ∧ w'.cell? ⟨w8.heap.size, 2, none⟩ = some (.slice px0 rs0.length kx0) ∧ w'.cell? ⟨w.heap.size, 0, none⟩ = some (.int .i64 up0) ∧ w'.cell? ⟨w.heap.size, 1, none⟩ = some (.int .i64 lo0) ∧ w'.cell? ⟨w.heap.size, 2, none⟩ = some (.slice ad0 rs0.length cp0))
    (first
      | go_keep
      | exact ⟨(hq1.cell (p := ⟨w8.heap.size, 0, none⟩) ltx0).trans cx00, (hq1.cell (p := ⟨w8.heap.size, 1, none⟩) ltx0).trans cx01, (hq1.cell (p := ⟨w8.heap.size, 2, none⟩) ltx0).trans cx02, (hq1.cell (p := ⟨w.heap.size, 0, none⟩) lta0).trans ca00, (hq1.cell (p := ⟨w.heap.size, 1, none⟩) lta0).trans ca01, (hq1.cell (p := ⟨w.heap.size, 2, none⟩) lta0).trans ca02⟩)
    (first
      | (go_at_call 17; refine (toFrame_any up0 lo0 _ rs0 _ (HRf00.out.below HB13.out.drew (Nat.le_refl _)) hn0).mono ?_; rintro e w14 ⟨⟨s7, rfl, hown7⟩, hq1⟩; obtain ⟨p7, k7, rfl⟩ := own_form hown7)
      | (go_at_call 19; refine (eqFrame_yes up0 lo0 _ _ rs0 _ (RodsR.below (RodsR.of_own HOx013.out.1) ((Below.refl _ w13).drew.trans hq1) (Nat.le_refl _)) (RodsR.of_own hown7)).mono ?_; rintro e w14 ⟨rfl, hq2⟩; replace hq1 := hq1.trans (hq2.mono hq1.size); clear hq2))
  have hb := (Below.refl _ w13).drew.trans hq1
  clear hq1 hown7
  have HB14 : Hid (Below w.heap.size w w14) := Lib.hid (HB13.out.trans (hb.mono HB13.out.size))
  have HZ14 : Hid (w13.heap.size ≤ w14.heap.size) := Lib.hid hb.size
  have HRf014 := Lib.hid (HRf00.out.below HB14.out (Nat.le_refl _))
  have HRf114 := Lib.hid (HRf10.out.below HB14.out (Nat.le_refl _))
  have HKa014 := Lib.hid ((hb.block _ (lt_of_block HKa013.out)).trans HKa013.out)
  have HRw14 := Lib.hid (HRw13.out.below hb (Nat.le_refl _))
  have HKw014 := Lib.hid ((hb.block _ (lt_of_block HKw013.out)).trans HKw013.out)
  have HOx014 := Lib.hid (HOx013.out.next hb)
  have HKx014 := Lib.hid ((hb.block _ (lt_of_block HKx013.out)).trans HKx013.out)
  have HOx114 := Lib.hid (HOx113.out.next hb)
  have HOg14 := Lib.hid (HOg13.out.next hb)
  have HKg014 := Lib.hid ((hb.block _ (lt_of_block HKg013.out)).trans HKg013.out)
  have HBs6_14 : Hid (Below w6.heap.size w6 w14) := Lib.hid (HBs6_13.out.trans (hb.mono HBs6_13.out.size))
  clear hb
  clear ca00 ca01 ca02 fa00 fa01 fa02 lta0 cw00 cw01 cw02 fw00 fw01 fw02 ltw0 cx00 cx01 cx02 fx00 fx01 fx02 ltx0 cg00 cg01 cg02 fg00 fg01 fg02 ltg0
  have lta0 := lt_of_block HKa014.out
  obtain ⟨ca00, ca01, ca02, fa00, fa01, fa02⟩ := cell3 HKa014.out
  have ltw0 := lt_of_block HKw014.out
  obtain ⟨cw00, cw01, cw02, fw00, fw01, fw02⟩ := cell3 HKw014.out
  have ltx0 := lt_of_block HKx014.out
  obtain ⟨cx00, cx01, cx02, fx00, fx01, fx02⟩ := cell3 HKx014.out
  have ltg0 := lt_of_block HKg014.out
  obtain ⟨cg00, cg01, cg02, fg00, fg01, fg02⟩ := cell3 HKg014.out
  go_wp2_with fail
  refine (toBeadMoveS_any _ ps1 _ HRf114.out hn1).mono ?_
  rintro e w15 ⟨⟨sy1, rfl, ho⟩, hb⟩
  have HB15 : Hid (Below w.heap.size w w15) := Lib.hid (HB14.out.trans (hb.mono HB14.out.size))
  have HZ15 : Hid (w14.heap.size ≤ w15.heap.size) := Lib.hid hb.size
  have HRf015 := Lib.hid (HRf00.out.below HB15.out (Nat.le_refl _))
  have HRf115 := Lib.hid (HRf10.out.below HB15.out (Nat.le_refl _))
  have HKa015 := Lib.hid ((hb.block _ (lt_of_block HKa014.out)).trans HKa014.out)
  have HRw15 := Lib.hid (HRw14.out.below hb (Nat.le_refl _))
  have HKw015 := Lib.hid ((hb.block _ (lt_of_block HKw014.out)).trans HKw014.out)
  have HOx015 := Lib.hid (HOx014.out.next hb)
  have HKx015 := Lib.hid ((hb.block _ (lt_of_block HKx014.out)).trans HKx014.out)
  have HOx115 := Lib.hid (HOx114.out.next hb)
  have HOg15 := Lib.hid (HOg14.out.next hb)
  have HKg015 := Lib.hid ((hb.block _ (lt_of_block HKg014.out)).trans HKg014.out)
  have HBs6_15 : Hid (Below w6.heap.size w6 w15) := Lib.hid (HBs6_14.out.trans (hb.mono HBs6_14.out.size))
  clear hb
  obtain ⟨py1, ky1, rfl⟩ := own_form ho
  have HRy115 := Lib.hid ((RowsR.of_own mvC_len ho))
  have HBs15_15 : Hid (Below w15.heap.size w15 w15) := Lib.hid (Below.refl _ _)
  clear ho
  clear ca00 ca01 ca02 fa00 fa01 fa02 lta0 cw00 cw01 cw02 fw00 fw01 fw02 ltw0 cx00 cx01 cx02 fx00 fx01 fx02 ltx0 cg00 cg01 cg02 fg00 fg01 fg02 ltg0
  have lta0 := lt_of_block HKa015.out
  obtain ⟨ca00, ca01, ca02, fa00, fa01, fa02⟩ := cell3 HKa015.out
  have ltw0 := lt_of_block HKw015.out
  obtain ⟨cw00, cw01, cw02, fw00, fw01, fw02⟩ := cell3 HKw015.out
  have ltx0 := lt_of_block HKx015.out
  obtain ⟨cx00, cx01, cx02, fx00, fx01, fx02⟩ := cell3 HKx015.out
  have ltg0 := lt_of_block HKg015.out
  obtain ⟨cg00, cg01, cg02, fg00, fg01, fg02⟩ := cell3 HKg015.out
  go_wp2_with fail
  refine (eqBeadMoveS_yes _ _ ps1 _ (RowsR.of_own mvC_len HOx115.out.1) HRy115.out).mono ?_
  rintro e w16 ⟨rfl, hb⟩
  have HB16 : Hid (Below w.heap.size w w16) := Lib.hid (HB15.out.trans (hb.mono HB15.out.size))
  have HZ16 : Hid (w15.heap.size ≤ w16.heap.size) := Lib.hid hb.size
  have HRf016 := Lib.hid (HRf00.out.below HB16.out (Nat.le_refl _))
  have HRf116 := Lib.hid (HRf10.out.below HB16.out (Nat.le_refl _))
  have HKa016 := Lib.hid ((hb.block _ (lt_of_block HKa015.out)).trans HKa015.out)
  have HRw16 := Lib.hid (HRw15.out.below hb (Nat.le_refl _))
  have HKw016 := Lib.hid ((hb.block _ (lt_of_block HKw015.out)).trans HKw015.out)
  have HOx016 := Lib.hid (HOx015.out.next hb)
  have HKx016 := Lib.hid ((hb.block _ (lt_of_block HKx015.out)).trans HKx015.out)
  have HOx116 := Lib.hid (HOx115.out.next hb)
  have HOg16 := Lib.hid (HOg15.out.next hb)
  have HKg016 := Lib.hid ((hb.block _ (lt_of_block HKg015.out)).trans HKg015.out)
  have HRy116 := Lib.hid (HRy115.out.below hb (Nat.le_refl _))
  have HBs6_16 : Hid (Below w6.heap.size w6 w16) := Lib.hid (HBs6_15.out.trans (hb.mono HBs6_15.out.size))
  have HBs15_16 : Hid (Below w15.heap.size w15 w16) := Lib.hid (HBs15_15.out.trans (hb.mono HBs15_15.out.size))
  clear hb
  clear ca00 ca01 ca02 fa00 fa01 fa02 lta0 cw00 cw01 cw02 fw00 fw01 fw02 ltw0 cx00 cx01 cx02 fx00 fx01 fx02 ltx0 cg00 cg01 cg02 fg00 fg01 fg02 ltg0
  have lta0 := lt_of_block HKa016.out
  obtain ⟨ca00, ca01, ca02, fa00, fa01, fa02⟩ := cell3 HKa016.out
  have ltw0 := lt_of_block HKw016.out
  obtain ⟨cw00, cw01, cw02, fw00, fw01, fw02⟩ := cell3 HKw016.out
  have ltx0 := lt_of_block HKx016.out
  obtain ⟨cx00, cx01, cx02, fx00, fx01, fx02⟩ := cell3 HKx016.out
  have ltg0 := lt_of_block HKg016.out
  obtain ⟨cg00, cg01, cg02, fg00, fg01, fg02⟩ := cell3 HKg016.out
  go_wp2_with fail
  refine (markFrame_at up0 lo0 _ rs0.length _ _ _ _ HOx016.out hn0 1 (by omega) (by have := HZ1.out; have := HZ2.out; have := HZ3.out; have := HZ4.out; have := HZ5.out; have := HZ6.out; have := HZ7.out; have := HZ8.out; have := HZ9.out; have := HZ10.out; have := HZ11.out; have := HZ12.out; have := HZ13.out; have := HZ14.out; have := HZ15.out; have := HZ16.out;  omega)).mono ?_
  rintro e w17 ⟨rfl, ho, hm⟩
  have HZ17 : Hid (w16.heap.size ≤ w17.heap.size) := Lib.hid hm.size
  have HB17 : Hid (Below w.heap.size w w17) := Lib.hid (HB16.out.trans (hm.below.mono (by have := HZ1.out; have := HZ2.out; have := HZ3.out; have := HZ4.out; have := HZ5.out; have := HZ6.out; have := HZ7.out; have := HZ8.out; have := HZ9.out; have := HZ10.out; have := HZ11.out; have := HZ12.out; have := HZ13.out; have := HZ14.out; have := HZ15.out; have := HZ16.out; have := HB0.out.size; omega)))
  have HRf017 := Lib.hid (HRf00.out.below HB17.out (Nat.le_refl _))
  have HRf117 := Lib.hid (HRf10.out.below HB17.out (Nat.le_refl _))
  have HKa017 := Lib.hid ((hm.block _ (by have := lt_of_block HKa016.out; have := HZ1.out; have := HZ2.out; have := HZ3.out; have := HZ4.out; have := HZ5.out; have := HZ6.out; have := HZ7.out; have := HZ8.out; have := HZ9.out; have := HZ10.out; have := HZ11.out; have := HZ12.out; have := HZ13.out; have := HZ14.out; have := HZ15.out; have := HZ16.out; omega)).trans HKa016.out)
  have HRw17 := Lib.hid (HRw6.out.below (HBs6_16.out.trans (hm.below.mono (by have := HZ1.out; have := HZ2.out; have := HZ3.out; have := HZ4.out; have := HZ5.out; have := HZ6.out; have := HZ7.out; have := HZ8.out; have := HZ9.out; have := HZ10.out; have := HZ11.out; have := HZ12.out; have := HZ13.out; have := HZ14.out; have := HZ15.out; have := HZ16.out; omega))) (Nat.le_refl _))
  have HKw017 := Lib.hid ((hm.block _ (by have := lt_of_block HKw016.out; have := HZ1.out; have := HZ2.out; have := HZ3.out; have := HZ4.out; have := HZ5.out; have := HZ6.out; have := HZ7.out; have := HZ8.out; have := HZ9.out; have := HZ10.out; have := HZ11.out; have := HZ12.out; have := HZ13.out; have := HZ14.out; have := HZ15.out; have := HZ16.out; omega)).trans HKw016.out)
  have HOx117 := Lib.hid (HOx116.out.btw hm (by have := HZ1.out; have := HZ2.out; have := HZ3.out; have := HZ4.out; have := HZ5.out; have := HZ6.out; have := HZ7.out; have := HZ8.out; have := HZ9.out; have := HZ10.out; have := HZ11.out; have := HZ12.out; have := HZ13.out; have := HZ14.out; have := HZ15.out; have := HZ16.out; omega))
  have HOg17 := Lib.hid (HOg16.out.btw hm (by have := HZ1.out; have := HZ2.out; have := HZ3.out; have := HZ4.out; have := HZ5.out; have := HZ6.out; have := HZ7.out; have := HZ8.out; have := HZ9.out; have := HZ10.out; have := HZ11.out; have := HZ12.out; have := HZ13.out; have := HZ14.out; have := HZ15.out; have := HZ16.out; omega))
  have HKg017 := Lib.hid ((hm.block _ (by have := lt_of_block HKg016.out; have := HZ1.out; have := HZ2.out; have := HZ3.out; have := HZ4.out; have := HZ5.out; have := HZ6.out; have := HZ7.out; have := HZ8.out; have := HZ9.out; have := HZ10.out; have := HZ11.out; have := HZ12.out; have := HZ13.out; have := HZ14.out; have := HZ15.out; have := HZ16.out; omega)).trans HKg016.out)
  have HBs6_17 : Hid (Below w6.heap.size w6 w17) := Lib.hid (HBs6_16.out.trans (hm.below.mono (by have := HZ1.out; have := HZ2.out; have := HZ3.out; have := HZ4.out; have := HZ5.out; have := HZ6.out; have := HZ7.out; have := HZ8.out; have := HZ9.out; have := HZ10.out; have := HZ11.out; have := HZ12.out; have := HZ13.out; have := HZ14.out; have := HZ15.out; have := HZ16.out; omega)))
  clear hm
  clear ho
  clear ca00 ca01 ca02 fa00 fa01 fa02 lta0 cw00 cw01 cw02 fw00 fw01 fw02 ltw0 cx00 cx01 cx02 fx00 fx01 fx02 ltx0 cg00 cg01 cg02 fg00 fg01 fg02 ltg0
  have lta0 := lt_of_block HKa017.out
  obtain ⟨ca00, ca01, ca02, fa00, fa01, fa02⟩ := cell3 HKa017.out
  have ltw0 := lt_of_block HKw017.out
  obtain ⟨cw00, cw01, cw02, fw00, fw01, fw02⟩ := cell3 HKw017.out
  have ltg0 := lt_of_block HKg017.out
  obtain ⟨cg00, cg01, cg02, fg00, fg01, fg02⟩ := cell3 HKg017.out
  go_wp2_with fail
  refine (markBeadMoveS_any _ ps1.length (1 + 2 * (rs0.length : Int)) _ _ _ _ _ HOx117.out hn1 (by omega) (by have := HZ1.out; have := HZ2.out; have := HZ3.out; have := HZ4.out; have := HZ5.out; have := HZ6.out; have := HZ7.out; have := HZ8.out; have := HZ9.out; have := HZ10.out; have := HZ11.out; have := HZ12.out; have := HZ13.out; have := HZ14.out; have := HZ15.out; have := HZ16.out; have := HZ17.out;  omega)).mono ?_
  rintro e w18 ⟨rfl, ho, hm⟩
  have HZ18 : Hid (w17.heap.size ≤ w18.heap.size) := Lib.hid hm.size
  have HB18 : Hid (Below w.heap.size w w18) := Lib.hid (HB17.out.trans (hm.below.mono (by have := HZ1.out; have := HZ2.out; have := HZ3.out; have := HZ4.out; have := HZ5.out; have := HZ6.out; have := HZ7.out; have := HZ8.out; have := HZ9.out; have := HZ10.out; have := HZ11.out; have := HZ12.out; have := HZ13.out; have := HZ14.out; have := HZ15.out; have := HZ16.out; have := HZ17.out; have := HB0.out.size; omega)))
  have HRf018 := Lib.hid (HRf00.out.below HB18.out (Nat.le_refl _))
  have HRf118 := Lib.hid (HRf10.out.below HB18.out (Nat.le_refl _))
  have HKa018 := Lib.hid ((hm.block _ (by have := lt_of_block HKa017.out; have := HZ1.out; have := HZ2.out; have := HZ3.out; have := HZ4.out; have := HZ5.out; have := HZ6.out; have := HZ7.out; have := HZ8.out; have := HZ9.out; have := HZ10.out; have := HZ11.out; have := HZ12.out; have := HZ13.out; have := HZ14.out; have := HZ15.out; have := HZ16.out; have := HZ17.out; omega)).trans HKa017.out)
  have HRw18 := Lib.hid (HRw6.out.below (HBs6_17.out.trans (hm.below.mono (by have := HZ1.out; have := HZ2.out; have := HZ3.out; have := HZ4.out; have := HZ5.out; have := HZ6.out; have := HZ7.out; have := HZ8.out; have := HZ9.out; have := HZ10.out; have := HZ11.out; have := HZ12.out; have := HZ13.out; have := HZ14.out; have := HZ15.out; have := HZ16.out; have := HZ17.out; omega))) (Nat.le_refl _))
  have HKw018 := Lib.hid ((hm.block _ (by have := lt_of_block HKw017.out; have := HZ1.out; have := HZ2.out; have := HZ3.out; have := HZ4.out; have := HZ5.out; have := HZ6.out; have := HZ7.out; have := HZ8.out; have := HZ9.out; have := HZ10.out; have := HZ11.out; have := HZ12.out; have := HZ13.out; have := HZ14.out; have := HZ15.out; have := HZ16.out; have := HZ17.out; omega)).trans HKw017.out)
  have HOg18 := Lib.hid (HOg17.out.btw hm (by have := HZ1.out; have := HZ2.out; have := HZ3.out; have := HZ4.out; have := HZ5.out; have := HZ6.out; have := HZ7.out; have := HZ8.out; have := HZ9.out; have := HZ10.out; have := HZ11.out; have := HZ12.out; have := HZ13.out; have := HZ14.out; have := HZ15.out; have := HZ16.out; have := HZ17.out; omega))
  have HKg018 := Lib.hid ((hm.block _ (by have := lt_of_block HKg017.out; have := HZ1.out; have := HZ2.out; have := HZ3.out; have := HZ4.out; have := HZ5.out; have := HZ6.out; have := HZ7.out; have := HZ8.out; have := HZ9.out; have := HZ10.out; have := HZ11.out; have := HZ12.out; have := HZ13.out; have := HZ14.out; have := HZ15.out; have := HZ16.out; have := HZ17.out; omega)).trans HKg017.out)
  have HBs6_18 : Hid (Below w6.heap.size w6 w18) := Lib.hid (HBs6_17.out.trans (hm.below.mono (by have := HZ1.out; have := HZ2.out; have := HZ3.out; have := HZ4.out; have := HZ5.out; have := HZ6.out; have := HZ7.out; have := HZ8.out; have := HZ9.out; have := HZ10.out; have := HZ11.out; have := HZ12.out; have := HZ13.out; have := HZ14.out; have := HZ15.out; have := HZ16.out; have := HZ17.out; omega)))
  clear hm
  clear ho
  have hxk : ¬ (1 + 2 * (rs0.length : Int) + 3 * (ps1.length : Int) < 0) := by omega
  clear ca00 ca01 ca02 fa00 fa01 fa02 lta0 cw00 cw01 cw02 fw00 fw01 fw02 ltw0 cg00 cg01 cg02 fg00 fg01 fg02 ltg0
  have lta0 := lt_of_block HKa018.out
  obtain ⟨ca00, ca01, ca02, fa00, fa01, fa02⟩ := cell3 HKa018.out
  have ltw0 := lt_of_block HKw018.out
  obtain ⟨cw00, cw01, cw02, fw00, fw01, fw02⟩ := cell3 HKw018.out
  have ltg0 := lt_of_block HKg018.out
  obtain ⟨cg00, cg01, cg02, fg00, fg01, fg02⟩ := cell3 HKg018.out
  go_wp2_with fail
  refine (eqFrame_yes fu fl _ _ qs _ (RodsR.of_own HOg18.out.1) HRw18.out).mono ?_
  rintro e w19 ⟨rfl, hb⟩
  have HB19 : Hid (Below w.heap.size w w19) := Lib.hid (HB18.out.trans (hb.mono HB18.out.size))
  have HZ19 : Hid (w18.heap.size ≤ w19.heap.size) := Lib.hid hb.size
  have HRf019 := Lib.hid (HRf00.out.below HB19.out (Nat.le_refl _))
  have HRf119 := Lib.hid (HRf10.out.below HB19.out (Nat.le_refl _))
  have HKa019 := Lib.hid ((hb.block _ (lt_of_block HKa018.out)).trans HKa018.out)
  have HRw19 := Lib.hid (HRw18.out.below hb (Nat.le_refl _))
  have HKw019 := Lib.hid ((hb.block _ (lt_of_block HKw018.out)).trans HKw018.out)
  have HOg19 := Lib.hid (HOg18.out.next hb)
  have HKg019 := Lib.hid ((hb.block _ (lt_of_block HKg018.out)).trans HKg018.out)
  have HBs6_19 : Hid (Below w6.heap.size w6 w19) := Lib.hid (HBs6_18.out.trans (hb.mono HBs6_18.out.size))
  clear hb
  clear ca00 ca01 ca02 fa00 fa01 fa02 lta0 cw00 cw01 cw02 fw00 fw01 fw02 ltw0 cg00 cg01 cg02 fg00 fg01 fg02 ltg0
  have lta0 := lt_of_block HKa019.out
  obtain ⟨ca00, ca01, ca02, fa00, fa01, fa02⟩ := cell3 HKa019.out
  have ltw0 := lt_of_block HKw019.out
  obtain ⟨cw00, cw01, cw02, fw00, fw01, fw02⟩ := cell3 HKw019.out
  have ltg0 := lt_of_block HKg019.out
  obtain ⟨cg00, cg01, cg02, fg00, fg01, fg02⟩ := cell3 HKg019.out
  go_wp2_with fail
  refine (markFrame_any fu fl _ qs.length _ _ _ _ HOg19.out (by omega) (by have := HZ1.out; have := HZ2.out; have := HZ3.out; have := HZ4.out; have := HZ5.out; have := HZ6.out; have := HZ7.out; have := HZ8.out; have := HZ9.out; have := HZ10.out; have := HZ11.out; have := HZ12.out; have := HZ13.out; have := HZ14.out; have := HZ15.out; have := HZ16.out; have := HZ17.out; have := HZ18.out; have := HZ19.out;  omega)).mono ?_
  rintro e w20 ⟨rfl, ho, hm⟩
  have HZ20 : Hid (w19.heap.size ≤ w20.heap.size) := Lib.hid hm.size
  have HB20 : Hid (Below w.heap.size w w20) := Lib.hid (HB19.out.trans (hm.below.mono (by have := HZ1.out; have := HZ2.out; have := HZ3.out; have := HZ4.out; have := HZ5.out; have := HZ6.out; have := HZ7.out; have := HZ8.out; have := HZ9.out; have := HZ10.out; have := HZ11.out; have := HZ12.out; have := HZ13.out; have := HZ14.out; have := HZ15.out; have := HZ16.out; have := HZ17.out; have := HZ18.out; have := HZ19.out; have := HB0.out.size; omega)))
  have HRf020 := Lib.hid (HRf00.out.below HB20.out (Nat.le_refl _))
  have HRf120 := Lib.hid (HRf10.out.below HB20.out (Nat.le_refl _))
  have HKa020 := Lib.hid ((hm.block _ (by have := lt_of_block HKa019.out; have := HZ1.out; have := HZ2.out; have := HZ3.out; have := HZ4.out; have := HZ5.out; have := HZ6.out; have := HZ7.out; have := HZ8.out; have := HZ9.out; have := HZ10.out; have := HZ11.out; have := HZ12.out; have := HZ13.out; have := HZ14.out; have := HZ15.out; have := HZ16.out; have := HZ17.out; have := HZ18.out; have := HZ19.out; omega)).trans HKa019.out)
  have HRw20 := Lib.hid (HRw6.out.below (HBs6_19.out.trans (hm.below.mono (by have := HZ1.out; have := HZ2.out; have := HZ3.out; have := HZ4.out; have := HZ5.out; have := HZ6.out; have := HZ7.out; have := HZ8.out; have := HZ9.out; have := HZ10.out; have := HZ11.out; have := HZ12.out; have := HZ13.out; have := HZ14.out; have := HZ15.out; have := HZ16.out; have := HZ17.out; have := HZ18.out; have := HZ19.out; omega))) (Nat.le_refl _))
  have HKw020 := Lib.hid ((hm.block _ (by have := lt_of_block HKw019.out; have := HZ1.out; have := HZ2.out; have := HZ3.out; have := HZ4.out; have := HZ5.out; have := HZ6.out; have := HZ7.out; have := HZ8.out; have := HZ9.out; have := HZ10.out; have := HZ11.out; have := HZ12.out; have := HZ13.out; have := HZ14.out; have := HZ15.out; have := HZ16.out; have := HZ17.out; have := HZ18.out; have := HZ19.out; omega)).trans HKw019.out)
  have HKg020 := Lib.hid ((hm.block _ (by have := lt_of_block HKg019.out; have := HZ1.out; have := HZ2.out; have := HZ3.out; have := HZ4.out; have := HZ5.out; have := HZ6.out; have := HZ7.out; have := HZ8.out; have := HZ9.out; have := HZ10.out; have := HZ11.out; have := HZ12.out; have := HZ13.out; have := HZ14.out; have := HZ15.out; have := HZ16.out; have := HZ17.out; have := HZ18.out; have := HZ19.out; omega)).trans HKg019.out)
  have HBs6_20 : Hid (Below w6.heap.size w6 w20) := Lib.hid (HBs6_19.out.trans (hm.below.mono (by have := HZ1.out; have := HZ2.out; have := HZ3.out; have := HZ4.out; have := HZ5.out; have := HZ6.out; have := HZ7.out; have := HZ8.out; have := HZ9.out; have := HZ10.out; have := HZ11.out; have := HZ12.out; have := HZ13.out; have := HZ14.out; have := HZ15.out; have := HZ16.out; have := HZ17.out; have := HZ18.out; have := HZ19.out; omega)))
  clear hm
  have HOg20 := Lib.hid (ho)
  clear ho
  clear ca00 ca01 ca02 fa00 fa01 fa02 lta0 cw00 cw01 cw02 fw00 fw01 fw02 ltw0 cg00 cg01 cg02 fg00 fg01 fg02 ltg0
  have lta0 := lt_of_block HKa020.out
  obtain ⟨ca00, ca01, ca02, fa00, fa01, fa02⟩ := cell3 HKa020.out
  have ltw0 := lt_of_block HKw020.out
  obtain ⟨cw00, cw01, cw02, fw00, fw01, fw02⟩ := cell3 HKw020.out
  have ltg0 := lt_of_block HKg020.out
  obtain ⟨cg00, cg01, cg02, fg00, fg01, fg02⟩ := cell3 HKg020.out
  go_wp2_with fail
  refine (heldFrame_any fu fl _ qs.length _ (RowR.of_own HOg20.out.1) (by omega)).mono ?_
  rintro e w21 ⟨rfl, hb⟩
  have HB21 : Hid (Below w.heap.size w w21) := Lib.hid (HB20.out.trans (hb.mono HB20.out.size))
  have HZ21 : Hid (w20.heap.size ≤ w21.heap.size) := Lib.hid hb.size
  have HRf021 := Lib.hid (HRf00.out.below HB21.out (Nat.le_refl _))
  have HRf121 := Lib.hid (HRf10.out.below HB21.out (Nat.le_refl _))
  have HKa021 := Lib.hid ((hb.block _ (lt_of_block HKa020.out)).trans HKa020.out)
  have HRw21 := Lib.hid (HRw20.out.below hb (Nat.le_refl _))
  have HKw021 := Lib.hid ((hb.block _ (lt_of_block HKw020.out)).trans HKw020.out)
  have HOg21 := Lib.hid (HOg20.out.next hb)
  have HKg021 := Lib.hid ((hb.block _ (lt_of_block HKg020.out)).trans HKg020.out)
  have HBs6_21 : Hid (Below w6.heap.size w6 w21) := Lib.hid (HBs6_20.out.trans (hb.mono HBs6_20.out.size))
  clear hb
  clear ca00 ca01 ca02 fa00 fa01 fa02 lta0 cw00 cw01 cw02 fw00 fw01 fw02 ltw0 cg00 cg01 cg02 fg00 fg01 fg02 ltg0
  have lta0 := lt_of_block HKa021.out
  obtain ⟨ca00, ca01, ca02, fa00, fa01, fa02⟩ := cell3 HKa021.out
  have ltw0 := lt_of_block HKw021.out
  obtain ⟨cw00, cw01, cw02, fw00, fw01, fw02⟩ := cell3 HKw021.out
  have ltg0 := lt_of_block HKg021.out
  obtain ⟨cg00, cg01, cg02, fg00, fg01, fg02⟩ := cell3 HKg021.out
  go_wp2_with fail
  refine (toFrame_any up0 lo0 _ rs0 _ HRf021.out hn0).mono ?_
  rintro e w22 ⟨⟨sz0, rfl, ho⟩, hb⟩
  have HB22 : Hid (Below w.heap.size w w22) := Lib.hid (HB21.out.trans (hb.mono HB21.out.size))
  have HZ22 : Hid (w21.heap.size ≤ w22.heap.size) := Lib.hid hb.size
  have HRf022 := Lib.hid (HRf00.out.below HB22.out (Nat.le_refl _))
  have HRf122 := Lib.hid (HRf10.out.below HB22.out (Nat.le_refl _))
  have HKa022 := Lib.hid ((hb.block _ (lt_of_block HKa021.out)).trans HKa021.out)
  have HRw22 := Lib.hid (HRw21.out.below hb (Nat.le_refl _))
  have HKw022 := Lib.hid ((hb.block _ (lt_of_block HKw021.out)).trans HKw021.out)
  have HOg22 := Lib.hid (HOg21.out.next hb)
  have HKg022 := Lib.hid ((hb.block _ (lt_of_block HKg021.out)).trans HKg021.out)
  have HBs6_22 : Hid (Below w6.heap.size w6 w22) := Lib.hid (HBs6_21.out.trans (hb.mono HBs6_21.out.size))
  clear hb
  obtain ⟨pz0, kz0, rfl⟩ := own_form ho
  have HRz022 := Lib.hid ((RodsR.of_own ho))
  have HBs22_22 : Hid (Below w22.heap.size w22 w22) := Lib.hid (Below.refl _ _)
  clear ho
  clear ca00 ca01 ca02 fa00 fa01 fa02 lta0 cw00 cw01 cw02 fw00 fw01 fw02 ltw0 cg00 cg01 cg02 fg00 fg01 fg02 ltg0
  have lta0 := lt_of_block HKa022.out
  obtain ⟨ca00, ca01, ca02, fa00, fa01, fa02⟩ := cell3 HKa022.out
  have ltw0 := lt_of_block HKw022.out
  obtain ⟨cw00, cw01, cw02, fw00, fw01, fw02⟩ := cell3 HKw022.out
  have ltg0 := lt_of_block HKg022.out
  obtain ⟨cg00, cg01, cg02, fg00, fg01, fg02⟩ := cell3 HKg022.out
  go_wp2_with fail
  refine (toBeadMoveS_any _ ps1 _ HRf122.out hn1).mono ?_
  rintro e w23 ⟨⟨sz1, rfl, ho⟩, hb⟩
  have HB23 : Hid (Below w.heap.size w w23) := Lib.hid (HB22.out.trans (hb.mono HB22.out.size))
  have HZ23 : Hid (w22.heap.size ≤ w23.heap.size) := Lib.hid hb.size
  have HRf023 := Lib.hid (HRf00.out.below HB23.out (Nat.le_refl _))
  have HRf123 := Lib.hid (HRf10.out.below HB23.out (Nat.le_refl _))
  have HKa023 := Lib.hid ((hb.block _ (lt_of_block HKa022.out)).trans HKa022.out)
  have HRw23 := Lib.hid (HRw22.out.below hb (Nat.le_refl _))
  have HKw023 := Lib.hid ((hb.block _ (lt_of_block HKw022.out)).trans HKw022.out)
  have HOg23 := Lib.hid (HOg22.out.next hb)
  have HKg023 := Lib.hid ((hb.block _ (lt_of_block HKg022.out)).trans HKg022.out)
  have HRz023 := Lib.hid (HRz022.out.below hb (Nat.le_refl _))
  have HBs6_23 : Hid (Below w6.heap.size w6 w23) := Lib.hid (HBs6_22.out.trans (hb.mono HBs6_22.out.size))
  have HBs22_23 : Hid (Below w22.heap.size w22 w23) := Lib.hid (HBs22_22.out.trans (hb.mono HBs22_22.out.size))
  clear hb
  obtain ⟨pz1, kz1, rfl⟩ := own_form ho
  have HRz123 := Lib.hid ((RowsR.of_own mvC_len ho))
  have HBs23_23 : Hid (Below w23.heap.size w23 w23) := Lib.hid (Below.refl _ _)
  clear ho
  clear ca00 ca01 ca02 fa00 fa01 fa02 lta0 cw00 cw01 cw02 fw00 fw01 fw02 ltw0 cg00 cg01 cg02 fg00 fg01 fg02 ltg0
  have lta0 := lt_of_block HKa023.out
  obtain ⟨ca00, ca01, ca02, fa00, fa01, fa02⟩ := cell3 HKa023.out
  have ltw0 := lt_of_block HKw023.out
  obtain ⟨cw00, cw01, cw02, fw00, fw01, fw02⟩ := cell3 HKw023.out
  have ltg0 := lt_of_block HKg023.out
  obtain ⟨cg00, cg01, cg02, fg00, fg01, fg02⟩ := cell3 HKg023.out
  go_wp2_with fail
  refine (HI.out hn0 hn1 _ _ _ HRz023.out HRz123.out).mono ?_
  rintro e w24 ⟨⟨sh, rfl, ho⟩, hb⟩
  have HB24 : Hid (Below w.heap.size w w24) := Lib.hid (HB23.out.trans (hb.mono HB23.out.size))
  have HZ24 : Hid (w23.heap.size ≤ w24.heap.size) := Lib.hid hb.size
  have HRf024 := Lib.hid (HRf00.out.below HB24.out (Nat.le_refl _))
  have HRf124 := Lib.hid (HRf10.out.below HB24.out (Nat.le_refl _))
  have HKa024 := Lib.hid ((hb.block _ (lt_of_block HKa023.out)).trans HKa023.out)
  have HRw24 := Lib.hid (HRw23.out.below hb (Nat.le_refl _))
  have HKw024 := Lib.hid ((hb.block _ (lt_of_block HKw023.out)).trans HKw023.out)
  have HOg24 := Lib.hid (HOg23.out.next hb)
  have HKg024 := Lib.hid ((hb.block _ (lt_of_block HKg023.out)).trans HKg023.out)
  have HRz024 := Lib.hid (HRz023.out.below hb (Nat.le_refl _))
  have HRz124 := Lib.hid (HRz123.out.below hb (Nat.le_refl _))
  have HBs6_24 : Hid (Below w6.heap.size w6 w24) := Lib.hid (HBs6_23.out.trans (hb.mono HBs6_23.out.size))
  have HBs22_24 : Hid (Below w22.heap.size w22 w24) := Lib.hid (HBs22_23.out.trans (hb.mono HBs22_23.out.size))
  have HBs23_24 : Hid (Below w23.heap.size w23 w24) := Lib.hid (HBs23_23.out.trans (hb.mono HBs23_23.out.size))
  clear hb
  obtain ⟨ph, kh, rfl⟩ := own_form ho
  have HOh24 := Lib.hid (Ow.mk' ho)
  clear ho
  clear ca00 ca01 ca02 fa00 fa01 fa02 lta0 cw00 cw01 cw02 fw00 fw01 fw02 ltw0 cg00 cg01 cg02 fg00 fg01 fg02 ltg0
  have lta0 := lt_of_block HKa024.out
  obtain ⟨ca00, ca01, ca02, fa00, fa01, fa02⟩ := cell3 HKa024.out
  have ltw0 := lt_of_block HKw024.out
  obtain ⟨cw00, cw01, cw02, fw00, fw01, fw02⟩ := cell3 HKw024.out
  have ltg0 := lt_of_block HKg024.out
  obtain ⟨cg00, cg01, cg02, fg00, fg01, fg02⟩ := cell3 HKg024.out
  go_wp2_with fail
  have hb : Below w24.heap.size w24 (w24.alloc (.cells #[.int .i64 fu, .int .i64 fl, .slice ph qs.length kh] 28)) := (Below.refl _ _).alloc (Nat.le_refl _) _
  have hk : (w24.alloc (.cells #[.int .i64 fu, .int .i64 fl, .slice ph qs.length kh] 28)).heap[w24.heap.size]? = some (.cells #[.int .i64 fu, .int .i64 fl, .slice ph qs.length kh] 28 (0, 0)) := alloc_at rfl
  have hz : (w24.alloc (.cells #[.int .i64 fu, .int .i64 fl, .slice ph qs.length kh] 28)).heap.size = w24.heap.size + 1 := by simp
  generalize w24.alloc (.cells #[.int .i64 fu, .int .i64 fl, .slice ph qs.length kh] 28) = w25 at hb hk hz ⊢
  have HB25 : Hid (Below w.heap.size w w25) := Lib.hid (HB24.out.trans (hb.mono HB24.out.size))
  have HZ25 : Hid (w24.heap.size ≤ w25.heap.size) := Lib.hid hb.size
  have HRf025 := Lib.hid (HRf00.out.below HB25.out (Nat.le_refl _))
  have HRf125 := Lib.hid (HRf10.out.below HB25.out (Nat.le_refl _))
  have HKa025 := Lib.hid ((hb.block _ (lt_of_block HKa024.out)).trans HKa024.out)
  have HRw25 := Lib.hid (HRw24.out.below hb (Nat.le_refl _))
  have HKw025 := Lib.hid ((hb.block _ (lt_of_block HKw024.out)).trans HKw024.out)
  have HOg25 := Lib.hid (HOg24.out.next hb)
  have HKg025 := Lib.hid ((hb.block _ (lt_of_block HKg024.out)).trans HKg024.out)
  have HRz025 := Lib.hid (HRz024.out.below hb (Nat.le_refl _))
  have HRz125 := Lib.hid (HRz124.out.below hb (Nat.le_refl _))
  have HOh25 := Lib.hid (HOh24.out.next hb)
  have HBs6_25 : Hid (Below w6.heap.size w6 w25) := Lib.hid (HBs6_24.out.trans (hb.mono HBs6_24.out.size))
  have HBs22_25 : Hid (Below w22.heap.size w22 w25) := Lib.hid (HBs22_24.out.trans (hb.mono HBs22_24.out.size))
  have HBs23_25 : Hid (Below w23.heap.size w23 w25) := Lib.hid (HBs23_24.out.trans (hb.mono HBs23_24.out.size))
  have HKh025 := Lib.hid hk
  replace HZ25 : Hid (w24.heap.size < w25.heap.size) := Lib.hid (by omega)
  have HE25 := Lib.hid hz
  clear hb hk hz
  refine (eqFrame_yes fu fl _ _ qs _ (RodsR.of_own HOh25.out.1) HRw25.out).mono ?_
  rintro e w26 ⟨rfl, hb⟩
  have HB26 : Hid (Below w.heap.size w w26) := Lib.hid (HB25.out.trans (hb.mono HB25.out.size))
  have HZ26 : Hid (w25.heap.size ≤ w26.heap.size) := Lib.hid hb.size
  have HRf026 := Lib.hid (HRf00.out.below HB26.out (Nat.le_refl _))
  have HRf126 := Lib.hid (HRf10.out.below HB26.out (Nat.le_refl _))
  have HKa026 := Lib.hid ((hb.block _ (lt_of_block HKa025.out)).trans HKa025.out)
  have HRw26 := Lib.hid (HRw25.out.below hb (Nat.le_refl _))
  have HKw026 := Lib.hid ((hb.block _ (lt_of_block HKw025.out)).trans HKw025.out)
  have HOg26 := Lib.hid (HOg25.out.next hb)
  have HKg026 := Lib.hid ((hb.block _ (lt_of_block HKg025.out)).trans HKg025.out)
  have HRz026 := Lib.hid (HRz025.out.below hb (Nat.le_refl _))
  have HRz126 := Lib.hid (HRz125.out.below hb (Nat.le_refl _))
  have HOh26 := Lib.hid (HOh25.out.next hb)
  have HKh026 := Lib.hid ((hb.block _ (lt_of_block HKh025.out)).trans HKh025.out)
  have HBs6_26 : Hid (Below w6.heap.size w6 w26) := Lib.hid (HBs6_25.out.trans (hb.mono HBs6_25.out.size))
  have HBs22_26 : Hid (Below w22.heap.size w22 w26) := Lib.hid (HBs22_25.out.trans (hb.mono HBs22_25.out.size))
  have HBs23_26 : Hid (Below w23.heap.size w23 w26) := Lib.hid (HBs23_25.out.trans (hb.mono HBs23_25.out.size))
  clear hb
  clear ca00 ca01 ca02 fa00 fa01 fa02 lta0 cw00 cw01 cw02 fw00 fw01 fw02 ltw0 cg00 cg01 cg02 fg00 fg01 fg02 ltg0
  have lta0 := lt_of_block HKa026.out
  obtain ⟨ca00, ca01, ca02, fa00, fa01, fa02⟩ := cell3 HKa026.out
  have ltw0 := lt_of_block HKw026.out
  obtain ⟨cw00, cw01, cw02, fw00, fw01, fw02⟩ := cell3 HKw026.out
  have ltg0 := lt_of_block HKg026.out
  obtain ⟨cg00, cg01, cg02, fg00, fg01, fg02⟩ := cell3 HKg026.out
  have lth0 := lt_of_block HKh026.out
  obtain ⟨ch00, ch01, ch02, fh00, fh01, fh02⟩ := cell3 HKh026.out
  go_wp2_with fail
  refine (heldFrame_any fu fl _ qs.length _ (RowR.of_own HOg26.out.1) (by omega)).mono ?_
  rintro e w27 ⟨rfl, hb⟩
  have HB27 : Hid (Below w.heap.size w w27) := Lib.hid (HB26.out.trans (hb.mono HB26.out.size))
  have HZ27 : Hid (w26.heap.size ≤ w27.heap.size) := Lib.hid hb.size
  have HRf027 := Lib.hid (HRf00.out.below HB27.out (Nat.le_refl _))
  have HRf127 := Lib.hid (HRf10.out.below HB27.out (Nat.le_refl _))
  have HKa027 := Lib.hid ((hb.block _ (lt_of_block HKa026.out)).trans HKa026.out)
  have HRw27 := Lib.hid (HRw26.out.below hb (Nat.le_refl _))
  have HKw027 := Lib.hid ((hb.block _ (lt_of_block HKw026.out)).trans HKw026.out)
  have HOg27 := Lib.hid (HOg26.out.next hb)
  have HKg027 := Lib.hid ((hb.block _ (lt_of_block HKg026.out)).trans HKg026.out)
  have HRz027 := Lib.hid (HRz026.out.below hb (Nat.le_refl _))
  have HRz127 := Lib.hid (HRz126.out.below hb (Nat.le_refl _))
  have HOh27 := Lib.hid (HOh26.out.next hb)
  have HKh027 := Lib.hid ((hb.block _ (lt_of_block HKh026.out)).trans HKh026.out)
  have HBs6_27 : Hid (Below w6.heap.size w6 w27) := Lib.hid (HBs6_26.out.trans (hb.mono HBs6_26.out.size))
  have HBs22_27 : Hid (Below w22.heap.size w22 w27) := Lib.hid (HBs22_26.out.trans (hb.mono HBs22_26.out.size))
  have HBs23_27 : Hid (Below w23.heap.size w23 w27) := Lib.hid (HBs23_26.out.trans (hb.mono HBs23_26.out.size))
  clear hb
  clear ca00 ca01 ca02 fa00 fa01 fa02 lta0 cw00 cw01 cw02 fw00 fw01 fw02 ltw0 cg00 cg01 cg02 fg00 fg01 fg02 ltg0 ch00 ch01 ch02 fh00 fh01 fh02 lth0
  have lta0 := lt_of_block HKa027.out
  obtain ⟨ca00, ca01, ca02, fa00, fa01, fa02⟩ := cell3 HKa027.out
  have ltw0 := lt_of_block HKw027.out
  obtain ⟨cw00, cw01, cw02, fw00, fw01, fw02⟩ := cell3 HKw027.out
  have ltg0 := lt_of_block HKg027.out
  obtain ⟨cg00, cg01, cg02, fg00, fg01, fg02⟩ := cell3 HKg027.out
  have lth0 := lt_of_block HKh027.out
  obtain ⟨ch00, ch01, ch02, fh00, fh01, fh02⟩ := cell3 HKh027.out
  go_wp2_with fail
  go_ret
  exact ⟨rfl, HB27.out⟩
end Go.Proofs.Ytpdckmhhmgkaaaa
