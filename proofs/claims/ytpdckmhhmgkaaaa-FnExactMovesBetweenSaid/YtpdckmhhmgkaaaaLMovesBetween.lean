/- The law on MovesBetween: it returns true where the model and the program give one answer. -/
import Derived.Test.YtpdckmhhmgkaaaaFrm
import Derived.Test.YtpdckmhhmgkaaaaRat
import Derived.Test.YtpdckmhhmgkaaaaMk
import Derived.Test.YtpdckmhhmgkaaaaBeadMoves
import Derived.Test.YtpdckmhhmgkaaaaReg
import Derived.Deep.RegionHeld3
namespace Go.Proofs.Ytpdckmhhmgkaaaa
set_option linter.unusedVariables false
open Go.RowKit

set_option maxRecDepth 100000 in
set_option maxHeartbeats 6400000 in
theorem lawMovesBetween (w : World) (up0 lo0 : Int) (sv0 : Value) (rs0 : List (Int × Int)) (h0 : RodsR w sv0 rs0) (up1 lo1 : Int) (sv1 : Value) (rs1 : List (Int × Int)) (h1 : RodsR w sv1 rs1) (qs : List Mv) (hq : qs.length ≤ 1000) (r1 : Bool) 
    (hS : rs0.length ≤ 1048576 → rs1.length ≤ 1048576 → ∀ s0 s1 w, RodsR w s0 rs0 → RodsR w s1 rs1 → Calls Try.prog 38 #[.agg #[.int .i64 up0, .int .i64 lo0, s0], .agg #[.int .i64 up1, .int .i64 lo1, s1]] w fun e w' => (∃ sq, e = .returned (.tuple #[sq, .bool r1]) ∧ RowsR 3 mvC w' sq qs) ∧ Below w.heap.size w w') 
    (hI : rs0.length ≤ 1048576 → rs1.length ≤ 1048576 → ∀ s0 s1 w, RodsR w s0 rs0 → RodsR w s1 rs1 → Calls Try.prog 39 #[.agg #[.int .i64 up0, .int .i64 lo0, s0], .agg #[.int .i64 up1, .int .i64 lo1, s1]] w fun e w' => (∃ sq, e = .returned (.tuple #[sq, .bool r1]) ∧ w'.ownsRow w.heap.size 38 3 sq qs.length (flatC mvC qs)) ∧ Below w.heap.size w w') :
    Calls Try.prog 9 #[.agg #[.int .i64 up0, .int .i64 lo0, sv0], .agg #[.int .i64 up1, .int .i64 lo1, sv1]] w fun e w' => e = .returned (.bool true) ∧ Below w.heap.size w w' := by
  have HS := Lib.hid hS
  have HI := Lib.hid hI
  obtain ⟨ad0, cp0, rfl⟩ : ∃ a c, sv0 = .slice a rs0.length c := by obtain ⟨a, c, e, _⟩ := h0; exact ⟨a, c, e⟩
  obtain ⟨ad1, cp1, rfl⟩ : ∃ a c, sv1 = .slice a rs1.length c := by obtain ⟨a, c, e, _⟩ := h1; exact ⟨a, c, e⟩
  have hqk : ¬ (1 + 3 * (qs.length : Int) < 0) := by omega
  have hqk' : ((1 + 3 * (qs.length : Int)) != (1 + 3 * (qs.length : Int))) = false := by simp
  have HB0 : Hid (Below w.heap.size w w) := Lib.hid (Below.refl _ _)
  have HRf00 := Lib.hid (h0)
  have HRf10 := Lib.hid (h1)
  clear hS hI h0 h1
  have hr1 : (r1 != r1) = false := by simp
  go_enter Try.func9, Try.ntmps9
  go_wp2_with fail
  have hb : Below w.heap.size w (w.alloc (.cells #[.int .i64 up0, .int .i64 lo0, .slice ad0 rs0.length cp0] 24)) := (Below.refl _ _).alloc (Nat.le_refl _) _
  have hk : (w.alloc (.cells #[.int .i64 up0, .int .i64 lo0, .slice ad0 rs0.length cp0] 24)).heap[w.heap.size]? = some (.cells #[.int .i64 up0, .int .i64 lo0, .slice ad0 rs0.length cp0] 24 (0, 0)) := alloc_at rfl
  have hz : (w.alloc (.cells #[.int .i64 up0, .int .i64 lo0, .slice ad0 rs0.length cp0] 24)).heap.size = w.heap.size + 1 := by simp
  generalize w.alloc (.cells #[.int .i64 up0, .int .i64 lo0, .slice ad0 rs0.length cp0] 24) = w1 at hb hk hz ⊢
  have HB1 : Hid (Below w.heap.size w w1) := Lib.hid (HB0.out.trans (hb.mono HB0.out.size))
  have HZ1 : Hid (w.heap.size ≤ w1.heap.size) := Lib.hid hb.size
  have HRf01 := Lib.hid (HRf00.out.below HB1.out (Nat.le_refl _))
  have HRf11 := Lib.hid (HRf10.out.below HB1.out (Nat.le_refl _))
  have HKa01 := Lib.hid hk
  replace HZ1 : Hid (w.heap.size < w1.heap.size) := Lib.hid (by omega)
  have HE1 := Lib.hid hz
  clear hb hk hz
  have hb : Below w1.heap.size w1 (w1.alloc (.cells #[.int .i64 up1, .int .i64 lo1, .slice ad1 rs1.length cp1] 24)) := (Below.refl _ _).alloc (Nat.le_refl _) _
  have hk : (w1.alloc (.cells #[.int .i64 up1, .int .i64 lo1, .slice ad1 rs1.length cp1] 24)).heap[w.heap.size + 1]? = some (.cells #[.int .i64 up1, .int .i64 lo1, .slice ad1 rs1.length cp1] 24 (0, 0)) := alloc_at (by have := HE1.out; omega)
  have hz : (w1.alloc (.cells #[.int .i64 up1, .int .i64 lo1, .slice ad1 rs1.length cp1] 24)).heap.size = w1.heap.size + 1 := by simp
  generalize w1.alloc (.cells #[.int .i64 up1, .int .i64 lo1, .slice ad1 rs1.length cp1] 24) = w2 at hb hk hz ⊢
  have HB2 : Hid (Below w.heap.size w w2) := Lib.hid (HB1.out.trans (hb.mono HB1.out.size))
  have HZ2 : Hid (w1.heap.size ≤ w2.heap.size) := Lib.hid hb.size
  have HRf02 := Lib.hid (HRf00.out.below HB2.out (Nat.le_refl _))
  have HRf12 := Lib.hid (HRf10.out.below HB2.out (Nat.le_refl _))
  have HKa02 := Lib.hid ((hb.block _ (lt_of_block HKa01.out)).trans HKa01.out)
  have HKa12 := Lib.hid hk
  replace HZ2 : Hid (w1.heap.size < w2.heap.size) := Lib.hid (by omega)
  have HE2 := Lib.hid hz
  clear hb hk hz
  refine (szFrame_any up0 lo0 1048576 _ rs0 _ HRf02.out (by omega) (by omega)).mono ?_
  rintro e w3 ⟨⟨l0, rfl, hl0, hk0⟩, hb⟩
  have HB3 : Hid (Below w.heap.size w w3) := Lib.hid (HB2.out.trans (hb.mono HB2.out.size))
  have HZ3 : Hid (w2.heap.size ≤ w3.heap.size) := Lib.hid hb.size
  have HRf03 := Lib.hid (HRf00.out.below HB3.out (Nat.le_refl _))
  have HRf13 := Lib.hid (HRf10.out.below HB3.out (Nat.le_refl _))
  have HKa03 := Lib.hid ((hb.block _ (lt_of_block HKa02.out)).trans HKa02.out)
  have HKa13 := Lib.hid ((hb.block _ (lt_of_block HKa12.out)).trans HKa12.out)
  clear hb
  by_cases hr : l0 < 0
  · clear hk0
    have lta0 := lt_of_block HKa03.out
    obtain ⟨ca00, ca01, ca02, fa00, fa01, fa02⟩ := cell3 HKa03.out
    have lta1 := lt_of_block HKa13.out
    obtain ⟨ca10, ca11, ca12, fa10, fa11, fa12⟩ := cell3 HKa13.out
    go_wp2_with fail
    go_ret
    exact ⟨rfl, HB3.out⟩
  have hn0 : rs0.length ≤ 1048576 := by have := hk0 (by omega); omega
  clear hk0
  have lta0 := lt_of_block HKa03.out
  obtain ⟨ca00, ca01, ca02, fa00, fa01, fa02⟩ := cell3 HKa03.out
  have lta1 := lt_of_block HKa13.out
  obtain ⟨ca10, ca11, ca12, fa10, fa11, fa12⟩ := cell3 HKa13.out
  go_wp2_with fail
  refine (szFrame_any up1 lo1 l0 _ rs1 _ HRf13.out (by omega) (by omega)).mono ?_
  rintro e w4 ⟨⟨l1, rfl, hl1, hk1⟩, hb⟩
  have HB4 : Hid (Below w.heap.size w w4) := Lib.hid (HB3.out.trans (hb.mono HB3.out.size))
  have HZ4 : Hid (w3.heap.size ≤ w4.heap.size) := Lib.hid hb.size
  have HRf04 := Lib.hid (HRf00.out.below HB4.out (Nat.le_refl _))
  have HRf14 := Lib.hid (HRf10.out.below HB4.out (Nat.le_refl _))
  have HKa04 := Lib.hid ((hb.block _ (lt_of_block HKa03.out)).trans HKa03.out)
  have HKa14 := Lib.hid ((hb.block _ (lt_of_block HKa13.out)).trans HKa13.out)
  clear hb
  by_cases hr : l1 < 0
  · clear hk1
    clear ca00 ca01 ca02 fa00 fa01 fa02 lta0 ca10 ca11 ca12 fa10 fa11 fa12 lta1
    have lta0 := lt_of_block HKa04.out
    obtain ⟨ca00, ca01, ca02, fa00, fa01, fa02⟩ := cell3 HKa04.out
    have lta1 := lt_of_block HKa14.out
    obtain ⟨ca10, ca11, ca12, fa10, fa11, fa12⟩ := cell3 HKa14.out
    go_wp2_with fail
    go_ret
    exact ⟨rfl, HB4.out⟩
  have hn1 : rs1.length ≤ 1048576 := by have := hk1 (by omega); omega
  clear hk1
  clear ca00 ca01 ca02 fa00 fa01 fa02 lta0 ca10 ca11 ca12 fa10 fa11 fa12 lta1
  have lta0 := lt_of_block HKa04.out
  obtain ⟨ca00, ca01, ca02, fa00, fa01, fa02⟩ := cell3 HKa04.out
  have lta1 := lt_of_block HKa14.out
  obtain ⟨ca10, ca11, ca12, fa10, fa11, fa12⟩ := cell3 HKa14.out
  go_wp2_with fail
  clear ca00 ca01 ca02 fa00 fa01 fa02 lta0 ca10 ca11 ca12 fa10 fa11 fa12 lta1
  have lta0 := lt_of_block HKa04.out
  obtain ⟨ca00, ca01, ca02, fa00, fa01, fa02⟩ := cell3 HKa04.out
  have lta1 := lt_of_block HKa14.out
  obtain ⟨ca10, ca11, ca12, fa10, fa11, fa12⟩ := cell3 HKa14.out
  refine wp_region_held_drew (S := (fun w' => w'.cell? ⟨w.heap.size, 0, none⟩ = some (.int .i64 up0) ∧ w'.cell? ⟨w.heap.size, 1, none⟩ = some (.int .i64 lo0) ∧ w'.cell? ⟨w.heap.size, 2, none⟩ = some (.slice ad0 rs0.length cp0) ∧ w'.cell? ⟨w.heap.size + 1, 0, none⟩ = some (.int .i64 up1) ∧ w'.cell? ⟨w.heap.size + 1, 1, none⟩ = some (.int .i64 lo1) ∧ w'.cell? ⟨w.heap.size + 1, 2, none⟩ = some (.slice ad1 rs1.length cp1))) (by kernel_rfl) (⟨ca00, ca01, ca02, ca10, ca11, ca12⟩) (fun hHeld => ?_)
  refine take1 (i := 0) (v := ?v1) (some 28) rfl rfl (by kernel_rfl) (by kernel_rfl) (by kernel_rfl) (fun _ _ _ h => h) (Or.inl ⟨by rfl, ?y1⟩) (by assumption) ?r1
  case y1 => (intro w hSw; (try dsimp only at hSw); go_simp; (first | done | with_reducible rfl))
  try simp only [Act.put, List.setIfInBounds_toArray, List.set_cons_zero, List.set_cons_succ]
  refine take1 (i := 2) (v := ?v2) (some 30) rfl rfl (by kernel_rfl) (by kernel_rfl) (by kernel_rfl) (fun _ _ _ h => h) (Or.inl ⟨by rfl, ?y2⟩) (by assumption) ?r2
  case y2 => (intro w hSw; (try dsimp only at hSw); go_simp; (first | done | with_reducible rfl))
  try simp only [Act.put, List.setIfInBounds_toArray, List.set_cons_zero, List.set_cons_succ]
  refine wpAnyH_ready (rs := [1]) (by kernel_rfl) (by simp) ?_
  refine AllReadyH.cons rfl (fun K hK => ?_) AllReadyH.nil
  go_simp
  go_at_call 17
  refine (toFrame_any up0 lo0 _ rs0 _ (HRf00.out.below HB4.out.drew (Nat.le_refl _)) hn0).mono ?_
  rintro e w5 ⟨⟨st0, rfl, ho⟩, hb7⟩
  have hb := (Below.refl _ w4).drew.trans hb7
  clear hb7
  have HB5 : Hid (Below w.heap.size w w5) := Lib.hid (HB4.out.trans (hb.mono HB4.out.size))
  have HZ5 : Hid (w4.heap.size ≤ w5.heap.size) := Lib.hid hb.size
  have HRf05 := Lib.hid (HRf00.out.below HB5.out (Nat.le_refl _))
  have HRf15 := Lib.hid (HRf10.out.below HB5.out (Nat.le_refl _))
  have HKa05 := Lib.hid ((hb.block _ (lt_of_block HKa04.out)).trans HKa04.out)
  have HKa15 := Lib.hid ((hb.block _ (lt_of_block HKa14.out)).trans HKa14.out)
  clear hb
  obtain ⟨pt0, kt0, rfl⟩ := own_form ho
  have HRt05 := Lib.hid ((RodsR.of_own ho))
  have HBs5_5 : Hid (Below w5.heap.size w5 w5) := Lib.hid (Below.refl _ _)
  clear ho
  clear ca00 ca01 ca02 fa00 fa01 fa02 lta0 ca10 ca11 ca12 fa10 fa11 fa12 lta1
  have lta0 := lt_of_block HKa05.out
  obtain ⟨ca00, ca01, ca02, fa00, fa01, fa02⟩ := cell3 HKa05.out
  have lta1 := lt_of_block HKa15.out
  obtain ⟨ca10, ca11, ca12, fa10, fa11, fa12⟩ := cell3 HKa15.out
  try go_simp
  refine hK.out _ _ (⟨ca00, ca01, ca02, ca10, ca11, ca12⟩) (fun hHeld => ?_)
  clear hK K
  try simp only [Act.put, List.setIfInBounds_toArray, List.set_cons_zero, List.set_cons_succ]
  refine wpAnyH_ready (rs := [3]) (by kernel_rfl) (by simp) ?_
  refine AllReadyH.cons rfl (fun K hK => ?_) AllReadyH.nil
  go_simp
  go_at_call 17
  refine (toFrame_any up1 lo1 _ rs1 _ (HRf10.out.below HB5.out (Nat.le_refl _)) hn1).mono ?_
  rintro e w6 ⟨⟨st1, rfl, ho⟩, hb⟩
  have HB6 : Hid (Below w.heap.size w w6) := Lib.hid (HB5.out.trans (hb.mono HB5.out.size))
  have HZ6 : Hid (w5.heap.size ≤ w6.heap.size) := Lib.hid hb.size
  have HRf06 := Lib.hid (HRf00.out.below HB6.out (Nat.le_refl _))
  have HRf16 := Lib.hid (HRf10.out.below HB6.out (Nat.le_refl _))
  have HKa06 := Lib.hid ((hb.block _ (lt_of_block HKa05.out)).trans HKa05.out)
  have HKa16 := Lib.hid ((hb.block _ (lt_of_block HKa15.out)).trans HKa15.out)
  have HRt06 := Lib.hid (HRt05.out.below hb (Nat.le_refl _))
  have HBs5_6 : Hid (Below w5.heap.size w5 w6) := Lib.hid (HBs5_5.out.trans (hb.mono HBs5_5.out.size))
  clear hb
  obtain ⟨pt1, kt1, rfl⟩ := own_form ho
  have HRt16 := Lib.hid ((RodsR.of_own ho))
  have HBs6_6 : Hid (Below w6.heap.size w6 w6) := Lib.hid (Below.refl _ _)
  clear ho
  clear ca00 ca01 ca02 fa00 fa01 fa02 lta0 ca10 ca11 ca12 fa10 fa11 fa12 lta1
  have lta0 := lt_of_block HKa06.out
  obtain ⟨ca00, ca01, ca02, fa00, fa01, fa02⟩ := cell3 HKa06.out
  have lta1 := lt_of_block HKa16.out
  obtain ⟨ca10, ca11, ca12, fa10, fa11, fa12⟩ := cell3 HKa16.out
  try go_simp
  refine hK.out _ _ (⟨ca00, ca01, ca02, ca10, ca11, ca12⟩) (fun hHeld => ?_)
  clear hK K
  try simp only [Act.put, List.setIfInBounds_toArray, List.set_cons_zero, List.set_cons_succ]
  refine wpAnyH_ready (rs := [4]) (by kernel_rfl) (by simp) ?_
  refine AllReadyH.cons rfl (fun K hK => ?_) AllReadyH.nil
  go_simp
  go_at_call 38
  refine (HS.out hn0 hn1 _ _ _ HRt06.out HRt16.out).mono ?_
  rintro e w7 ⟨⟨sw, rfl, ho⟩, hb⟩
  have HB7 : Hid (Below w.heap.size w w7) := Lib.hid (HB6.out.trans (hb.mono HB6.out.size))
  have HZ7 : Hid (w6.heap.size ≤ w7.heap.size) := Lib.hid hb.size
  have HRf07 := Lib.hid (HRf00.out.below HB7.out (Nat.le_refl _))
  have HRf17 := Lib.hid (HRf10.out.below HB7.out (Nat.le_refl _))
  have HKa07 := Lib.hid ((hb.block _ (lt_of_block HKa06.out)).trans HKa06.out)
  have HKa17 := Lib.hid ((hb.block _ (lt_of_block HKa16.out)).trans HKa16.out)
  have HRt07 := Lib.hid (HRt06.out.below hb (Nat.le_refl _))
  have HRt17 := Lib.hid (HRt16.out.below hb (Nat.le_refl _))
  have HBs5_7 : Hid (Below w5.heap.size w5 w7) := Lib.hid (HBs5_6.out.trans (hb.mono HBs5_6.out.size))
  have HBs6_7 : Hid (Below w6.heap.size w6 w7) := Lib.hid (HBs6_6.out.trans (hb.mono HBs6_6.out.size))
  clear hb
  obtain ⟨pw, kw, rfl⟩ := ho.form
  have HRw7 := Lib.hid (ho)
  have HBs7_7 : Hid (Below w7.heap.size w7 w7) := Lib.hid (Below.refl _ _)
  clear ho
  clear ca00 ca01 ca02 fa00 fa01 fa02 lta0 ca10 ca11 ca12 fa10 fa11 fa12 lta1
  have lta0 := lt_of_block HKa07.out
  obtain ⟨ca00, ca01, ca02, fa00, fa01, fa02⟩ := cell3 HKa07.out
  have lta1 := lt_of_block HKa17.out
  obtain ⟨ca10, ca11, ca12, fa10, fa11, fa12⟩ := cell3 HKa17.out
  try go_simp
  refine hK.out _ _ (⟨ca00, ca01, ca02, ca10, ca11, ca12⟩) (fun hHeld => ?_)
  clear hK K
  try simp only [Act.put, List.setIfInBounds_toArray, List.set_cons_zero, List.set_cons_succ]
  -- OPS 4
  refine take1 (i := 5) (v := ?v3) (some 27) rfl rfl (by kernel_rfl) (by kernel_rfl) (by kernel_rfl) (fun _ _ _ h => h) (Or.inl ⟨by rfl, ?y3⟩) (by assumption) ?r3
  case y3 => (intro w hSw; (try dsimp only at hSw); go_simp; (first | done | with_reducible rfl))
  try simp only [Act.put, List.setIfInBounds_toArray, List.set_cons_zero, List.set_cons_succ]
  refine take1 (i := 6) (v := ?v4) (some 33) rfl rfl (by kernel_rfl) (by kernel_rfl) (by kernel_rfl) (fun _ _ _ h => h) (Or.inl ⟨by rfl, ?y4⟩) (by assumption) ?r4
  case y4 => (intro w hSw; (try dsimp only at hSw); go_simp; (first | done | with_reducible rfl))
  try simp only [Act.put, List.setIfInBounds_toArray, List.set_cons_zero, List.set_cons_succ]
  refine take1 (i := 7) (v := ?v5) (some 34) rfl rfl (by kernel_rfl) (by kernel_rfl) (by kernel_rfl) (fun _ _ _ h => h) (Or.inl ⟨by rfl, ?y5⟩) (by assumption) ?r5
  case y5 => (intro w hSw; (try dsimp only at hSw); go_simp; (first | done | with_reducible rfl))
  try simp only [Act.put, List.setIfInBounds_toArray, List.set_cons_zero, List.set_cons_succ]
  refine take1 (i := 8) (v := ?v6) (some 6) rfl rfl (by kernel_rfl) (by kernel_rfl) (by kernel_rfl) (fun _ _ _ h => h) (Or.inl ⟨by rfl, ?y6⟩) (by assumption) ?r6
  case y6 => (intro w hSw; (try dsimp only at hSw); go_simp; (first | done | with_reducible rfl))
  try simp only [Act.put, List.setIfInBounds_toArray, List.set_cons_zero, List.set_cons_succ]
  refine take1 (i := 9) (v := ?v7) (some 7) rfl rfl (by kernel_rfl) (by kernel_rfl) (by kernel_rfl) (fun _ _ _ h => h) (Or.inl ⟨by rfl, ?y7⟩) (by assumption) ?r7
  case y7 => (intro w hSw; (try dsimp only at hSw); go_simp; (first | done | with_reducible rfl))
  try simp only [Act.put, List.setIfInBounds_toArray, List.set_cons_zero, List.set_cons_succ]
  refine wpAnyH_done (by kernel_rfl) ?_ _
  go_wp2_with fail
  refine (toFrame_any up0 lo0 _ rs0 _ HRf07.out hn0).mono ?_
  rintro e w8 ⟨⟨sx0, rfl, ho⟩, hb⟩
  have HB8 : Hid (Below w.heap.size w w8) := Lib.hid (HB7.out.trans (hb.mono HB7.out.size))
  have HZ8 : Hid (w7.heap.size ≤ w8.heap.size) := Lib.hid hb.size
  have HRf08 := Lib.hid (HRf00.out.below HB8.out (Nat.le_refl _))
  have HRf18 := Lib.hid (HRf10.out.below HB8.out (Nat.le_refl _))
  have HKa08 := Lib.hid ((hb.block _ (lt_of_block HKa07.out)).trans HKa07.out)
  have HKa18 := Lib.hid ((hb.block _ (lt_of_block HKa17.out)).trans HKa17.out)
  have HRw8 := Lib.hid (HRw7.out.below hb (Nat.le_refl _))
  have HBs7_8 : Hid (Below w7.heap.size w7 w8) := Lib.hid (HBs7_7.out.trans (hb.mono HBs7_7.out.size))
  clear hb
  obtain ⟨px0, kx0, rfl⟩ := own_form ho
  have HOx08 := Lib.hid (Ow.mk' ho)
  clear ho
  clear ca00 ca01 ca02 fa00 fa01 fa02 lta0 ca10 ca11 ca12 fa10 fa11 fa12 lta1
  have lta0 := lt_of_block HKa08.out
  obtain ⟨ca00, ca01, ca02, fa00, fa01, fa02⟩ := cell3 HKa08.out
  have lta1 := lt_of_block HKa18.out
  obtain ⟨ca10, ca11, ca12, fa10, fa11, fa12⟩ := cell3 HKa18.out
  go_wp2_with fail
  have hb : Below w8.heap.size w8 (w8.alloc (.cells #[.int .i64 up0, .int .i64 lo0, .slice px0 rs0.length kx0] 28)) := (Below.refl _ _).alloc (Nat.le_refl _) _
  have hk : (w8.alloc (.cells #[.int .i64 up0, .int .i64 lo0, .slice px0 rs0.length kx0] 28)).heap[w8.heap.size]? = some (.cells #[.int .i64 up0, .int .i64 lo0, .slice px0 rs0.length kx0] 28 (0, 0)) := alloc_at rfl
  have hz : (w8.alloc (.cells #[.int .i64 up0, .int .i64 lo0, .slice px0 rs0.length kx0] 28)).heap.size = w8.heap.size + 1 := by simp
  generalize w8.alloc (.cells #[.int .i64 up0, .int .i64 lo0, .slice px0 rs0.length kx0] 28) = w9 at hb hk hz ⊢
  have HB9 : Hid (Below w.heap.size w w9) := Lib.hid (HB8.out.trans (hb.mono HB8.out.size))
  have HZ9 : Hid (w8.heap.size ≤ w9.heap.size) := Lib.hid hb.size
  have HRf09 := Lib.hid (HRf00.out.below HB9.out (Nat.le_refl _))
  have HRf19 := Lib.hid (HRf10.out.below HB9.out (Nat.le_refl _))
  have HKa09 := Lib.hid ((hb.block _ (lt_of_block HKa08.out)).trans HKa08.out)
  have HKa19 := Lib.hid ((hb.block _ (lt_of_block HKa18.out)).trans HKa18.out)
  have HRw9 := Lib.hid (HRw8.out.below hb (Nat.le_refl _))
  have HOx09 := Lib.hid (HOx08.out.next hb)
  have HBs7_9 : Hid (Below w7.heap.size w7 w9) := Lib.hid (HBs7_8.out.trans (hb.mono HBs7_8.out.size))
  have HKx09 := Lib.hid hk
  replace HZ9 : Hid (w8.heap.size < w9.heap.size) := Lib.hid (by omega)
  have HE9 := Lib.hid hz
  clear hb hk hz
  refine (toFrame_any up1 lo1 _ rs1 _ HRf19.out hn1).mono ?_
  rintro e w10 ⟨⟨sx1, rfl, ho⟩, hb⟩
  have HB10 : Hid (Below w.heap.size w w10) := Lib.hid (HB9.out.trans (hb.mono HB9.out.size))
  have HZ10 : Hid (w9.heap.size ≤ w10.heap.size) := Lib.hid hb.size
  have HRf010 := Lib.hid (HRf00.out.below HB10.out (Nat.le_refl _))
  have HRf110 := Lib.hid (HRf10.out.below HB10.out (Nat.le_refl _))
  have HKa010 := Lib.hid ((hb.block _ (lt_of_block HKa09.out)).trans HKa09.out)
  have HKa110 := Lib.hid ((hb.block _ (lt_of_block HKa19.out)).trans HKa19.out)
  have HRw10 := Lib.hid (HRw9.out.below hb (Nat.le_refl _))
  have HOx010 := Lib.hid (HOx09.out.next hb)
  have HKx010 := Lib.hid ((hb.block _ (lt_of_block HKx09.out)).trans HKx09.out)
  have HBs7_10 : Hid (Below w7.heap.size w7 w10) := Lib.hid (HBs7_9.out.trans (hb.mono HBs7_9.out.size))
  clear hb
  obtain ⟨px1, kx1, rfl⟩ := own_form ho
  have HOx110 := Lib.hid (Ow.mk' ho)
  clear ho
  clear ca00 ca01 ca02 fa00 fa01 fa02 lta0 ca10 ca11 ca12 fa10 fa11 fa12 lta1
  have lta0 := lt_of_block HKa010.out
  obtain ⟨ca00, ca01, ca02, fa00, fa01, fa02⟩ := cell3 HKa010.out
  have lta1 := lt_of_block HKa110.out
  obtain ⟨ca10, ca11, ca12, fa10, fa11, fa12⟩ := cell3 HKa110.out
  have ltx0 := lt_of_block HKx010.out
  obtain ⟨cx00, cx01, cx02, fx00, fx01, fx02⟩ := cell3 HKx010.out
  go_wp2_with fail
  have hb : Below w10.heap.size w10 (w10.alloc (.cells #[.int .i64 up1, .int .i64 lo1, .slice px1 rs1.length kx1] 28)) := (Below.refl _ _).alloc (Nat.le_refl _) _
  have hk : (w10.alloc (.cells #[.int .i64 up1, .int .i64 lo1, .slice px1 rs1.length kx1] 28)).heap[w10.heap.size]? = some (.cells #[.int .i64 up1, .int .i64 lo1, .slice px1 rs1.length kx1] 28 (0, 0)) := alloc_at rfl
  have hz : (w10.alloc (.cells #[.int .i64 up1, .int .i64 lo1, .slice px1 rs1.length kx1] 28)).heap.size = w10.heap.size + 1 := by simp
  generalize w10.alloc (.cells #[.int .i64 up1, .int .i64 lo1, .slice px1 rs1.length kx1] 28) = w11 at hb hk hz ⊢
  have HB11 : Hid (Below w.heap.size w w11) := Lib.hid (HB10.out.trans (hb.mono HB10.out.size))
  have HZ11 : Hid (w10.heap.size ≤ w11.heap.size) := Lib.hid hb.size
  have HRf011 := Lib.hid (HRf00.out.below HB11.out (Nat.le_refl _))
  have HRf111 := Lib.hid (HRf10.out.below HB11.out (Nat.le_refl _))
  have HKa011 := Lib.hid ((hb.block _ (lt_of_block HKa010.out)).trans HKa010.out)
  have HKa111 := Lib.hid ((hb.block _ (lt_of_block HKa110.out)).trans HKa110.out)
  have HRw11 := Lib.hid (HRw10.out.below hb (Nat.le_refl _))
  have HOx011 := Lib.hid (HOx010.out.next hb)
  have HKx011 := Lib.hid ((hb.block _ (lt_of_block HKx010.out)).trans HKx010.out)
  have HOx111 := Lib.hid (HOx110.out.next hb)
  have HBs7_11 : Hid (Below w7.heap.size w7 w11) := Lib.hid (HBs7_10.out.trans (hb.mono HBs7_10.out.size))
  have HKx111 := Lib.hid hk
  replace HZ11 : Hid (w10.heap.size < w11.heap.size) := Lib.hid (by omega)
  have HE11 := Lib.hid hz
  clear hb hk hz
  refine (HI.out hn0 hn1 _ _ _ (RodsR.of_own HOx011.out.1) (RodsR.of_own HOx111.out.1)).mono ?_
  rintro e w12 ⟨⟨sg, rfl, ho⟩, hb⟩
  have HB12 : Hid (Below w.heap.size w w12) := Lib.hid (HB11.out.trans (hb.mono HB11.out.size))
  have HZ12 : Hid (w11.heap.size ≤ w12.heap.size) := Lib.hid hb.size
  have HRf012 := Lib.hid (HRf00.out.below HB12.out (Nat.le_refl _))
  have HRf112 := Lib.hid (HRf10.out.below HB12.out (Nat.le_refl _))
  have HKa012 := Lib.hid ((hb.block _ (lt_of_block HKa011.out)).trans HKa011.out)
  have HKa112 := Lib.hid ((hb.block _ (lt_of_block HKa111.out)).trans HKa111.out)
  have HRw12 := Lib.hid (HRw11.out.below hb (Nat.le_refl _))
  have HOx012 := Lib.hid (HOx011.out.next hb)
  have HKx012 := Lib.hid ((hb.block _ (lt_of_block HKx011.out)).trans HKx011.out)
  have HOx112 := Lib.hid (HOx111.out.next hb)
  have HKx112 := Lib.hid ((hb.block _ (lt_of_block HKx111.out)).trans HKx111.out)
  have HBs7_12 : Hid (Below w7.heap.size w7 w12) := Lib.hid (HBs7_11.out.trans (hb.mono HBs7_11.out.size))
  clear hb
  obtain ⟨pg, kg, rfl⟩ := own_form ho
  have HOg12 := Lib.hid (Ow.mk' ho)
  clear ho
  clear ca00 ca01 ca02 fa00 fa01 fa02 lta0 ca10 ca11 ca12 fa10 fa11 fa12 lta1 cx00 cx01 cx02 fx00 fx01 fx02 ltx0
  have lta0 := lt_of_block HKa012.out
  obtain ⟨ca00, ca01, ca02, fa00, fa01, fa02⟩ := cell3 HKa012.out
  have lta1 := lt_of_block HKa112.out
  obtain ⟨ca10, ca11, ca12, fa10, fa11, fa12⟩ := cell3 HKa112.out
  have ltx0 := lt_of_block HKx012.out
  obtain ⟨cx00, cx01, cx02, fx00, fx01, fx02⟩ := cell3 HKx012.out
  have ltx1 := lt_of_block HKx112.out
  obtain ⟨cx10, cx11, cx12, fx10, fx11, fx12⟩ := cell3 HKx112.out
  go_wp2_with fail
  refine (eqBeadMoveS_yes _ _ qs _ (RowsR.of_own mvC_len HOg12.out.1) HRw12.out).mono ?_
  rintro e w13 ⟨rfl, hb⟩
  have HB13 : Hid (Below w.heap.size w w13) := Lib.hid (HB12.out.trans (hb.mono HB12.out.size))
  have HZ13 : Hid (w12.heap.size ≤ w13.heap.size) := Lib.hid hb.size
  have HRf013 := Lib.hid (HRf00.out.below HB13.out (Nat.le_refl _))
  have HRf113 := Lib.hid (HRf10.out.below HB13.out (Nat.le_refl _))
  have HKa013 := Lib.hid ((hb.block _ (lt_of_block HKa012.out)).trans HKa012.out)
  have HKa113 := Lib.hid ((hb.block _ (lt_of_block HKa112.out)).trans HKa112.out)
  have HRw13 := Lib.hid (HRw12.out.below hb (Nat.le_refl _))
  have HOx013 := Lib.hid (HOx012.out.next hb)
  have HKx013 := Lib.hid ((hb.block _ (lt_of_block HKx012.out)).trans HKx012.out)
  have HOx113 := Lib.hid (HOx112.out.next hb)
  have HKx113 := Lib.hid ((hb.block _ (lt_of_block HKx112.out)).trans HKx112.out)
  have HOg13 := Lib.hid (HOg12.out.next hb)
  have HBs7_13 : Hid (Below w7.heap.size w7 w13) := Lib.hid (HBs7_12.out.trans (hb.mono HBs7_12.out.size))
  clear hb
  clear ca00 ca01 ca02 fa00 fa01 fa02 lta0 ca10 ca11 ca12 fa10 fa11 fa12 lta1 cx00 cx01 cx02 fx00 fx01 fx02 ltx0 cx10 cx11 cx12 fx10 fx11 fx12 ltx1
  have lta0 := lt_of_block HKa013.out
  obtain ⟨ca00, ca01, ca02, fa00, fa01, fa02⟩ := cell3 HKa013.out
  have lta1 := lt_of_block HKa113.out
  obtain ⟨ca10, ca11, ca12, fa10, fa11, fa12⟩ := cell3 HKa113.out
  have ltx0 := lt_of_block HKx013.out
  obtain ⟨cx00, cx01, cx02, fx00, fx01, fx02⟩ := cell3 HKx013.out
  have ltx1 := lt_of_block HKx113.out
  obtain ⟨cx10, cx11, cx12, fx10, fx11, fx12⟩ := cell3 HKx113.out
  go_wp2_with fail
  clear ca00 ca01 ca02 fa00 fa01 fa02 lta0 ca10 ca11 ca12 fa10 fa11 fa12 lta1 cx00 cx01 cx02 fx00 fx01 fx02 ltx0 cx10 cx11 cx12 fx10 fx11 fx12 ltx1
  have lta0 := lt_of_block HKa013.out
  obtain ⟨ca00, ca01, ca02, fa00, fa01, fa02⟩ := cell3 HKa013.out
  have lta1 := lt_of_block HKa113.out
  obtain ⟨ca10, ca11, ca12, fa10, fa11, fa12⟩ := cell3 HKa113.out
  have ltx0 := lt_of_block HKx013.out
  obtain ⟨cx00, cx01, cx02, fx00, fx01, fx02⟩ := cell3 HKx013.out
  have ltx1 := lt_of_block HKx113.out
  obtain ⟨cx10, cx11, cx12, fx10, fx11, fx12⟩ := cell3 HKx113.out
  go_region_held3 (fun w' => w'.cell? ⟨w8.heap.size, 0, none⟩ = some (.int .i64 up0) ∧ w'.cell? ⟨w8.heap.size, 1, none⟩ = some (.int .i64 lo0) ∧ w'.cell? ⟨w8.heap.size, 2, none⟩ = some (.slice px0 rs0.length kx0) ∧ w'.cell? ⟨w.heap.size, 0, none⟩ = some (.int .i64 up0) ∧ w'.cell? ⟨w.heap.size, 1, none⟩ = some (.int .i64 lo0) ∧ w'.cell? ⟨w.heap.size, 2, none⟩ = some (.slice ad0 rs0.length cp0))
    (first
      | go_keep
      | exact ⟨(hq1.cell (p := ⟨w8.heap.size, 0, none⟩) ltx0).trans cx00, (hq1.cell (p := ⟨w8.heap.size, 1, none⟩) ltx0).trans cx01, (hq1.cell (p := ⟨w8.heap.size, 2, none⟩) ltx0).trans cx02, (hq1.cell (p := ⟨w.heap.size, 0, none⟩) lta0).trans ca00, (hq1.cell (p := ⟨w.heap.size, 1, none⟩) lta0).trans ca01, (hq1.cell (p := ⟨w.heap.size, 2, none⟩) lta0).trans ca02⟩)
    (first
      | (go_at_call 17; refine (toFrame_any up0 lo0 _ rs0 _ (HRf00.out.below HB13.out.drew (Nat.le_refl _)) hn0).mono ?_; rintro e w14 ⟨⟨s7, rfl, hown7⟩, hq1⟩; obtain ⟨p7, k7, rfl⟩ := own_form hown7)
      | (go_at_call 19; refine (eqFrame_yes up0 lo0 _ _ rs0 _ (RodsR.below (RodsR.of_own HOx013.out.1) ((Below.refl _ w13).drew.trans hq1) (Nat.le_refl _)) (RodsR.of_own hown7)).mono ?_; rintro e w14 ⟨rfl, hq2⟩; replace hq1 := hq1.trans (hq2.mono hq1.size); clear hq2))
  have hb := (Below.refl _ w13).drew.trans hq1
  clear hq1 hown7
  have HB14 : Hid (Below w.heap.size w w14) := Lib.hid (HB13.out.trans (hb.mono HB13.out.size))
  have HZ14 : Hid (w13.heap.size ≤ w14.heap.size) := Lib.hid hb.size
  have HRf014 := Lib.hid (HRf00.out.below HB14.out (Nat.le_refl _))
  have HRf114 := Lib.hid (HRf10.out.below HB14.out (Nat.le_refl _))
  have HKa014 := Lib.hid ((hb.block _ (lt_of_block HKa013.out)).trans HKa013.out)
  have HKa114 := Lib.hid ((hb.block _ (lt_of_block HKa113.out)).trans HKa113.out)
  have HRw14 := Lib.hid (HRw13.out.below hb (Nat.le_refl _))
  have HOx014 := Lib.hid (HOx013.out.next hb)
  have HKx014 := Lib.hid ((hb.block _ (lt_of_block HKx013.out)).trans HKx013.out)
  have HOx114 := Lib.hid (HOx113.out.next hb)
  have HKx114 := Lib.hid ((hb.block _ (lt_of_block HKx113.out)).trans HKx113.out)
  have HOg14 := Lib.hid (HOg13.out.next hb)
  have HBs7_14 : Hid (Below w7.heap.size w7 w14) := Lib.hid (HBs7_13.out.trans (hb.mono HBs7_13.out.size))
  clear hb
  clear ca00 ca01 ca02 fa00 fa01 fa02 lta0 ca10 ca11 ca12 fa10 fa11 fa12 lta1 cx00 cx01 cx02 fx00 fx01 fx02 ltx0 cx10 cx11 cx12 fx10 fx11 fx12 ltx1
  have lta0 := lt_of_block HKa014.out
  obtain ⟨ca00, ca01, ca02, fa00, fa01, fa02⟩ := cell3 HKa014.out
  have lta1 := lt_of_block HKa114.out
  obtain ⟨ca10, ca11, ca12, fa10, fa11, fa12⟩ := cell3 HKa114.out
  have ltx0 := lt_of_block HKx014.out
  obtain ⟨cx00, cx01, cx02, fx00, fx01, fx02⟩ := cell3 HKx014.out
  have ltx1 := lt_of_block HKx114.out
  obtain ⟨cx10, cx11, cx12, fx10, fx11, fx12⟩ := cell3 HKx114.out
  go_wp2_with fail
  clear ca00 ca01 ca02 fa00 fa01 fa02 lta0 ca10 ca11 ca12 fa10 fa11 fa12 lta1 cx00 cx01 cx02 fx00 fx01 fx02 ltx0 cx10 cx11 cx12 fx10 fx11 fx12 ltx1
  have lta0 := lt_of_block HKa014.out
  obtain ⟨ca00, ca01, ca02, fa00, fa01, fa02⟩ := cell3 HKa014.out
  have lta1 := lt_of_block HKa114.out
  obtain ⟨ca10, ca11, ca12, fa10, fa11, fa12⟩ := cell3 HKa114.out
  have ltx0 := lt_of_block HKx014.out
  obtain ⟨cx00, cx01, cx02, fx00, fx01, fx02⟩ := cell3 HKx014.out
  have ltx1 := lt_of_block HKx114.out
  obtain ⟨cx10, cx11, cx12, fx10, fx11, fx12⟩ := cell3 HKx114.out
  go_region_held3 (fun w' => w'.cell? ⟨w10.heap.size, 0, none⟩ = some (.int .i64 up1) ∧ w'.cell? ⟨w10.heap.size, 1, none⟩ = some (.int .i64 lo1) ∧ w'.cell? ⟨w10.heap.size, 2, none⟩ = some (.slice px1 rs1.length kx1) ∧ w'.cell? ⟨w.heap.size + 1, 0, none⟩ = some (.int .i64 up1) ∧ w'.cell? ⟨w.heap.size + 1, 1, none⟩ = some (.int .i64 lo1) ∧ w'.cell? ⟨w.heap.size + 1, 2, none⟩ = some (.slice ad1 rs1.length cp1))
    (first
      | go_keep
      | exact ⟨(hq1.cell (p := ⟨w10.heap.size, 0, none⟩) ltx1).trans cx10, (hq1.cell (p := ⟨w10.heap.size, 1, none⟩) ltx1).trans cx11, (hq1.cell (p := ⟨w10.heap.size, 2, none⟩) ltx1).trans cx12, (hq1.cell (p := ⟨w.heap.size + 1, 0, none⟩) lta1).trans ca10, (hq1.cell (p := ⟨w.heap.size + 1, 1, none⟩) lta1).trans ca11, (hq1.cell (p := ⟨w.heap.size + 1, 2, none⟩) lta1).trans ca12⟩)
    (first
      | (go_at_call 17; refine (toFrame_any up1 lo1 _ rs1 _ (HRf10.out.below HB14.out.drew (Nat.le_refl _)) hn1).mono ?_; rintro e w15 ⟨⟨s7, rfl, hown7⟩, hq1⟩; obtain ⟨p7, k7, rfl⟩ := own_form hown7)
      | (go_at_call 19; refine (eqFrame_yes up1 lo1 _ _ rs1 _ (RodsR.below (RodsR.of_own HOx114.out.1) ((Below.refl _ w14).drew.trans hq1) (Nat.le_refl _)) (RodsR.of_own hown7)).mono ?_; rintro e w15 ⟨rfl, hq2⟩; replace hq1 := hq1.trans (hq2.mono hq1.size); clear hq2))
  have hb := (Below.refl _ w14).drew.trans hq1
  clear hq1 hown7
  have HB15 : Hid (Below w.heap.size w w15) := Lib.hid (HB14.out.trans (hb.mono HB14.out.size))
  have HZ15 : Hid (w14.heap.size ≤ w15.heap.size) := Lib.hid hb.size
  have HRf015 := Lib.hid (HRf00.out.below HB15.out (Nat.le_refl _))
  have HRf115 := Lib.hid (HRf10.out.below HB15.out (Nat.le_refl _))
  have HKa015 := Lib.hid ((hb.block _ (lt_of_block HKa014.out)).trans HKa014.out)
  have HKa115 := Lib.hid ((hb.block _ (lt_of_block HKa114.out)).trans HKa114.out)
  have HRw15 := Lib.hid (HRw14.out.below hb (Nat.le_refl _))
  have HOx015 := Lib.hid (HOx014.out.next hb)
  have HKx015 := Lib.hid ((hb.block _ (lt_of_block HKx014.out)).trans HKx014.out)
  have HOx115 := Lib.hid (HOx114.out.next hb)
  have HKx115 := Lib.hid ((hb.block _ (lt_of_block HKx114.out)).trans HKx114.out)
  have HOg15 := Lib.hid (HOg14.out.next hb)
  have HBs7_15 : Hid (Below w7.heap.size w7 w15) := Lib.hid (HBs7_14.out.trans (hb.mono HBs7_14.out.size))
  clear hb
  clear ca00 ca01 ca02 fa00 fa01 fa02 lta0 ca10 ca11 ca12 fa10 fa11 fa12 lta1 cx00 cx01 cx02 fx00 fx01 fx02 ltx0 cx10 cx11 cx12 fx10 fx11 fx12 ltx1
  have lta0 := lt_of_block HKa015.out
  obtain ⟨ca00, ca01, ca02, fa00, fa01, fa02⟩ := cell3 HKa015.out
  have lta1 := lt_of_block HKa115.out
  obtain ⟨ca10, ca11, ca12, fa10, fa11, fa12⟩ := cell3 HKa115.out
  have ltx0 := lt_of_block HKx015.out
  obtain ⟨cx00, cx01, cx02, fx00, fx01, fx02⟩ := cell3 HKx015.out
  have ltx1 := lt_of_block HKx115.out
  obtain ⟨cx10, cx11, cx12, fx10, fx11, fx12⟩ := cell3 HKx115.out
  go_wp2_with fail
  refine (markFrame_at up0 lo0 _ rs0.length _ _ _ _ HOx015.out hn0 1 (by omega) (by have := HZ1.out; have := HZ2.out; have := HZ3.out; have := HZ4.out; have := HZ5.out; have := HZ6.out; have := HZ7.out; have := HZ8.out; have := HZ9.out; have := HZ10.out; have := HZ11.out; have := HZ12.out; have := HZ13.out; have := HZ14.out; have := HZ15.out;  omega)).mono ?_
  rintro e w16 ⟨rfl, ho, hm⟩
  have HZ16 : Hid (w15.heap.size ≤ w16.heap.size) := Lib.hid hm.size
  have HB16 : Hid (Below w.heap.size w w16) := Lib.hid (HB15.out.trans (hm.below.mono (by have := HZ1.out; have := HZ2.out; have := HZ3.out; have := HZ4.out; have := HZ5.out; have := HZ6.out; have := HZ7.out; have := HZ8.out; have := HZ9.out; have := HZ10.out; have := HZ11.out; have := HZ12.out; have := HZ13.out; have := HZ14.out; have := HZ15.out; have := HB0.out.size; omega)))
  have HRf016 := Lib.hid (HRf00.out.below HB16.out (Nat.le_refl _))
  have HRf116 := Lib.hid (HRf10.out.below HB16.out (Nat.le_refl _))
  have HKa016 := Lib.hid ((hm.block _ (by have := lt_of_block HKa015.out; have := HZ1.out; have := HZ2.out; have := HZ3.out; have := HZ4.out; have := HZ5.out; have := HZ6.out; have := HZ7.out; have := HZ8.out; have := HZ9.out; have := HZ10.out; have := HZ11.out; have := HZ12.out; have := HZ13.out; have := HZ14.out; have := HZ15.out; omega)).trans HKa015.out)
  have HKa116 := Lib.hid ((hm.block _ (by have := lt_of_block HKa115.out; have := HZ1.out; have := HZ2.out; have := HZ3.out; have := HZ4.out; have := HZ5.out; have := HZ6.out; have := HZ7.out; have := HZ8.out; have := HZ9.out; have := HZ10.out; have := HZ11.out; have := HZ12.out; have := HZ13.out; have := HZ14.out; have := HZ15.out; omega)).trans HKa115.out)
  have HRw16 := Lib.hid (HRw7.out.below (HBs7_15.out.trans (hm.below.mono (by have := HZ1.out; have := HZ2.out; have := HZ3.out; have := HZ4.out; have := HZ5.out; have := HZ6.out; have := HZ7.out; have := HZ8.out; have := HZ9.out; have := HZ10.out; have := HZ11.out; have := HZ12.out; have := HZ13.out; have := HZ14.out; have := HZ15.out; omega))) (Nat.le_refl _))
  have HOx116 := Lib.hid (HOx115.out.btw hm (by have := HZ1.out; have := HZ2.out; have := HZ3.out; have := HZ4.out; have := HZ5.out; have := HZ6.out; have := HZ7.out; have := HZ8.out; have := HZ9.out; have := HZ10.out; have := HZ11.out; have := HZ12.out; have := HZ13.out; have := HZ14.out; have := HZ15.out; omega))
  have HKx116 := Lib.hid ((hm.block _ (by have := lt_of_block HKx115.out; have := HZ1.out; have := HZ2.out; have := HZ3.out; have := HZ4.out; have := HZ5.out; have := HZ6.out; have := HZ7.out; have := HZ8.out; have := HZ9.out; have := HZ10.out; have := HZ11.out; have := HZ12.out; have := HZ13.out; have := HZ14.out; have := HZ15.out; omega)).trans HKx115.out)
  have HOg16 := Lib.hid (HOg15.out.btw hm (by have := HZ1.out; have := HZ2.out; have := HZ3.out; have := HZ4.out; have := HZ5.out; have := HZ6.out; have := HZ7.out; have := HZ8.out; have := HZ9.out; have := HZ10.out; have := HZ11.out; have := HZ12.out; have := HZ13.out; have := HZ14.out; have := HZ15.out; omega))
  have HBs7_16 : Hid (Below w7.heap.size w7 w16) := Lib.hid (HBs7_15.out.trans (hm.below.mono (by have := HZ1.out; have := HZ2.out; have := HZ3.out; have := HZ4.out; have := HZ5.out; have := HZ6.out; have := HZ7.out; have := HZ8.out; have := HZ9.out; have := HZ10.out; have := HZ11.out; have := HZ12.out; have := HZ13.out; have := HZ14.out; have := HZ15.out; omega)))
  clear hm
  clear ho
  clear ca00 ca01 ca02 fa00 fa01 fa02 lta0 ca10 ca11 ca12 fa10 fa11 fa12 lta1 cx00 cx01 cx02 fx00 fx01 fx02 ltx0 cx10 cx11 cx12 fx10 fx11 fx12 ltx1
  have lta0 := lt_of_block HKa016.out
  obtain ⟨ca00, ca01, ca02, fa00, fa01, fa02⟩ := cell3 HKa016.out
  have lta1 := lt_of_block HKa116.out
  obtain ⟨ca10, ca11, ca12, fa10, fa11, fa12⟩ := cell3 HKa116.out
  have ltx1 := lt_of_block HKx116.out
  obtain ⟨cx10, cx11, cx12, fx10, fx11, fx12⟩ := cell3 HKx116.out
  go_wp2_with fail
  refine (markFrame_at up1 lo1 _ rs1.length _ _ _ _ HOx116.out hn1 (1 + 2 * (rs0.length : Int)) (by omega) (by have := HZ1.out; have := HZ2.out; have := HZ3.out; have := HZ4.out; have := HZ5.out; have := HZ6.out; have := HZ7.out; have := HZ8.out; have := HZ9.out; have := HZ10.out; have := HZ11.out; have := HZ12.out; have := HZ13.out; have := HZ14.out; have := HZ15.out; have := HZ16.out;  omega)).mono ?_
  rintro e w17 ⟨rfl, ho, hm⟩
  have HZ17 : Hid (w16.heap.size ≤ w17.heap.size) := Lib.hid hm.size
  have HB17 : Hid (Below w.heap.size w w17) := Lib.hid (HB16.out.trans (hm.below.mono (by have := HZ1.out; have := HZ2.out; have := HZ3.out; have := HZ4.out; have := HZ5.out; have := HZ6.out; have := HZ7.out; have := HZ8.out; have := HZ9.out; have := HZ10.out; have := HZ11.out; have := HZ12.out; have := HZ13.out; have := HZ14.out; have := HZ15.out; have := HZ16.out; have := HB0.out.size; omega)))
  have HRf017 := Lib.hid (HRf00.out.below HB17.out (Nat.le_refl _))
  have HRf117 := Lib.hid (HRf10.out.below HB17.out (Nat.le_refl _))
  have HKa017 := Lib.hid ((hm.block _ (by have := lt_of_block HKa016.out; have := HZ1.out; have := HZ2.out; have := HZ3.out; have := HZ4.out; have := HZ5.out; have := HZ6.out; have := HZ7.out; have := HZ8.out; have := HZ9.out; have := HZ10.out; have := HZ11.out; have := HZ12.out; have := HZ13.out; have := HZ14.out; have := HZ15.out; have := HZ16.out; omega)).trans HKa016.out)
  have HKa117 := Lib.hid ((hm.block _ (by have := lt_of_block HKa116.out; have := HZ1.out; have := HZ2.out; have := HZ3.out; have := HZ4.out; have := HZ5.out; have := HZ6.out; have := HZ7.out; have := HZ8.out; have := HZ9.out; have := HZ10.out; have := HZ11.out; have := HZ12.out; have := HZ13.out; have := HZ14.out; have := HZ15.out; have := HZ16.out; omega)).trans HKa116.out)
  have HRw17 := Lib.hid (HRw7.out.below (HBs7_16.out.trans (hm.below.mono (by have := HZ1.out; have := HZ2.out; have := HZ3.out; have := HZ4.out; have := HZ5.out; have := HZ6.out; have := HZ7.out; have := HZ8.out; have := HZ9.out; have := HZ10.out; have := HZ11.out; have := HZ12.out; have := HZ13.out; have := HZ14.out; have := HZ15.out; have := HZ16.out; omega))) (Nat.le_refl _))
  have HOg17 := Lib.hid (HOg16.out.btw hm (by have := HZ1.out; have := HZ2.out; have := HZ3.out; have := HZ4.out; have := HZ5.out; have := HZ6.out; have := HZ7.out; have := HZ8.out; have := HZ9.out; have := HZ10.out; have := HZ11.out; have := HZ12.out; have := HZ13.out; have := HZ14.out; have := HZ15.out; have := HZ16.out; omega))
  have HBs7_17 : Hid (Below w7.heap.size w7 w17) := Lib.hid (HBs7_16.out.trans (hm.below.mono (by have := HZ1.out; have := HZ2.out; have := HZ3.out; have := HZ4.out; have := HZ5.out; have := HZ6.out; have := HZ7.out; have := HZ8.out; have := HZ9.out; have := HZ10.out; have := HZ11.out; have := HZ12.out; have := HZ13.out; have := HZ14.out; have := HZ15.out; have := HZ16.out; omega)))
  clear hm
  clear ho
  have hxk : ¬ (1 + 2 * (rs0.length : Int) + 2 * (rs1.length : Int) < 0) := by omega
  clear ca00 ca01 ca02 fa00 fa01 fa02 lta0 ca10 ca11 ca12 fa10 fa11 fa12 lta1 cx10 cx11 cx12 fx10 fx11 fx12 ltx1
  have lta0 := lt_of_block HKa017.out
  obtain ⟨ca00, ca01, ca02, fa00, fa01, fa02⟩ := cell3 HKa017.out
  have lta1 := lt_of_block HKa117.out
  obtain ⟨ca10, ca11, ca12, fa10, fa11, fa12⟩ := cell3 HKa117.out
  go_wp2_with fail
  refine (eqBeadMoveS_yes _ _ qs _ (RowsR.of_own mvC_len HOg17.out.1) HRw17.out).mono ?_
  rintro e w18 ⟨rfl, hb⟩
  have HB18 : Hid (Below w.heap.size w w18) := Lib.hid (HB17.out.trans (hb.mono HB17.out.size))
  have HZ18 : Hid (w17.heap.size ≤ w18.heap.size) := Lib.hid hb.size
  have HRf018 := Lib.hid (HRf00.out.below HB18.out (Nat.le_refl _))
  have HRf118 := Lib.hid (HRf10.out.below HB18.out (Nat.le_refl _))
  have HKa018 := Lib.hid ((hb.block _ (lt_of_block HKa017.out)).trans HKa017.out)
  have HKa118 := Lib.hid ((hb.block _ (lt_of_block HKa117.out)).trans HKa117.out)
  have HRw18 := Lib.hid (HRw17.out.below hb (Nat.le_refl _))
  have HOg18 := Lib.hid (HOg17.out.next hb)
  have HBs7_18 : Hid (Below w7.heap.size w7 w18) := Lib.hid (HBs7_17.out.trans (hb.mono HBs7_17.out.size))
  clear hb
  clear ca00 ca01 ca02 fa00 fa01 fa02 lta0 ca10 ca11 ca12 fa10 fa11 fa12 lta1
  have lta0 := lt_of_block HKa018.out
  obtain ⟨ca00, ca01, ca02, fa00, fa01, fa02⟩ := cell3 HKa018.out
  have lta1 := lt_of_block HKa118.out
  obtain ⟨ca10, ca11, ca12, fa10, fa11, fa12⟩ := cell3 HKa118.out
  go_wp2_with fail
  refine (markBeadMoveS_any _ qs.length 1 _ _ _ _ _ HOg18.out (by omega) (by omega) (by have := HZ1.out; have := HZ2.out; have := HZ3.out; have := HZ4.out; have := HZ5.out; have := HZ6.out; have := HZ7.out; have := HZ8.out; have := HZ9.out; have := HZ10.out; have := HZ11.out; have := HZ12.out; have := HZ13.out; have := HZ14.out; have := HZ15.out; have := HZ16.out; have := HZ17.out; have := HZ18.out;  omega)).mono ?_
  rintro e w19 ⟨rfl, ho, hm⟩
  have HZ19 : Hid (w18.heap.size ≤ w19.heap.size) := Lib.hid hm.size
  have HB19 : Hid (Below w.heap.size w w19) := Lib.hid (HB18.out.trans (hm.below.mono (by have := HZ1.out; have := HZ2.out; have := HZ3.out; have := HZ4.out; have := HZ5.out; have := HZ6.out; have := HZ7.out; have := HZ8.out; have := HZ9.out; have := HZ10.out; have := HZ11.out; have := HZ12.out; have := HZ13.out; have := HZ14.out; have := HZ15.out; have := HZ16.out; have := HZ17.out; have := HZ18.out; have := HB0.out.size; omega)))
  have HRf019 := Lib.hid (HRf00.out.below HB19.out (Nat.le_refl _))
  have HRf119 := Lib.hid (HRf10.out.below HB19.out (Nat.le_refl _))
  have HKa019 := Lib.hid ((hm.block _ (by have := lt_of_block HKa018.out; have := HZ1.out; have := HZ2.out; have := HZ3.out; have := HZ4.out; have := HZ5.out; have := HZ6.out; have := HZ7.out; have := HZ8.out; have := HZ9.out; have := HZ10.out; have := HZ11.out; have := HZ12.out; have := HZ13.out; have := HZ14.out; have := HZ15.out; have := HZ16.out; have := HZ17.out; have := HZ18.out; omega)).trans HKa018.out)
  have HKa119 := Lib.hid ((hm.block _ (by have := lt_of_block HKa118.out; have := HZ1.out; have := HZ2.out; have := HZ3.out; have := HZ4.out; have := HZ5.out; have := HZ6.out; have := HZ7.out; have := HZ8.out; have := HZ9.out; have := HZ10.out; have := HZ11.out; have := HZ12.out; have := HZ13.out; have := HZ14.out; have := HZ15.out; have := HZ16.out; have := HZ17.out; have := HZ18.out; omega)).trans HKa118.out)
  have HRw19 := Lib.hid (HRw7.out.below (HBs7_18.out.trans (hm.below.mono (by have := HZ1.out; have := HZ2.out; have := HZ3.out; have := HZ4.out; have := HZ5.out; have := HZ6.out; have := HZ7.out; have := HZ8.out; have := HZ9.out; have := HZ10.out; have := HZ11.out; have := HZ12.out; have := HZ13.out; have := HZ14.out; have := HZ15.out; have := HZ16.out; have := HZ17.out; have := HZ18.out; omega))) (Nat.le_refl _))
  have HBs7_19 : Hid (Below w7.heap.size w7 w19) := Lib.hid (HBs7_18.out.trans (hm.below.mono (by have := HZ1.out; have := HZ2.out; have := HZ3.out; have := HZ4.out; have := HZ5.out; have := HZ6.out; have := HZ7.out; have := HZ8.out; have := HZ9.out; have := HZ10.out; have := HZ11.out; have := HZ12.out; have := HZ13.out; have := HZ14.out; have := HZ15.out; have := HZ16.out; have := HZ17.out; have := HZ18.out; omega)))
  clear hm
  have HOg19 := Lib.hid (ho)
  clear ho
  clear ca00 ca01 ca02 fa00 fa01 fa02 lta0 ca10 ca11 ca12 fa10 fa11 fa12 lta1
  have lta0 := lt_of_block HKa019.out
  obtain ⟨ca00, ca01, ca02, fa00, fa01, fa02⟩ := cell3 HKa019.out
  have lta1 := lt_of_block HKa119.out
  obtain ⟨ca10, ca11, ca12, fa10, fa11, fa12⟩ := cell3 HKa119.out
  go_wp2_with fail
  refine (heldBeadMoveS_any _ qs.length 1 _ (RowsR.of_own mvC_len (own_relen' (mksMv_len 1 qs.length) HOg19.out.1)) (by omega) (by omega)).mono ?_
  rintro e w20 ⟨rfl, hb⟩
  have HB20 : Hid (Below w.heap.size w w20) := Lib.hid (HB19.out.trans (hb.mono HB19.out.size))
  have HZ20 : Hid (w19.heap.size ≤ w20.heap.size) := Lib.hid hb.size
  have HRf020 := Lib.hid (HRf00.out.below HB20.out (Nat.le_refl _))
  have HRf120 := Lib.hid (HRf10.out.below HB20.out (Nat.le_refl _))
  have HKa020 := Lib.hid ((hb.block _ (lt_of_block HKa019.out)).trans HKa019.out)
  have HKa120 := Lib.hid ((hb.block _ (lt_of_block HKa119.out)).trans HKa119.out)
  have HRw20 := Lib.hid (HRw19.out.below hb (Nat.le_refl _))
  have HOg20 := Lib.hid (HOg19.out.next hb)
  have HBs7_20 : Hid (Below w7.heap.size w7 w20) := Lib.hid (HBs7_19.out.trans (hb.mono HBs7_19.out.size))
  clear hb
  clear ca00 ca01 ca02 fa00 fa01 fa02 lta0 ca10 ca11 ca12 fa10 fa11 fa12 lta1
  have lta0 := lt_of_block HKa020.out
  obtain ⟨ca00, ca01, ca02, fa00, fa01, fa02⟩ := cell3 HKa020.out
  have lta1 := lt_of_block HKa120.out
  obtain ⟨ca10, ca11, ca12, fa10, fa11, fa12⟩ := cell3 HKa120.out
  go_wp2_with fail
  clear ca00 ca01 ca02 fa00 fa01 fa02 lta0 ca10 ca11 ca12 fa10 fa11 fa12 lta1
  have lta0 := lt_of_block HKa020.out
  obtain ⟨ca00, ca01, ca02, fa00, fa01, fa02⟩ := cell3 HKa020.out
  have lta1 := lt_of_block HKa120.out
  obtain ⟨ca10, ca11, ca12, fa10, fa11, fa12⟩ := cell3 HKa120.out
  refine wp_region_held_drew (S := (fun w' => w'.cell? ⟨w.heap.size, 0, none⟩ = some (.int .i64 up0) ∧ w'.cell? ⟨w.heap.size, 1, none⟩ = some (.int .i64 lo0) ∧ w'.cell? ⟨w.heap.size, 2, none⟩ = some (.slice ad0 rs0.length cp0) ∧ w'.cell? ⟨w.heap.size + 1, 0, none⟩ = some (.int .i64 up1) ∧ w'.cell? ⟨w.heap.size + 1, 1, none⟩ = some (.int .i64 lo1) ∧ w'.cell? ⟨w.heap.size + 1, 2, none⟩ = some (.slice ad1 rs1.length cp1))) (by kernel_rfl) (⟨ca00, ca01, ca02, ca10, ca11, ca12⟩) (fun hHeld => ?_)
  refine take1 (i := 0) (v := ?v8) (some 95) rfl rfl (by kernel_rfl) (by kernel_rfl) (by kernel_rfl) (fun _ _ _ h => h) (Or.inl ⟨by rfl, ?y8⟩) (by assumption) ?r8
  case y8 => (intro w hSw; (try dsimp only at hSw); go_simp; (first | done | with_reducible rfl))
  try simp only [Act.put, List.setIfInBounds_toArray, List.set_cons_zero, List.set_cons_succ]
  refine take1 (i := 2) (v := ?v9) (some 97) rfl rfl (by kernel_rfl) (by kernel_rfl) (by kernel_rfl) (fun _ _ _ h => h) (Or.inl ⟨by rfl, ?y9⟩) (by assumption) ?r9
  case y9 => (intro w hSw; (try dsimp only at hSw); go_simp; (first | done | with_reducible rfl))
  try simp only [Act.put, List.setIfInBounds_toArray, List.set_cons_zero, List.set_cons_succ]
  refine wpAnyH_ready (rs := [1]) (by kernel_rfl) (by simp) ?_
  refine AllReadyH.cons rfl (fun K hK => ?_) AllReadyH.nil
  go_simp
  go_at_call 17
  refine (toFrame_any up0 lo0 _ rs0 _ (HRf00.out.below HB20.out.drew (Nat.le_refl _)) hn0).mono ?_
  rintro e w21 ⟨⟨sz0, rfl, ho⟩, hb7⟩
  have hb := (Below.refl _ w20).drew.trans hb7
  clear hb7
  have HB21 : Hid (Below w.heap.size w w21) := Lib.hid (HB20.out.trans (hb.mono HB20.out.size))
  have HZ21 : Hid (w20.heap.size ≤ w21.heap.size) := Lib.hid hb.size
  have HRf021 := Lib.hid (HRf00.out.below HB21.out (Nat.le_refl _))
  have HRf121 := Lib.hid (HRf10.out.below HB21.out (Nat.le_refl _))
  have HKa021 := Lib.hid ((hb.block _ (lt_of_block HKa020.out)).trans HKa020.out)
  have HKa121 := Lib.hid ((hb.block _ (lt_of_block HKa120.out)).trans HKa120.out)
  have HRw21 := Lib.hid (HRw20.out.below hb (Nat.le_refl _))
  have HOg21 := Lib.hid (HOg20.out.next hb)
  have HBs7_21 : Hid (Below w7.heap.size w7 w21) := Lib.hid (HBs7_20.out.trans (hb.mono HBs7_20.out.size))
  clear hb
  obtain ⟨pz0, kz0, rfl⟩ := own_form ho
  have HRz021 := Lib.hid ((RodsR.of_own ho))
  have HBs21_21 : Hid (Below w21.heap.size w21 w21) := Lib.hid (Below.refl _ _)
  clear ho
  clear ca00 ca01 ca02 fa00 fa01 fa02 lta0 ca10 ca11 ca12 fa10 fa11 fa12 lta1
  have lta0 := lt_of_block HKa021.out
  obtain ⟨ca00, ca01, ca02, fa00, fa01, fa02⟩ := cell3 HKa021.out
  have lta1 := lt_of_block HKa121.out
  obtain ⟨ca10, ca11, ca12, fa10, fa11, fa12⟩ := cell3 HKa121.out
  try go_simp
  refine hK.out _ _ (⟨ca00, ca01, ca02, ca10, ca11, ca12⟩) (fun hHeld => ?_)
  clear hK K
  try simp only [Act.put, List.setIfInBounds_toArray, List.set_cons_zero, List.set_cons_succ]
  refine wpAnyH_ready (rs := [3]) (by kernel_rfl) (by simp) ?_
  refine AllReadyH.cons rfl (fun K hK => ?_) AllReadyH.nil
  go_simp
  go_at_call 17
  refine (toFrame_any up1 lo1 _ rs1 _ (HRf10.out.below HB21.out (Nat.le_refl _)) hn1).mono ?_
  rintro e w22 ⟨⟨sz1, rfl, ho⟩, hb⟩
  have HB22 : Hid (Below w.heap.size w w22) := Lib.hid (HB21.out.trans (hb.mono HB21.out.size))
  have HZ22 : Hid (w21.heap.size ≤ w22.heap.size) := Lib.hid hb.size
  have HRf022 := Lib.hid (HRf00.out.below HB22.out (Nat.le_refl _))
  have HRf122 := Lib.hid (HRf10.out.below HB22.out (Nat.le_refl _))
  have HKa022 := Lib.hid ((hb.block _ (lt_of_block HKa021.out)).trans HKa021.out)
  have HKa122 := Lib.hid ((hb.block _ (lt_of_block HKa121.out)).trans HKa121.out)
  have HRw22 := Lib.hid (HRw21.out.below hb (Nat.le_refl _))
  have HOg22 := Lib.hid (HOg21.out.next hb)
  have HRz022 := Lib.hid (HRz021.out.below hb (Nat.le_refl _))
  have HBs7_22 : Hid (Below w7.heap.size w7 w22) := Lib.hid (HBs7_21.out.trans (hb.mono HBs7_21.out.size))
  have HBs21_22 : Hid (Below w21.heap.size w21 w22) := Lib.hid (HBs21_21.out.trans (hb.mono HBs21_21.out.size))
  clear hb
  obtain ⟨pz1, kz1, rfl⟩ := own_form ho
  have HRz122 := Lib.hid ((RodsR.of_own ho))
  have HBs22_22 : Hid (Below w22.heap.size w22 w22) := Lib.hid (Below.refl _ _)
  clear ho
  clear ca00 ca01 ca02 fa00 fa01 fa02 lta0 ca10 ca11 ca12 fa10 fa11 fa12 lta1
  have lta0 := lt_of_block HKa022.out
  obtain ⟨ca00, ca01, ca02, fa00, fa01, fa02⟩ := cell3 HKa022.out
  have lta1 := lt_of_block HKa122.out
  obtain ⟨ca10, ca11, ca12, fa10, fa11, fa12⟩ := cell3 HKa122.out
  try go_simp
  refine hK.out _ _ (⟨ca00, ca01, ca02, ca10, ca11, ca12⟩) (fun hHeld => ?_)
  clear hK K
  try simp only [Act.put, List.setIfInBounds_toArray, List.set_cons_zero, List.set_cons_succ]
  refine wpAnyH_ready (rs := [4]) (by kernel_rfl) (by simp) ?_
  refine AllReadyH.cons rfl (fun K hK => ?_) AllReadyH.nil
  go_simp
  go_at_call 39
  refine (HI.out hn0 hn1 _ _ _ HRz022.out HRz122.out).mono ?_
  rintro e w23 ⟨⟨sh, rfl, ho⟩, hb⟩
  have HB23 : Hid (Below w.heap.size w w23) := Lib.hid (HB22.out.trans (hb.mono HB22.out.size))
  have HZ23 : Hid (w22.heap.size ≤ w23.heap.size) := Lib.hid hb.size
  have HRf023 := Lib.hid (HRf00.out.below HB23.out (Nat.le_refl _))
  have HRf123 := Lib.hid (HRf10.out.below HB23.out (Nat.le_refl _))
  have HKa023 := Lib.hid ((hb.block _ (lt_of_block HKa022.out)).trans HKa022.out)
  have HKa123 := Lib.hid ((hb.block _ (lt_of_block HKa122.out)).trans HKa122.out)
  have HRw23 := Lib.hid (HRw22.out.below hb (Nat.le_refl _))
  have HOg23 := Lib.hid (HOg22.out.next hb)
  have HRz023 := Lib.hid (HRz022.out.below hb (Nat.le_refl _))
  have HRz123 := Lib.hid (HRz122.out.below hb (Nat.le_refl _))
  have HBs7_23 : Hid (Below w7.heap.size w7 w23) := Lib.hid (HBs7_22.out.trans (hb.mono HBs7_22.out.size))
  have HBs21_23 : Hid (Below w21.heap.size w21 w23) := Lib.hid (HBs21_22.out.trans (hb.mono HBs21_22.out.size))
  have HBs22_23 : Hid (Below w22.heap.size w22 w23) := Lib.hid (HBs22_22.out.trans (hb.mono HBs22_22.out.size))
  clear hb
  obtain ⟨ph, kh, rfl⟩ := own_form ho
  have HOh23 := Lib.hid (Ow.mk' ho)
  clear ho
  clear ca00 ca01 ca02 fa00 fa01 fa02 lta0 ca10 ca11 ca12 fa10 fa11 fa12 lta1
  have lta0 := lt_of_block HKa023.out
  obtain ⟨ca00, ca01, ca02, fa00, fa01, fa02⟩ := cell3 HKa023.out
  have lta1 := lt_of_block HKa123.out
  obtain ⟨ca10, ca11, ca12, fa10, fa11, fa12⟩ := cell3 HKa123.out
  try go_simp
  refine hK.out _ _ (⟨ca00, ca01, ca02, ca10, ca11, ca12⟩) (fun hHeld => ?_)
  clear hK K
  try simp only [Act.put, List.setIfInBounds_toArray, List.set_cons_zero, List.set_cons_succ]
  -- OPS 4
  refine take1 (i := 5) (v := ?v10) (some 94) rfl rfl (by kernel_rfl) (by kernel_rfl) (by kernel_rfl) (fun _ _ _ h => h) (Or.inl ⟨by rfl, ?y10⟩) (by assumption) ?r10
  case y10 => (intro w hSw; (try dsimp only at hSw); go_simp; (first | done | with_reducible rfl))
  try simp only [Act.put, List.setIfInBounds_toArray, List.set_cons_zero, List.set_cons_succ]
  refine take1 (i := 6) (v := ?v11) (some 100) rfl rfl (by kernel_rfl) (by kernel_rfl) (by kernel_rfl) (fun _ _ _ h => h) (Or.inl ⟨by rfl, ?y11⟩) (by assumption) ?r11
  case y11 => (intro w hSw; (try dsimp only at hSw); go_simp; (first | done | with_reducible rfl))
  try simp only [Act.put, List.setIfInBounds_toArray, List.set_cons_zero, List.set_cons_succ]
  refine take1 (i := 7) (v := ?v12) (some 101) rfl rfl (by kernel_rfl) (by kernel_rfl) (by kernel_rfl) (fun _ _ _ h => h) (Or.inl ⟨by rfl, ?y12⟩) (by assumption) ?r12
  case y12 => (intro w hSw; (try dsimp only at hSw); go_simp; (first | done | with_reducible rfl))
  try simp only [Act.put, List.setIfInBounds_toArray, List.set_cons_zero, List.set_cons_succ]
  refine take1 (i := 8) (v := ?v13) (some 15) rfl rfl (by kernel_rfl) (by kernel_rfl) (by kernel_rfl) (fun _ _ _ h => h) (Or.inl ⟨by rfl, ?y13⟩) (by assumption) ?r13
  case y13 => (intro w hSw; (try dsimp only at hSw); go_simp; (first | done | with_reducible rfl))
  try simp only [Act.put, List.setIfInBounds_toArray, List.set_cons_zero, List.set_cons_succ]
  refine take1 (i := 9) (v := ?v14) (some 16) rfl rfl (by kernel_rfl) (by kernel_rfl) (by kernel_rfl) (fun _ _ _ h => h) (Or.inl ⟨by rfl, ?y14⟩) (by assumption) ?r14
  case y14 => (intro w hSw; (try dsimp only at hSw); go_simp; (first | done | with_reducible rfl))
  try simp only [Act.put, List.setIfInBounds_toArray, List.set_cons_zero, List.set_cons_succ]
  refine wpAnyH_done (by kernel_rfl) ?_ _
  go_wp2_with fail
  refine (eqBeadMoveS_yes _ _ qs _ (RowsR.of_own mvC_len HOh23.out.1) HRw23.out).mono ?_
  rintro e w24 ⟨rfl, hb⟩
  have HB24 : Hid (Below w.heap.size w w24) := Lib.hid (HB23.out.trans (hb.mono HB23.out.size))
  have HZ24 : Hid (w23.heap.size ≤ w24.heap.size) := Lib.hid hb.size
  have HRf024 := Lib.hid (HRf00.out.below HB24.out (Nat.le_refl _))
  have HRf124 := Lib.hid (HRf10.out.below HB24.out (Nat.le_refl _))
  have HKa024 := Lib.hid ((hb.block _ (lt_of_block HKa023.out)).trans HKa023.out)
  have HKa124 := Lib.hid ((hb.block _ (lt_of_block HKa123.out)).trans HKa123.out)
  have HRw24 := Lib.hid (HRw23.out.below hb (Nat.le_refl _))
  have HOg24 := Lib.hid (HOg23.out.next hb)
  have HRz024 := Lib.hid (HRz023.out.below hb (Nat.le_refl _))
  have HRz124 := Lib.hid (HRz123.out.below hb (Nat.le_refl _))
  have HOh24 := Lib.hid (HOh23.out.next hb)
  have HBs7_24 : Hid (Below w7.heap.size w7 w24) := Lib.hid (HBs7_23.out.trans (hb.mono HBs7_23.out.size))
  have HBs21_24 : Hid (Below w21.heap.size w21 w24) := Lib.hid (HBs21_23.out.trans (hb.mono HBs21_23.out.size))
  have HBs22_24 : Hid (Below w22.heap.size w22 w24) := Lib.hid (HBs22_23.out.trans (hb.mono HBs22_23.out.size))
  clear hb
  clear ca00 ca01 ca02 fa00 fa01 fa02 lta0 ca10 ca11 ca12 fa10 fa11 fa12 lta1
  have lta0 := lt_of_block HKa024.out
  obtain ⟨ca00, ca01, ca02, fa00, fa01, fa02⟩ := cell3 HKa024.out
  have lta1 := lt_of_block HKa124.out
  obtain ⟨ca10, ca11, ca12, fa10, fa11, fa12⟩ := cell3 HKa124.out
  go_wp2_with fail
  refine (heldBeadMoveS_any _ qs.length 1 _ (RowsR.of_own mvC_len (own_relen' (mksMv_len 1 qs.length) HOg24.out.1)) (by omega) (by omega)).mono ?_
  rintro e w25 ⟨rfl, hb⟩
  have HB25 : Hid (Below w.heap.size w w25) := Lib.hid (HB24.out.trans (hb.mono HB24.out.size))
  have HZ25 : Hid (w24.heap.size ≤ w25.heap.size) := Lib.hid hb.size
  have HRf025 := Lib.hid (HRf00.out.below HB25.out (Nat.le_refl _))
  have HRf125 := Lib.hid (HRf10.out.below HB25.out (Nat.le_refl _))
  have HKa025 := Lib.hid ((hb.block _ (lt_of_block HKa024.out)).trans HKa024.out)
  have HKa125 := Lib.hid ((hb.block _ (lt_of_block HKa124.out)).trans HKa124.out)
  have HRw25 := Lib.hid (HRw24.out.below hb (Nat.le_refl _))
  have HOg25 := Lib.hid (HOg24.out.next hb)
  have HRz025 := Lib.hid (HRz024.out.below hb (Nat.le_refl _))
  have HRz125 := Lib.hid (HRz124.out.below hb (Nat.le_refl _))
  have HOh25 := Lib.hid (HOh24.out.next hb)
  have HBs7_25 : Hid (Below w7.heap.size w7 w25) := Lib.hid (HBs7_24.out.trans (hb.mono HBs7_24.out.size))
  have HBs21_25 : Hid (Below w21.heap.size w21 w25) := Lib.hid (HBs21_24.out.trans (hb.mono HBs21_24.out.size))
  have HBs22_25 : Hid (Below w22.heap.size w22 w25) := Lib.hid (HBs22_24.out.trans (hb.mono HBs22_24.out.size))
  clear hb
  clear ca00 ca01 ca02 fa00 fa01 fa02 lta0 ca10 ca11 ca12 fa10 fa11 fa12 lta1
  have lta0 := lt_of_block HKa025.out
  obtain ⟨ca00, ca01, ca02, fa00, fa01, fa02⟩ := cell3 HKa025.out
  have lta1 := lt_of_block HKa125.out
  obtain ⟨ca10, ca11, ca12, fa10, fa11, fa12⟩ := cell3 HKa125.out
  go_wp2_with fail
  go_ret
  exact ⟨rfl, HB25.out⟩
end Go.Proofs.Ytpdckmhhmgkaaaa
