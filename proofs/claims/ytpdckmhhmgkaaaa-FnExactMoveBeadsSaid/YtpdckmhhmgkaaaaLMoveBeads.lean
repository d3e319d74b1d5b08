/- The law on MoveBeads: it returns true where the model and the program give one answer. -/
import Derived.Test.YtpdckmhhmgkaaaaFrm
import Derived.Test.YtpdckmhhmgkaaaaRat
import Derived.Test.YtpdckmhhmgkaaaaMk
import Derived.Test.YtpdckmhhmgkaaaaBeadMoves
import Derived.Test.YtpdckmhhmgkaaaaReg
import Derived.Deep.RegionHeld3
import Derived.Deep.Cut
namespace Go.Proofs.Ytpdckmhhmgkaaaa
set_option linter.unusedVariables false
open Go.RowKit

theorem box3_set' {w : World} {g : Nat} {a b c : Value} {T : TypeId} (h : w.heap[g]? = some (.cells #[a, b, c] T (0, 0))) (x y z : Value) :
    (((w.setCell ⟨g, 0, none⟩ x).setCell ⟨g, 1, none⟩ y).setCell ⟨g, 2, none⟩ z).heap[g]? = some (.cells #[x, y, z] T (0, 0)) := by
  have h1 := heap_setCell_same w g 0 _ _ x h
  have h2 := heap_setCell_same _ g 1 _ _ y h1
  have h3 := heap_setCell_same _ g 2 _ _ z h2
  simpa using h3

set_option maxRecDepth 100000 in
set_option maxHeartbeats 6400000 in
theorem lawMoveBeads (w : World) (up0 lo0 : Int) (sv0 : Value) (rs0 : List (Int × Int)) (h0 : RodsR w sv0 rs0) (q1 : Mv) (fu fl : Int) (qs : List (Int × Int)) (hq : qs.length ≤ 1000) (r1 : Bool) 
    (hS : rs0.length ≤ 1048576 → ∀ s0 w, RodsR w s0 rs0 → Calls Try.prog 27 #[.agg #[.int .i64 up0, .int .i64 lo0, s0], mvV q1] w fun e w' => (∃ sq, e = .returned (.tuple #[.agg #[.int .i64 fu, .int .i64 fl, sq], .bool r1]) ∧ w'.ownsRow w.heap.size 74 2 sq qs.length (flat qs)) ∧ Below w.heap.size w w') 
    (hI : rs0.length ≤ 1048576 → ∀ s0 w, RodsR w s0 rs0 → Calls Try.prog 28 #[.agg #[.int .i64 up0, .int .i64 lo0, s0], mvV q1] w fun e w' => (∃ sq, e = .returned (.tuple #[.agg #[.int .i64 fu, .int .i64 fl, sq], .bool r1]) ∧ w'.ownsRow w.heap.size 74 2 sq qs.length (flat qs)) ∧ Below w.heap.size w w') :
    Calls Try.prog 6 #[.agg #[.int .i64 up0, .int .i64 lo0, sv0], mvV q1] w fun e w' => e = .returned (.bool true) ∧ Below w.heap.size w w' := by
  have HS := Lib.hid hS
  have HI := Lib.hid hI
  obtain ⟨ad0, cp0, rfl⟩ : ∃ a c, sv0 = .slice a rs0.length c := by obtain ⟨a, c, e, _⟩ := h0; exact ⟨a, c, e⟩
  have hqk : ¬ (1 + 2 * (qs.length : Int) < 0) := by omega
  have hqk' : ((1 + 2 * (qs.length : Int)) != (1 + 2 * (qs.length : Int))) = false := by simp
  have HB0 : Hid (Below w.heap.size w w) := Lib.hid (Below.refl _ _)
  have HRf00 := Lib.hid (h0)
  clear hS hI h0
  have hr1 : (r1 != r1) = false := by simp
  go_enter Try.func6, Try.ntmps6
  unfold mvV
  go_wp2_with fail
  have hb : Below w.heap.size w (w.alloc (.cells #[.int .i64 up0, .int .i64 lo0, .slice ad0 rs0.length cp0] 24)) := (Below.refl _ _).alloc (Nat.le_refl _) _
  have hk : (w.alloc (.cells #[.int .i64 up0, .int .i64 lo0, .slice ad0 rs0.length cp0] 24)).heap[w.heap.size]? = some (.cells #[.int .i64 up0, .int .i64 lo0, .slice ad0 rs0.length cp0] 24 (0, 0)) := alloc_at rfl
  have hz : (w.alloc (.cells #[.int .i64 up0, .int .i64 lo0, .slice ad0 rs0.length cp0] 24)).heap.size = w.heap.size + 1 := by simp
  generalize w.alloc (.cells #[.int .i64 up0, .int .i64 lo0, .slice ad0 rs0.length cp0] 24) = w1 at hb hk hz ⊢
  have HB1 : Hid (Below w.heap.size w w1) := Lib.hid (HB0.out.trans (hb.mono HB0.out.size))
  have HZ1 : Hid (w.heap.size ≤ w1.heap.size) := Lib.hid hb.size
  have HRf01 := Lib.hid (HRf00.out.below HB1.out (Nat.le_refl _))
  have HKa01 := Lib.hid hk
  replace HZ1 : Hid (w.heap.size < w1.heap.size) := Lib.hid (by omega)
  have HE1 := Lib.hid hz
  clear hb hk hz
  have hb : Below w1.heap.size w1 (w1.alloc (.cells #[.int .i64 q1.rod, .int .i64 q1.part, .int .i64 q1.amt] 36)) := (Below.refl _ _).alloc (Nat.le_refl _) _
  have hk : (w1.alloc (.cells #[.int .i64 q1.rod, .int .i64 q1.part, .int .i64 q1.amt] 36)).heap[w.heap.size + 1]? = some (.cells #[.int .i64 q1.rod, .int .i64 q1.part, .int .i64 q1.amt] 36 (0, 0)) := alloc_at (by have := HE1.out; omega)
  have hz : (w1.alloc (.cells #[.int .i64 q1.rod, .int .i64 q1.part, .int .i64 q1.amt] 36)).heap.size = w1.heap.size + 1 := by simp
  generalize w1.alloc (.cells #[.int .i64 q1.rod, .int .i64 q1.part, .int .i64 q1.amt] 36) = w2 at hb hk hz ⊢
  have HB2 : Hid (Below w.heap.size w w2) := Lib.hid (HB1.out.trans (hb.mono HB1.out.size))
  have HZ2 : Hid (w1.heap.size ≤ w2.heap.size) := Lib.hid hb.size
  have HRf02 := Lib.hid (HRf00.out.below HB2.out (Nat.le_refl _))
  have HKa02 := Lib.hid ((hb.block _ (lt_of_block HKa01.out)).trans HKa01.out)
  have HKa12 := Lib.hid hk
  replace HZ2 : Hid (w1.heap.size < w2.heap.size) := Lib.hid (by omega)
  have HE2 := Lib.hid hz
  clear hb hk hz
  refine (szFrame_any up0 lo0 1048576 _ rs0 _ HRf02.out (by omega) (by omega)).mono ?_
  rintro e w3 ⟨⟨l0, rfl, hl0, hk0⟩, hb⟩
  have HB3 : Hid (Below w.heap.size w w3) := Lib.hid (HB2.out.trans (hb.mono HB2.out.size))
  have HZ3 : Hid (w2.heap.size ≤ w3.heap.size) := Lib.hid hb.size
  have HRf03 := Lib.hid (HRf00.out.below HB3.out (Nat.le_refl _))
  have HKa03 := Lib.hid ((hb.block _ (lt_of_block HKa02.out)).trans HKa02.out)
  have HKa13 := Lib.hid ((hb.block _ (lt_of_block HKa12.out)).trans HKa12.out)
  clear hb
  by_cases hr : l0 < 0
  · clear hk0
    have lta0 := lt_of_block HKa03.out
    obtain ⟨ca00, ca01, ca02, fa00, fa01, fa02⟩ := cell3 HKa03.out
    have lta1 := lt_of_block HKa13.out
    obtain ⟨ca10, ca11, ca12, fa10, fa11, fa12⟩ := cell3 HKa13.out
    go_wp2_with fail
    go_ret
    exact ⟨rfl, HB3.out⟩
  have hn0 : rs0.length ≤ 1048576 := by have := hk0 (by omega); omega
  clear hk0
  have lta0 := lt_of_block HKa03.out
  obtain ⟨ca00, ca01, ca02, fa00, fa01, fa02⟩ := cell3 HKa03.out
  have lta1 := lt_of_block HKa13.out
  obtain ⟨ca10, ca11, ca12, fa10, fa11, fa12⟩ := cell3 HKa13.out
  go_wp2_with fail
  clear ca00 ca01 ca02 fa00 fa01 fa02 lta0 ca10 ca11 ca12 fa10 fa11 fa12 lta1
  have lta0 := lt_of_block HKa03.out
  obtain ⟨ca00, ca01, ca02, fa00, fa01, fa02⟩ := cell3 HKa03.out
  have lta1 := lt_of_block HKa13.out
  obtain ⟨ca10, ca11, ca12, fa10, fa11, fa12⟩ := cell3 HKa13.out
  go_cut [6, 7] from 21 (fun p q wc => ∃ (b : Nat) (pa : Option Addr) (ka lo hi : Nat), p = .pointer (some ⟨b, 0, none⟩) ∧ q = .bool r1 ∧ wc.heap[b]? = some (.cells #[.int .i64 fu, .int .i64 fl, .slice pa qs.length ka] 28 (0, 0)) ∧ Ow lo hi wc 74 2 (.slice pa qs.length ka) qs.length (flat qs) ∧ w3.heap.size ≤ lo ∧ lo ≤ wc.heap.size ∧ hi ≤ wc.heap.size ∧ (b < lo ∨ hi ≤ b) ∧ w3.heap.size ≤ b ∧ Below w3.heap.size w3 wc)
  case first =>
    have HBs3_3 : Hid (Below w3.heap.size w3 w3) := Lib.hid (Below.refl _ _)
    refine wp_region_held_drew (S := (fun w' => w'.cell? ⟨w.heap.size, 0, none⟩ = some (.int .i64 up0) ∧ w'.cell? ⟨w.heap.size, 1, none⟩ = some (.int .i64 lo0) ∧ w'.cell? ⟨w.heap.size, 2, none⟩ = some (.slice ad0 rs0.length cp0) ∧ w'.cell? ⟨w.heap.size + 1, 0, none⟩ = some (.int .i64 q1.rod) ∧ w'.cell? ⟨w.heap.size + 1, 1, none⟩ = some (.int .i64 q1.part) ∧ w'.cell? ⟨w.heap.size + 1, 2, none⟩ = some (.int .i64 q1.amt))) (by kernel_rfl) (⟨ca00, ca01, ca02, ca10, ca11, ca12⟩) (fun hHeld => ?_)
    have hb : Below w3.heap.size w3 w3.drew := (Below.refl _ _).drew
    generalize w3.drew = w4 at hb hHeld ⊢
    have HB4 : Hid (Below w.heap.size w w4) := Lib.hid (HB3.out.trans (hb.mono HB3.out.size))
    have HZ4 : Hid (w3.heap.size ≤ w4.heap.size) := Lib.hid hb.size
    have HRf04 := Lib.hid (HRf00.out.below HB4.out (Nat.le_refl _))
    have HKa04 := Lib.hid ((hb.block _ (lt_of_block HKa03.out)).trans HKa03.out)
    have HKa14 := Lib.hid ((hb.block _ (lt_of_block HKa13.out)).trans HKa13.out)
    have HBs3_4 : Hid (Below w3.heap.size w3 w4) := Lib.hid (HBs3_3.out.trans (hb.mono HBs3_3.out.size))
    clear hb
    clear ca00 ca01 ca02 fa00 fa01 fa02 lta0 ca10 ca11 ca12 fa10 fa11 fa12 lta1
    have lta0 := lt_of_block HKa04.out
    obtain ⟨ca00, ca01, ca02, fa00, fa01, fa02⟩ := cell3 HKa04.out
    have lta1 := lt_of_block HKa14.out
    obtain ⟨ca10, ca11, ca12, fa10, fa11, fa12⟩ := cell3 HKa14.out
    refine take1 (i := 0) (v := ?v1) (some 22) rfl rfl (by kernel_rfl) (by kernel_rfl) (by kernel_rfl) (fun _ _ _ h => h) (Or.inl ⟨by rfl, ?y1⟩) (by assumption) ?r1
    case y1 => (intro w hSw; (try dsimp only at hSw); go_simp; (first | done | with_reducible rfl))
    try simp only [Act.put, List.setIfInBounds_toArray, List.set_cons_zero, List.set_cons_succ]
    refine take1 (i := 2) (v := ?v2) (some 24) rfl rfl (by kernel_rfl) (by kernel_rfl) (by kernel_rfl) (fun _ _ _ h => h) (Or.inl ⟨by rfl, ?y2⟩) (by assumption) ?r2
    case y2 => (intro w hSw; (try dsimp only at hSw); go_simp; (first | done | with_reducible rfl))
    try simp only [Act.put, List.setIfInBounds_toArray, List.set_cons_zero, List.set_cons_succ]
    refine wpAnyH_ready (rs := [1, 8]) (by kernel_rfl) (by simp) ?_
    refine AllReadyH.cons rfl (fun K hK => ?_) (AllReadyH.cons rfl (fun K hK => ?_) AllReadyH.nil)
    · go_simp
      go_at_call 17
      refine (toFrame_any up0 lo0 _ rs0 _ HRf04.out hn0).mono ?_
      rintro e w5 ⟨⟨st0, rfl, ho⟩, hb⟩
      have HB5 : Hid (Below w.heap.size w w5) := Lib.hid (HB4.out.trans (hb.mono HB4.out.size))
      have HZ5 : Hid (w4.heap.size ≤ w5.heap.size) := Lib.hid hb.size
      have HRf05 := Lib.hid (HRf00.out.below HB5.out (Nat.le_refl _))
      have HKa05 := Lib.hid ((hb.block _ (lt_of_block HKa04.out)).trans HKa04.out)
      have HKa15 := Lib.hid ((hb.block _ (lt_of_block HKa14.out)).trans HKa14.out)
      have HBs3_5 : Hid (Below w3.heap.size w3 w5) := Lib.hid (HBs3_4.out.trans (hb.mono HBs3_4.out.size))
      clear hb
      obtain ⟨pt0, kt0, rfl⟩ := own_form ho
      have HRt05 := Lib.hid ((RodsR.of_own ho))
      have HBs5_5 : Hid (Below w5.heap.size w5 w5) := Lib.hid (Below.refl _ _)
      clear ho
      clear ca00 ca01 ca02 fa00 fa01 fa02 lta0 ca10 ca11 ca12 fa10 fa11 fa12 lta1
      have lta0 := lt_of_block HKa05.out
      obtain ⟨ca00, ca01, ca02, fa00, fa01, fa02⟩ := cell3 HKa05.out
      have lta1 := lt_of_block HKa15.out
      obtain ⟨ca10, ca11, ca12, fa10, fa11, fa12⟩ := cell3 HKa15.out
      try go_simp
      refine hK.out _ _ (⟨ca00, ca01, ca02, ca10, ca11, ca12⟩) (fun hHeld => ?_)
      clear hK K
      try simp only [Act.put, List.setIfInBounds_toArray, List.set_cons_zero, List.set_cons_succ]
      refine wpAnyH_ready (rs := [3, 8]) (by kernel_rfl) (by simp) ?_
      refine AllReadyH.cons rfl (fun K hK => ?_) (AllReadyH.cons rfl (fun K hK => ?_) AllReadyH.nil)
      · go_simp
        go_at_call 25
        refine (toBeadMove_any q1 _).mono ?_
        rintro e w6 ⟨rfl, hb⟩
        have HB6 : Hid (Below w.heap.size w w6) := Lib.hid (HB5.out.trans (hb.mono HB5.out.size))
        have HZ6 : Hid (w5.heap.size ≤ w6.heap.size) := Lib.hid hb.size
        have HRf06 := Lib.hid (HRf00.out.below HB6.out (Nat.le_refl _))
        have HKa06 := Lib.hid ((hb.block _ (lt_of_block HKa05.out)).trans HKa05.out)
        have HKa16 := Lib.hid ((hb.block _ (lt_of_block HKa15.out)).trans HKa15.out)
        have HRt06 := Lib.hid (HRt05.out.below hb (Nat.le_refl _))
        have HBs3_6 : Hid (Below w3.heap.size w3 w6) := Lib.hid (HBs3_5.out.trans (hb.mono HBs3_5.out.size))
        have HBs5_6 : Hid (Below w5.heap.size w5 w6) := Lib.hid (HBs5_5.out.trans (hb.mono HBs5_5.out.size))
        clear hb
        clear ca00 ca01 ca02 fa00 fa01 fa02 lta0 ca10 ca11 ca12 fa10 fa11 fa12 lta1
        have lta0 := lt_of_block HKa06.out
        obtain ⟨ca00, ca01, ca02, fa00, fa01, fa02⟩ := cell3 HKa06.out
        have lta1 := lt_of_block HKa16.out
        obtain ⟨ca10, ca11, ca12, fa10, fa11, fa12⟩ := cell3 HKa16.out
        try go_simp
        refine hK.out _ _ (⟨ca00, ca01, ca02, ca10, ca11, ca12⟩) (fun hHeld => ?_)
        clear hK K
        try simp only [Act.put, List.setIfInBounds_toArray, List.set_cons_zero, List.set_cons_succ]
        refine wpAnyH_ready (rs := [4, 8]) (by kernel_rfl) (by simp) ?_
        refine AllReadyH.cons rfl (fun K hK => ?_) (AllReadyH.cons rfl (fun K hK => ?_) AllReadyH.nil)
        · go_simp
          go_at_call 27
          refine (HS.out hn0 _ _ HRt06.out).mono ?_
          rintro e w7 ⟨⟨sw, rfl, ho⟩, hb⟩
          have HB7 : Hid (Below w.heap.size w w7) := Lib.hid (HB6.out.trans (hb.mono HB6.out.size))
          have HZ7 : Hid (w6.heap.size ≤ w7.heap.size) := Lib.hid hb.size
          have HRf07 := Lib.hid (HRf00.out.below HB7.out (Nat.le_refl _))
          have HKa07 := Lib.hid ((hb.block _ (lt_of_block HKa06.out)).trans HKa06.out)
          have HKa17 := Lib.hid ((hb.block _ (lt_of_block HKa16.out)).trans HKa16.out)
          have HRt07 := Lib.hid (HRt06.out.below hb (Nat.le_refl _))
          have HBs3_7 : Hid (Below w3.heap.size w3 w7) := Lib.hid (HBs3_6.out.trans (hb.mono HBs3_6.out.size))
          have HBs5_7 : Hid (Below w5.heap.size w5 w7) := Lib.hid (HBs5_6.out.trans (hb.mono HBs5_6.out.size))
          clear hb
          obtain ⟨pw, kw, rfl⟩ := own_form ho
          have HOw7 := Lib.hid (Ow.mk' ho)
          clear ho
          clear ca00 ca01 ca02 fa00 fa01 fa02 lta0 ca10 ca11 ca12 fa10 fa11 fa12 lta1
          have lta0 := lt_of_block HKa07.out
          obtain ⟨ca00, ca01, ca02, fa00, fa01, fa02⟩ := cell3 HKa07.out
          have lta1 := lt_of_block HKa17.out
          obtain ⟨ca10, ca11, ca12, fa10, fa11, fa12⟩ := cell3 HKa17.out
          try go_simp
          refine hK.out _ _ (⟨ca00, ca01, ca02, ca10, ca11, ca12⟩) (fun hHeld => ?_)
          clear hK K
          try simp only [Act.put, List.setIfInBounds_toArray, List.set_cons_zero, List.set_cons_succ]
          refine take1 (i := 5) (v := ?v3) (some 21) rfl rfl (by kernel_rfl) (by kernel_rfl) (by kernel_rfl) (fun _ _ _ h => h) (Or.inl ⟨by rfl, ?y3⟩) (by assumption) ?r3
          case y3 => (intro w hSw; (try dsimp only at hSw); go_simp; (first | done | with_reducible rfl))
          try simp only [Act.put, List.setIfInBounds_toArray, List.set_cons_zero, List.set_cons_succ]
          refine take1 (i := 6) (v := ?v4) (some 27) rfl rfl (by kernel_rfl) (by kernel_rfl) (by kernel_rfl) (fun _ _ _ h => h) (Or.inl ⟨by rfl, ?y4⟩) (by assumption) ?r4
          case y4 => (intro w hSw; (try dsimp only at hSw); go_simp; (first | done | with_reducible rfl))
          try simp only [Act.put, List.setIfInBounds_toArray, List.set_cons_zero, List.set_cons_succ]
          refine take1 (i := 7) (v := ?v5) (some 28) rfl rfl (by kernel_rfl) (by kernel_rfl) (by kernel_rfl) (fun _ _ _ h => h) (Or.inl ⟨by rfl, ?y5⟩) (by assumption) ?r5
          case y5 => (intro w hSw; (try dsimp only at hSw); go_simp; (first | done | with_reducible rfl))
          try simp only [Act.put, List.setIfInBounds_toArray, List.set_cons_zero, List.set_cons_succ]
          refine wpAnyH_ready (rs := [8]) (by kernel_rfl) (by simp) ?_
          refine AllReadyH.cons rfl (fun K hK => ?_) AllReadyH.nil
          go_simp
          have hb : Below w7.heap.size w7 (w7.alloc (.cells #[.int .i64 0, .int .i64 0, .slice none 0 0] 28)) := (Below.refl _ _).alloc (Nat.le_refl _) _
          have hk : (w7.alloc (.cells #[.int .i64 0, .int .i64 0, .slice none 0 0] 28)).heap[w7.heap.size]? = some (.cells #[.int .i64 0, .int .i64 0, .slice none 0 0] 28 (0, 0)) := alloc_at rfl
          have hz : (w7.alloc (.cells #[.int .i64 0, .int .i64 0, .slice none 0 0] 28)).heap.size = w7.heap.size + 1 := by simp
          generalize w7.alloc (.cells #[.int .i64 0, .int .i64 0, .slice none 0 0] 28) = w8 at hb hk hz ⊢
          have HB8 : Hid (Below w.heap.size w w8) := Lib.hid (HB7.out.trans (hb.mono HB7.out.size))
          have HZ8 : Hid (w7.heap.size ≤ w8.heap.size) := Lib.hid hb.size
          have HRf08 := Lib.hid (HRf00.out.below HB8.out (Nat.le_refl _))
          have HKa08 := Lib.hid ((hb.block _ (lt_of_block HKa07.out)).trans HKa07.out)
          have HKa18 := Lib.hid ((hb.block _ (lt_of_block HKa17.out)).trans HKa17.out)
          have HRt08 := Lib.hid (HRt07.out.below hb (Nat.le_refl _))
          have HOw8 := Lib.hid (HOw7.out.next hb)
          have HBs3_8 : Hid (Below w3.heap.size w3 w8) := Lib.hid (HBs3_7.out.trans (hb.mono HBs3_7.out.size))
          have HBs5_8 : Hid (Below w5.heap.size w5 w8) := Lib.hid (HBs5_7.out.trans (hb.mono HBs5_7.out.size))
          have HKw08 := Lib.hid hk
          replace HZ8 : Hid (w7.heap.size < w8.heap.size) := Lib.hid (by omega)
          have HE8 := Lib.hid hz
          clear hb hk hz
          clear ca00 ca01 ca02 fa00 fa01 fa02 lta0 ca10 ca11 ca12 fa10 fa11 fa12 lta1
          have lta0 := lt_of_block HKa08.out
          obtain ⟨ca00, ca01, ca02, fa00, fa01, fa02⟩ := cell3 HKa08.out
          have lta1 := lt_of_block HKa18.out
          obtain ⟨ca10, ca11, ca12, fa10, fa11, fa12⟩ := cell3 HKa18.out
          have ltw0 := lt_of_block HKw08.out
          obtain ⟨cw00, cw01, cw02, fw00, fw01, fw02⟩ := cell3 HKw08.out
          refine hK.out _ _ (⟨ca00, ca01, ca02, ca10, ca11, ca12⟩) (fun hHeld => ?_)
          clear hK K
          try simp only [Act.put, List.setIfInBounds_toArray, List.set_cons_zero, List.set_cons_succ]
          refine wpAnyH_ready (rs := [9]) (by kernel_rfl) (by simp) ?_
          refine AllReadyH.cons rfl (fun K hK => ?_) AllReadyH.nil
          go_simp
          have hkb := box3_set' HKw08.out (.int .i64 fu) (.int .i64 fl) (.slice pw qs.length kw)
          have hm : Btw w7.heap.size (w7.heap.size + 1) w8 (((w8.setCell ⟨w7.heap.size, 0, none⟩ (.int .i64 fu)).setCell ⟨w7.heap.size, 1, none⟩ (.int .i64 fl)).setCell ⟨w7.heap.size, 2, none⟩ (.slice pw qs.length kw)) := (((Btw.refl w7.heap.size (w7.heap.size + 1) w8).setCell (p := ⟨w7.heap.size, 0, none⟩) (Nat.le_refl _) (Nat.lt_succ_self _) _).setCell (p := ⟨w7.heap.size, 1, none⟩) (Nat.le_refl _) (Nat.lt_succ_self _) _).setCell (p := ⟨w7.heap.size, 2, none⟩) (Nat.le_refl _) (Nat.lt_succ_self _) _
          generalize ((w8.setCell ⟨w7.heap.size, 0, none⟩ (.int .i64 fu)).setCell ⟨w7.heap.size, 1, none⟩ (.int .i64 fl)).setCell ⟨w7.heap.size, 2, none⟩ (.slice pw qs.length kw) = w9 at hkb hm ⊢
          have HZ9 : Hid (w8.heap.size ≤ w9.heap.size) := Lib.hid hm.size
          have HB9 : Hid (Below w.heap.size w w9) := Lib.hid (HB8.out.trans (hm.below.mono (by have := HZ1.out; have := HZ2.out; have := HZ3.out; have := HZ4.out; have := HZ5.out; have := HZ6.out; have := HZ7.out; have := HZ8.out; have := HB0.out.size; omega)))
          have HRf09 := Lib.hid (HRf00.out.below HB9.out (Nat.le_refl _))
          have HKa09 := Lib.hid ((hm.block _ (by have := lt_of_block HKa08.out; have := HZ1.out; have := HZ2.out; have := HZ3.out; have := HZ4.out; have := HZ5.out; have := HZ6.out; have := HZ7.out; have := HZ8.out; omega)).trans HKa08.out)
          have HKa19 := Lib.hid ((hm.block _ (by have := lt_of_block HKa18.out; have := HZ1.out; have := HZ2.out; have := HZ3.out; have := HZ4.out; have := HZ5.out; have := HZ6.out; have := HZ7.out; have := HZ8.out; omega)).trans HKa18.out)
          have HOw9 := Lib.hid (HOw8.out.btw hm (by have := HZ1.out; have := HZ2.out; have := HZ3.out; have := HZ4.out; have := HZ5.out; have := HZ6.out; have := HZ7.out; have := HZ8.out; omega))
          have HBs3_9 : Hid (Below w3.heap.size w3 w9) := Lib.hid (HBs3_8.out.trans (hm.below.mono (by have := HZ1.out; have := HZ2.out; have := HZ3.out; have := HZ4.out; have := HZ5.out; have := HZ6.out; have := HZ7.out; have := HZ8.out; omega)))
          clear hm
          have HKw09 := Lib.hid (hkb)
          clear hkb
          clear ca00 ca01 ca02 fa00 fa01 fa02 lta0 ca10 ca11 ca12 fa10 fa11 fa12 lta1 cw00 cw01 cw02 fw00 fw01 fw02 ltw0
          have lta0 := lt_of_block HKa09.out
          obtain ⟨ca00, ca01, ca02, fa00, fa01, fa02⟩ := cell3 HKa09.out
          have lta1 := lt_of_block HKa19.out
          obtain ⟨ca10, ca11, ca12, fa10, fa11, fa12⟩ := cell3 HKa19.out
          have ltw0 := lt_of_block HKw09.out
          obtain ⟨cw00, cw01, cw02, fw00, fw01, fw02⟩ := cell3 HKw09.out
          refine hK.out _ _ (⟨ca00, ca01, ca02, ca10, ca11, ca12⟩) (fun hHeld => ?_)
          clear hK K
          try simp only [Act.put]
          refine take1 (i := 10) (v := ?v6) (some 7) rfl rfl (by kernel_rfl) (by kernel_rfl) (by kernel_rfl) (fun _ _ _ h => h) (Or.inl ⟨by rfl, ?y6⟩) (by assumption) ?r6
          case y6 => (intro w hSw; (try dsimp only at hSw); go_simp; (first | done | with_reducible rfl))
          try simp only [Act.put, List.setIfInBounds_toArray, List.set_cons_zero, List.set_cons_succ]
          refine wpAnyH_done (by kernel_rfl) ?_ _
          go_wp2_with fail
          go_meet
          exact ⟨w7.heap.size, pw, kw, _, _, rfl, rfl, HKw09.out, HOw9.out, by have := HZ1.out; have := HZ2.out; have := HZ3.out; have := HZ4.out; have := HZ5.out; have := HZ6.out; have := HZ7.out; have := HZ8.out; have := HZ9.out;  omega, by have := HZ1.out; have := HZ2.out; have := HZ3.out; have := HZ4.out; have := HZ5.out; have := HZ6.out; have := HZ7.out; have := HZ8.out; have := HZ9.out;  omega, by have := HZ1.out; have := HZ2.out; have := HZ3.out; have := HZ4.out; have := HZ5.out; have := HZ6.out; have := HZ7.out; have := HZ8.out; have := HZ9.out;  omega, by have := HZ1.out; have := HZ2.out; have := HZ3.out; have := HZ4.out; have := HZ5.out; have := HZ6.out; have := HZ7.out; have := HZ8.out; have := HZ9.out;  omega, by have := HZ1.out; have := HZ2.out; have := HZ3.out; have := HZ4.out; have := HZ5.out; have := HZ6.out; have := HZ7.out; have := HZ8.out; have := HZ9.out;  omega, HBs3_9.out⟩
        · go_simp
          have hb : Below w6.heap.size w6 (w6.alloc (.cells #[.int .i64 0, .int .i64 0, .slice none 0 0] 28)) := (Below.refl _ _).alloc (Nat.le_refl _) _
          have hk : (w6.alloc (.cells #[.int .i64 0, .int .i64 0, .slice none 0 0] 28)).heap[w6.heap.size]? = some (.cells #[.int .i64 0, .int .i64 0, .slice none 0 0] 28 (0, 0)) := alloc_at rfl
          have hz : (w6.alloc (.cells #[.int .i64 0, .int .i64 0, .slice none 0 0] 28)).heap.size = w6.heap.size + 1 := by simp
          generalize w6.alloc (.cells #[.int .i64 0, .int .i64 0, .slice none 0 0] 28) = w7 at hb hk hz ⊢
          have HB7 : Hid (Below w.heap.size w w7) := Lib.hid (HB6.out.trans (hb.mono HB6.out.size))
          have HZ7 : Hid (w6.heap.size ≤ w7.heap.size) := Lib.hid hb.size
          have HRf07 := Lib.hid (HRf00.out.below HB7.out (Nat.le_refl _))
          have HKa07 := Lib.hid ((hb.block _ (lt_of_block HKa06.out)).trans HKa06.out)
          have HKa17 := Lib.hid ((hb.block _ (lt_of_block HKa16.out)).trans HKa16.out)
          have HRt07 := Lib.hid (HRt06.out.below hb (Nat.le_refl _))
          have HBs3_7 : Hid (Below w3.heap.size w3 w7) := Lib.hid (HBs3_6.out.trans (hb.mono HBs3_6.out.size))
          have HBs5_7 : Hid (Below w5.heap.size w5 w7) := Lib.hid (HBs5_6.out.trans (hb.mono HBs5_6.out.size))
          have HKw07 := Lib.hid hk
          replace HZ7 : Hid (w6.heap.size < w7.heap.size) := Lib.hid (by omega)
          have HE7 := Lib.hid hz
          clear hb hk hz
          clear ca00 ca01 ca02 fa00 fa01 fa02 lta0 ca10 ca11 ca12 fa10 fa11 fa12 lta1
          have lta0 := lt_of_block HKa07.out
          obtain ⟨ca00, ca01, ca02, fa00, fa01, fa02⟩ := cell3 HKa07.out
          have lta1 := lt_of_block HKa17.out
          obtain ⟨ca10, ca11, ca12, fa10, fa11, fa12⟩ := cell3 HKa17.out
          have ltw0 := lt_of_block HKw07.out
          obtain ⟨cw00, cw01, cw02, fw00, fw01, fw02⟩ := cell3 HKw07.out
          refine hK.out _ _ (⟨ca00, ca01, ca02, ca10, ca11, ca12⟩) (fun hHeld => ?_)
          clear hK K
          try simp only [Act.put, List.setIfInBounds_toArray, List.set_cons_zero, List.set_cons_succ]
          refine wpAnyH_ready (rs := [4]) (by kernel_rfl) (by simp) ?_
          refine AllReadyH.cons rfl (fun K hK => ?_) AllReadyH.nil
          go_simp
          go_at_call 27
          refine (HS.out hn0 _ _ HRt07.out).mono ?_
          rintro e w8 ⟨⟨sw, rfl, ho⟩, hb⟩
          have HB8 : Hid (Below w.heap.size w w8) := Lib.hid (HB7.out.trans (hb.mono HB7.out.size))
          have HZ8 : Hid (w7.heap.size ≤ w8.heap.size) := Lib.hid hb.size
          have HRf08 := Lib.hid (HRf00.out.below HB8.out (Nat.le_refl _))
          have HKa08 := Lib.hid ((hb.block _ (lt_of_block HKa07.out)).trans HKa07.out)
          have HKa18 := Lib.hid ((hb.block _ (lt_of_block HKa17.out)).trans HKa17.out)
          have HRt08 := Lib.hid (HRt07.out.below hb (Nat.le_refl _))
          have HKw08 := Lib.hid ((hb.block _ (lt_of_block HKw07.out)).trans HKw07.out)
          have HBs3_8 : Hid (Below w3.heap.size w3 w8) := Lib.hid (HBs3_7.out.trans (hb.mono HBs3_7.out.size))
          have HBs5_8 : Hid (Below w5.heap.size w5 w8) := Lib.hid (HBs5_7.out.trans (hb.mono HBs5_7.out.size))
          clear hb
          obtain ⟨pw, kw, rfl⟩ := own_form ho
          have HOw8 := Lib.hid (Ow.mk' ho)
          clear ho
          clear ca00 ca01 ca02 fa00 fa01 fa02 lta0 ca10 ca11 ca12 fa10 fa11 fa12 lta1 cw00 cw01 cw02 fw00 fw01 fw02 ltw0
          have lta0 := lt_of_block HKa08.out
          obtain ⟨ca00, ca01, ca02, fa00, fa01, fa02⟩ := cell3 HKa08.out
          have lta1 := lt_of_block HKa18.out
          obtain ⟨ca10, ca11, ca12, fa10, fa11, fa12⟩ := cell3 HKa18.out
          have ltw0 := lt_of_block HKw08.out
          obtain ⟨cw00, cw01, cw02, fw00, fw01, fw02⟩ := cell3 HKw08.out
          try go_simp
          refine hK.out _ _ (⟨ca00, ca01, ca02, ca10, ca11, ca12⟩) (fun hHeld => ?_)
          clear hK K
          try simp only [Act.put, List.setIfInBounds_toArray, List.set_cons_zero, List.set_cons_succ]
          refine take1 (i := 5) (v := ?v7) (some 21) rfl rfl (by kernel_rfl) (by kernel_rfl) (by kernel_rfl) (fun _ _ _ h => h) (Or.inl ⟨by rfl, ?y7⟩) (by assumption) ?r7
          case y7 => (intro w hSw; (try dsimp only at hSw); go_simp; (first | done | with_reducible rfl))
          try simp only [Act.put, List.setIfInBounds_toArray, List.set_cons_zero, List.set_cons_succ]
          refine take1 (i := 6) (v := ?v8) (some 27) rfl rfl (by kernel_rfl) (by kernel_rfl) (by kernel_rfl) (fun _ _ _ h => h) (Or.inl ⟨by rfl, ?y8⟩) (by assumption) ?r8
          case y8 => (intro w hSw; (try dsimp only at hSw); go_simp; (first | done | with_reducible rfl))
          try simp only [Act.put, List.setIfInBounds_toArray, List.set_cons_zero, List.set_cons_succ]
          refine take1 (i := 7) (v := ?v9) (some 28) rfl rfl (by kernel_rfl) (by kernel_rfl) (by kernel_rfl) (fun _ _ _ h => h) (Or.inl ⟨by rfl, ?y9⟩) (by assumption) ?r9
          case y9 => (intro w hSw; (try dsimp only at hSw); go_simp; (first | done | with_reducible rfl))
          try simp only [Act.put, List.setIfInBounds_toArray, List.set_cons_zero, List.set_cons_succ]
          refine wpAnyH_ready (rs := [9]) (by kernel_rfl) (by simp) ?_
          refine AllReadyH.cons rfl (fun K hK => ?_) AllReadyH.nil
          go_simp
          have hkb := box3_set' HKw08.out (.int .i64 fu) (.int .i64 fl) (.slice pw qs.length kw)
          have hm : Btw w6.heap.size (w6.heap.size + 1) w8 (((w8.setCell ⟨w6.heap.size, 0, none⟩ (.int .i64 fu)).setCell ⟨w6.heap.size, 1, none⟩ (.int .i64 fl)).setCell ⟨w6.heap.size, 2, none⟩ (.slice pw qs.length kw)) := (((Btw.refl w6.heap.size (w6.heap.size + 1) w8).setCell (p := ⟨w6.heap.size, 0, none⟩) (Nat.le_refl _) (Nat.lt_succ_self _) _).setCell (p := ⟨w6.heap.size, 1, none⟩) (Nat.le_refl _) (Nat.lt_succ_self _) _).setCell (p := ⟨w6.heap.size, 2, none⟩) (Nat.le_refl _) (Nat.lt_succ_self _) _
          generalize ((w8.setCell ⟨w6.heap.size, 0, none⟩ (.int .i64 fu)).setCell ⟨w6.heap.size, 1, none⟩ (.int .i64 fl)).setCell ⟨w6.heap.size, 2, none⟩ (.slice pw qs.length kw) = w9 at hkb hm ⊢
          have HZ9 : Hid (w8.heap.size ≤ w9.heap.size) := Lib.hid hm.size
          have HB9 : Hid (Below w.heap.size w w9) := Lib.hid (HB8.out.trans (hm.below.mono (by have := HZ1.out; have := HZ2.out; have := HZ3.out; have := HZ4.out; have := HZ5.out; have := HZ6.out; have := HZ7.out; have := HZ8.out; have := HB0.out.size; omega)))
          have HRf09 := Lib.hid (HRf00.out.below HB9.out (Nat.le_refl _))
          have HKa09 := Lib.hid ((hm.block _ (by have := lt_of_block HKa08.out; have := HZ1.out; have := HZ2.out; have := HZ3.out; have := HZ4.out; have := HZ5.out; have := HZ6.out; have := HZ7.out; have := HZ8.out; omega)).trans HKa08.out)
          have HKa19 := Lib.hid ((hm.block _ (by have := lt_of_block HKa18.out; have := HZ1.out; have := HZ2.out; have := HZ3.out; have := HZ4.out; have := HZ5.out; have := HZ6.out; have := HZ7.out; have := HZ8.out; omega)).trans HKa18.out)
          have HOw9 := Lib.hid (HOw8.out.btw hm (by have := HZ1.out; have := HZ2.out; have := HZ3.out; have := HZ4.out; have := HZ5.out; have := HZ6.out; have := HZ7.out; have := HZ8.out; omega))
          have HBs3_9 : Hid (Below w3.heap.size w3 w9) := Lib.hid (HBs3_8.out.trans (hm.below.mono (by have := HZ1.out; have := HZ2.out; have := HZ3.out; have := HZ4.out; have := HZ5.out; have := HZ6.out; have := HZ7.out; have := HZ8.out; omega)))
          clear hm
          have HKw09 := Lib.hid (hkb)
          clear hkb
          clear ca00 ca01 ca02 fa00 fa01 fa02 lta0 ca10 ca11 ca12 fa10 fa11 fa12 lta1 cw00 cw01 cw02 fw00 fw01 fw02 ltw0
          have lta0 := lt_of_block HKa09.out
          obtain ⟨ca00, ca01, ca02, fa00, fa01, fa02⟩ := cell3 HKa09.out
          have lta1 := lt_of_block HKa19.out
          obtain ⟨ca10, ca11, ca12, fa10, fa11, fa12⟩ := cell3 HKa19.out
          have ltw0 := lt_of_block HKw09.out
          obtain ⟨cw00, cw01, cw02, fw00, fw01, fw02⟩ := cell3 HKw09.out
          refine hK.out _ _ (⟨ca00, ca01, ca02, ca10, ca11, ca12⟩) (fun hHeld => ?_)
          clear hK K
          try simp only [Act.put]
          refine take1 (i := 10) (v := ?v10) (some 7) rfl rfl (by kernel_rfl) (by kernel_rfl) (by kernel_rfl) (fun _ _ _ h => h) (Or.inl ⟨by rfl, ?y10⟩) (by assumption) ?r10
          case y10 => (intro w hSw; (try dsimp only at hSw); go_simp; (first | done | with_reducible rfl))
          try simp only [Act.put, List.setIfInBounds_toArray, List.set_cons_zero, List.set_cons_succ]
          refine wpAnyH_done (by kernel_rfl) ?_ _
          go_wp2_with fail
          go_meet
          exact ⟨w6.heap.size, pw, kw, _, _, rfl, rfl, HKw09.out, HOw9.out, by have := HZ1.out; have := HZ2.out; have := HZ3.out; have := HZ4.out; have := HZ5.out; have := HZ6.out; have := HZ7.out; have := HZ8.out; have := HZ9.out;  omega, by have := HZ1.out; have := HZ2.out; have := HZ3.out; have := HZ4.out; have := HZ5.out; have := HZ6.out; have := HZ7.out; have := HZ8.out; have := HZ9.out;  omega, by have := HZ1.out; have := HZ2.out; have := HZ3.out; have := HZ4.out; have := HZ5.out; have := HZ6.out; have := HZ7.out; have := HZ8.out; have := HZ9.out;  omega, by have := HZ1.out; have := HZ2.out; have := HZ3.out; have := HZ4.out; have := HZ5.out; have := HZ6.out; have := HZ7.out; have := HZ8.out; have := HZ9.out;  omega, by have := HZ1.out; have := HZ2.out; have := HZ3.out; have := HZ4.out; have := HZ5.out; have := HZ6.out; have := HZ7.out; have := HZ8.out; have := HZ9.out;  omega, HBs3_9.out⟩
      · go_simp
        have hb : Below w5.heap.size w5 (w5.alloc (.cells #[.int .i64 0, .int .i64 0, .slice none 0 0] 28)) := (Below.refl _ _).alloc (Nat.le_refl _) _
        have hk : (w5.alloc (.cells #[.int .i64 0, .int .i64 0, .slice none 0 0] 28)).heap[w5.heap.size]? = some (.cells #[.int .i64 0, .int .i64 0, .slice none 0 0] 28 (0, 0)) := alloc_at rfl
        have hz : (w5.alloc (.cells #[.int .i64 0, .int .i64 0, .slice none 0 0] 28)).heap.size = w5.heap.size + 1 := by simp
        generalize w5.alloc (.cells #[.int .i64 0, .int .i64 0, .slice none 0 0] 28) = w6 at hb hk hz ⊢
        have HB6 : Hid (Below w.heap.size w w6) := Lib.hid (HB5.out.trans (hb.mono HB5.out.size))
        have HZ6 : Hid (w5.heap.size ≤ w6.heap.size) := Lib.hid hb.size
        have HRf06 := Lib.hid (HRf00.out.below HB6.out (Nat.le_refl _))
        have HKa06 := Lib.hid ((hb.block _ (lt_of_block HKa05.out)).trans HKa05.out)
        have HKa16 := Lib.hid ((hb.block _ (lt_of_block HKa15.out)).trans HKa15.out)
        have HRt06 := Lib.hid (HRt05.out.below hb (Nat.le_refl _))
        have HBs3_6 : Hid (Below w3.heap.size w3 w6) := Lib.hid (HBs3_5.out.trans (hb.mono HBs3_5.out.size))
        have HBs5_6 : Hid (Below w5.heap.size w5 w6) := Lib.hid (HBs5_5.out.trans (hb.mono HBs5_5.out.size))
        have HKw06 := Lib.hid hk
        replace HZ6 : Hid (w5.heap.size < w6.heap.size) := Lib.hid (by omega)
        have HE6 := Lib.hid hz
        clear hb hk hz
        clear ca00 ca01 ca02 fa00 fa01 fa02 lta0 ca10 ca11 ca12 fa10 fa11 fa12 lta1
        have lta0 := lt_of_block HKa06.out
        obtain ⟨ca00, ca01, ca02, fa00, fa01, fa02⟩ := cell3 HKa06.out
        have lta1 := lt_of_block HKa16.out
        obtain ⟨ca10, ca11, ca12, fa10, fa11, fa12⟩ := cell3 HKa16.out
        have ltw0 := lt_of_block HKw06.out
        obtain ⟨cw00, cw01, cw02, fw00, fw01, fw02⟩ := cell3 HKw06.out
        refine hK.out _ _ (⟨ca00, ca01, ca02, ca10, ca11, ca12⟩) (fun hHeld => ?_)
        clear hK K
        try simp only [Act.put, List.setIfInBounds_toArray, List.set_cons_zero, List.set_cons_succ]
        refine wpAnyH_ready (rs := [3]) (by kernel_rfl) (by simp) ?_
        refine AllReadyH.cons rfl (fun K hK => ?_) AllReadyH.nil
        go_simp
        go_at_call 25
        refine (toBeadMove_any q1 _).mono ?_
        rintro e w7 ⟨rfl, hb⟩
        have HB7 : Hid (Below w.heap.size w w7) := Lib.hid (HB6.out.trans (hb.mono HB6.out.size))
        have HZ7 : Hid (w6.heap.size ≤ w7.heap.size) := Lib.hid hb.size
        have HRf07 := Lib.hid (HRf00.out.below HB7.out (Nat.le_refl _))
        have HKa07 := Lib.hid ((hb.block _ (lt_of_block HKa06.out)).trans HKa06.out)
        have HKa17 := Lib.hid ((hb.block _ (lt_of_block HKa16.out)).trans HKa16.out)
        have HRt07 := Lib.hid (HRt06.out.below hb (Nat.le_refl _))
        have HKw07 := Lib.hid ((hb.block _ (lt_of_block HKw06.out)).trans HKw06.out)
        have HBs3_7 : Hid (Below w3.heap.size w3 w7) := Lib.hid (HBs3_6.out.trans (hb.mono HBs3_6.out.size))
        have HBs5_7 : Hid (Below w5.heap.size w5 w7) := Lib.hid (HBs5_6.out.trans (hb.mono HBs5_6.out.size))
        clear hb
        clear ca00 ca01 ca02 fa00 fa01 fa02 lta0 ca10 ca11 ca12 fa10 fa11 fa12 lta1 cw00 cw01 cw02 fw00 fw01 fw02 ltw0
        have lta0 := lt_of_block HKa07.out
        obtain ⟨ca00, ca01, ca02, fa00, fa01, fa02⟩ := cell3 HKa07.out
        have lta1 := lt_of_block HKa17.out
        obtain ⟨ca10, ca11, ca12, fa10, fa11, fa12⟩ := cell3 HKa17.out
        have ltw0 := lt_of_block HKw07.out
        obtain ⟨cw00, cw01, cw02, fw00, fw01, fw02⟩ := cell3 HKw07.out
        try go_simp
        refine hK.out _ _ (⟨ca00, ca01, ca02, ca10, ca11, ca12⟩) (fun hHeld => ?_)
        clear hK K
        try simp only [Act.put, List.setIfInBounds_toArray, List.set_cons_zero, List.set_cons_succ]
        refine wpAnyH_ready (rs := [4]) (by kernel_rfl) (by simp) ?_
        refine AllReadyH.cons rfl (fun K hK => ?_) AllReadyH.nil
        go_simp
        go_at_call 27
        refine (HS.out hn0 _ _ HRt07.out).mono ?_
        rintro e w8 ⟨⟨sw, rfl, ho⟩, hb⟩
        have HB8 : Hid (Below w.heap.size w w8) := Lib.hid (HB7.out.trans (hb.mono HB7.out.size))
        have HZ8 : Hid (w7.heap.size ≤ w8.heap.size) := Lib.hid hb.size
        have HRf08 := Lib.hid (HRf00.out.below HB8.out (Nat.le_refl _))
        have HKa08 := Lib.hid ((hb.block _ (lt_of_block HKa07.out)).trans HKa07.out)
        have HKa18 := Lib.hid ((hb.block _ (lt_of_block HKa17.out)).trans HKa17.out)
        have HRt08 := Lib.hid (HRt07.out.below hb (Nat.le_refl _))
        have HKw08 := Lib.hid ((hb.block _ (lt_of_block HKw07.out)).trans HKw07.out)
        have HBs3_8 : Hid (Below w3.heap.size w3 w8) := Lib.hid (HBs3_7.out.trans (hb.mono HBs3_7.out.size))
        have HBs5_8 : Hid (Below w5.heap.size w5 w8) := Lib.hid (HBs5_7.out.trans (hb.mono HBs5_7.out.size))
        clear hb
        obtain ⟨pw, kw, rfl⟩ := own_form ho
        have HOw8 := Lib.hid (Ow.mk' ho)
        clear ho
        clear ca00 ca01 ca02 fa00 fa01 fa02 lta0 ca10 ca11 ca12 fa10 fa11 fa12 lta1 cw00 cw01 cw02 fw00 fw01 fw02 ltw0
        have lta0 := lt_of_block HKa08.out
        obtain ⟨ca00, ca01, ca02, fa00, fa01, fa02⟩ := cell3 HKa08.out
        have lta1 := lt_of_block HKa18.out
        obtain ⟨ca10, ca11, ca12, fa10, fa11, fa12⟩ := cell3 HKa18.out
        have ltw0 := lt_of_block HKw08.out
        obtain ⟨cw00, cw01, cw02, fw00, fw01, fw02⟩ := cell3 HKw08.out
        try go_simp
        refine hK.out _ _ (⟨ca00, ca01, ca02, ca10, ca11, ca12⟩) (fun hHeld => ?_)
        clear hK K
        try simp only [Act.put, List.setIfInBounds_toArray, List.set_cons_zero, List.set_cons_succ]
        refine take1 (i := 5) (v := ?v11) (some 21) rfl rfl (by kernel_rfl) (by kernel_rfl) (by kernel_rfl) (fun _ _ _ h => h) (Or.inl ⟨by rfl, ?y11⟩) (by assumption) ?r11
        case y11 => (intro w hSw; (try dsimp only at hSw); go_simp; (first | done | with_reducible rfl))
        try simp only [Act.put, List.setIfInBounds_toArray, List.set_cons_zero, List.set_cons_succ]
        refine take1 (i := 6) (v := ?v12) (some 27) rfl rfl (by kernel_rfl) (by kernel_rfl) (by kernel_rfl) (fun _ _ _ h => h) (Or.inl ⟨by rfl, ?y12⟩) (by assumption) ?r12
        case y12 => (intro w hSw; (try dsimp only at hSw); go_simp; (first | done | with_reducible rfl))
        try simp only [Act.put, List.setIfInBounds_toArray, List.set_cons_zero, List.set_cons_succ]
        refine take1 (i := 7) (v := ?v13) (some 28) rfl rfl (by kernel_rfl) (by kernel_rfl) (by kernel_rfl) (fun _ _ _ h => h) (Or.inl ⟨by rfl, ?y13⟩) (by assumption) ?r13
        case y13 => (intro w hSw; (try dsimp only at hSw); go_simp; (first | done | with_reducible rfl))
        try simp only [Act.put, List.setIfInBounds_toArray, List.set_cons_zero, List.set_cons_succ]
        refine wpAnyH_ready (rs := [9]) (by kernel_rfl) (by simp) ?_
        refine AllReadyH.cons rfl (fun K hK => ?_) AllReadyH.nil
        go_simp
        have hkb := box3_set' HKw08.out (.int .i64 fu) (.int .i64 fl) (.slice pw qs.length kw)
        have hm : Btw w5.heap.size (w5.heap.size + 1) w8 (((w8.setCell ⟨w5.heap.size, 0, none⟩ (.int .i64 fu)).setCell ⟨w5.heap.size, 1, none⟩ (.int .i64 fl)).setCell ⟨w5.heap.size, 2, none⟩ (.slice pw qs.length kw)) := (((Btw.refl w5.heap.size (w5.heap.size + 1) w8).setCell (p := ⟨w5.heap.size, 0, none⟩) (Nat.le_refl _) (Nat.lt_succ_self _) _).setCell (p := ⟨w5.heap.size, 1, none⟩) (Nat.le_refl _) (Nat.lt_succ_self _) _).setCell (p := ⟨w5.heap.size, 2, none⟩) (Nat.le_refl _) (Nat.lt_succ_self _) _
        generalize ((w8.setCell ⟨w5.heap.size, 0, none⟩ (.int .i64 fu)).setCell ⟨w5.heap.size, 1, none⟩ (.int .i64 fl)).setCell ⟨w5.heap.size, 2, none⟩ (.slice pw qs.length kw) = w9 at hkb hm ⊢
        have HZ9 : Hid (w8.heap.size ≤ w9.heap.size) := Lib.hid hm.size
        have HB9 : Hid (Below w.heap.size w w9) := Lib.hid (HB8.out.trans (hm.below.mono (by have := HZ1.out; have := HZ2.out; have := HZ3.out; have := HZ4.out; have := HZ5.out; have := HZ6.out; have := HZ7.out; have := HZ8.out; have := HB0.out.size; omega)))
        have HRf09 := Lib.hid (HRf00.out.below HB9.out (Nat.le_refl _))
        have HKa09 := Lib.hid ((hm.block _ (by have := lt_of_block HKa08.out; have := HZ1.out; have := HZ2.out; have := HZ3.out; have := HZ4.out; have := HZ5.out; have := HZ6.out; have := HZ7.out; have := HZ8.out; omega)).trans HKa08.out)
        have HKa19 := Lib.hid ((hm.block _ (by have := lt_of_block HKa18.out; have := HZ1.out; have := HZ2.out; have := HZ3.out; have := HZ4.out; have := HZ5.out; have := HZ6.out; have := HZ7.out; have := HZ8.out; omega)).trans HKa18.out)
        have HOw9 := Lib.hid (HOw8.out.btw hm (by have := HZ1.out; have := HZ2.out; have := HZ3.out; have := HZ4.out; have := HZ5.out; have := HZ6.out; have := HZ7.out; have := HZ8.out; omega))
        have HBs3_9 : Hid (Below w3.heap.size w3 w9) := Lib.hid (HBs3_8.out.trans (hm.below.mono (by have := HZ1.out; have := HZ2.out; have := HZ3.out; have := HZ4.out; have := HZ5.out; have := HZ6.out; have := HZ7.out; have := HZ8.out; omega)))
        clear hm
        have HKw09 := Lib.hid (hkb)
        clear hkb
        clear ca00 ca01 ca02 fa00 fa01 fa02 lta0 ca10 ca11 ca12 fa10 fa11 fa12 lta1 cw00 cw01 cw02 fw00 fw01 fw02 ltw0
        have lta0 := lt_of_block HKa09.out
        obtain ⟨ca00, ca01, ca02, fa00, fa01, fa02⟩ := cell3 HKa09.out
        have lta1 := lt_of_block HKa19.out
        obtain ⟨ca10, ca11, ca12, fa10, fa11, fa12⟩ := cell3 HKa19.out
        have ltw0 := lt_of_block HKw09.out
        obtain ⟨cw00, cw01, cw02, fw00, fw01, fw02⟩ := cell3 HKw09.out
        refine hK.out _ _ (⟨ca00, ca01, ca02, ca10, ca11, ca12⟩) (fun hHeld => ?_)
        clear hK K
        try simp only [Act.put]
        refine take1 (i := 10) (v := ?v14) (some 7) rfl rfl (by kernel_rfl) (by kernel_rfl) (by kernel_rfl) (fun _ _ _ h => h) (Or.inl ⟨by rfl, ?y14⟩) (by assumption) ?r14
        case y14 => (intro w hSw; (try dsimp only at hSw); go_simp; (first | done | with_reducible rfl))
        try simp only [Act.put, List.setIfInBounds_toArray, List.set_cons_zero, List.set_cons_succ]
        refine wpAnyH_done (by kernel_rfl) ?_ _
        go_wp2_with fail
        go_meet
        exact ⟨w5.heap.size, pw, kw, _, _, rfl, rfl, HKw09.out, HOw9.out, by have := HZ1.out; have := HZ2.out; have := HZ3.out; have := HZ4.out; have := HZ5.out; have := HZ6.out; have := HZ7.out; have := HZ8.out; have := HZ9.out;  omega, by have := HZ1.out; have := HZ2.out; have := HZ3.out; have := HZ4.out; have := HZ5.out; have := HZ6.out; have := HZ7.out; have := HZ8.out; have := HZ9.out;  omega, by have := HZ1.out; have := HZ2.out; have := HZ3.out; have := HZ4.out; have := HZ5.out; have := HZ6.out; have := HZ7.out; have := HZ8.out; have := HZ9.out;  omega, by have := HZ1.out; have := HZ2.out; have := HZ3.out; have := HZ4.out; have := HZ5.out; have := HZ6.out; have := HZ7.out; have := HZ8.out; have := HZ9.out;  omega, by have := HZ1.out; have := HZ2.out; have := HZ3.out; have := HZ4.out; have := HZ5.out; have := HZ6.out; have := HZ7.out; have := HZ8.out; have := HZ9.out;  omega, HBs3_9.out⟩
    · go_simp
      have hb : Below w4.heap.size w4 (w4.alloc (.cells #[.int .i64 0, .int .i64 0, .slice none 0 0] 28)) := (Below.refl _ _).alloc (Nat.le_refl _) _
      have hk : (w4.alloc (.cells #[.int .i64 0, .int .i64 0, .slice none 0 0] 28)).heap[w4.heap.size]? = some (.cells #[.int .i64 0, .int .i64 0, .slice none 0 0] 28 (0, 0)) := alloc_at rfl
      have hz : (w4.alloc (.cells #[.int .i64 0, .int .i64 0, .slice none 0 0] 28)).heap.size = w4.heap.size + 1 := by simp
      generalize w4.alloc (.cells #[.int .i64 0, .int .i64 0, .slice none 0 0] 28) = w5 at hb hk hz ⊢
      have HB5 : Hid (Below w.heap.size w w5) := Lib.hid (HB4.out.trans (hb.mono HB4.out.size))
      have HZ5 : Hid (w4.heap.size ≤ w5.heap.size) := Lib.hid hb.size
      have HRf05 := Lib.hid (HRf00.out.below HB5.out (Nat.le_refl _))
      have HKa05 := Lib.hid ((hb.block _ (lt_of_block HKa04.out)).trans HKa04.out)
      have HKa15 := Lib.hid ((hb.block _ (lt_of_block HKa14.out)).trans HKa14.out)
      have HBs3_5 : Hid (Below w3.heap.size w3 w5) := Lib.hid (HBs3_4.out.trans (hb.mono HBs3_4.out.size))
      have HKw05 := Lib.hid hk
      replace HZ5 : Hid (w4.heap.size < w5.heap.size) := Lib.hid (by omega)
      have HE5 := Lib.hid hz
      clear hb hk hz
      clear ca00 ca01 ca02 fa00 fa01 fa02 lta0 ca10 ca11 ca12 fa10 fa11 fa12 lta1
      have lta0 := lt_of_block HKa05.out
      obtain ⟨ca00, ca01, ca02, fa00, fa01, fa02⟩ := cell3 HKa05.out
      have lta1 := lt_of_block HKa15.out
      obtain ⟨ca10, ca11, ca12, fa10, fa11, fa12⟩ := cell3 HKa15.out
      have ltw0 := lt_of_block HKw05.out
      obtain ⟨cw00, cw01, cw02, fw00, fw01, fw02⟩ := cell3 HKw05.out
      refine hK.out _ _ (⟨ca00, ca01, ca02, ca10, ca11, ca12⟩) (fun hHeld => ?_)
      clear hK K
      try simp only [Act.put, List.setIfInBounds_toArray, List.set_cons_zero, List.set_cons_succ]
      refine wpAnyH_ready (rs := [1]) (by kernel_rfl) (by simp) ?_
      refine AllReadyH.cons rfl (fun K hK => ?_) AllReadyH.nil
      go_simp
      go_at_call 17
      refine (toFrame_any up0 lo0 _ rs0 _ HRf05.out hn0).mono ?_
      rintro e w6 ⟨⟨st0, rfl, ho⟩, hb⟩
      have HB6 : Hid (Below w.heap.size w w6) := Lib.hid (HB5.out.trans (hb.mono HB5.out.size))
      have HZ6 : Hid (w5.heap.size ≤ w6.heap.size) := Lib.hid hb.size
      have HRf06 := Lib.hid (HRf00.out.below HB6.out (Nat.le_refl _))
      have HKa06 := Lib.hid ((hb.block _ (lt_of_block HKa05.out)).trans HKa05.out)
      have HKa16 := Lib.hid ((hb.block _ (lt_of_block HKa15.out)).trans HKa15.out)
      have HKw06 := Lib.hid ((hb.block _ (lt_of_block HKw05.out)).trans HKw05.out)
      have HBs3_6 : Hid (Below w3.heap.size w3 w6) := Lib.hid (HBs3_5.out.trans (hb.mono HBs3_5.out.size))
      clear hb
      obtain ⟨pt0, kt0, rfl⟩ := own_form ho
      have HRt06 := Lib.hid ((RodsR.of_own ho))
      have HBs6_6 : Hid (Below w6.heap.size w6 w6) := Lib.hid (Below.refl _ _)
      clear ho
      clear ca00 ca01 ca02 fa00 fa01 fa02 lta0 ca10 ca11 ca12 fa10 fa11 fa12 lta1 cw00 cw01 cw02 fw00 fw01 fw02 ltw0
      have lta0 := lt_of_block HKa06.out
      obtain ⟨ca00, ca01, ca02, fa00, fa01, fa02⟩ := cell3 HKa06.out
      have lta1 := lt_of_block HKa16.out
      obtain ⟨ca10, ca11, ca12, fa10, fa11, fa12⟩ := cell3 HKa16.out
      have ltw0 := lt_of_block HKw06.out
      obtain ⟨cw00, cw01, cw02, fw00, fw01, fw02⟩ := cell3 HKw06.out
      try go_simp
      refine hK.out _ _ (⟨ca00, ca01, ca02, ca10, ca11, ca12⟩) (fun hHeld => ?_)
      clear hK K
      try simp only [Act.put, List.setIfInBounds_toArray, List.set_cons_zero, List.set_cons_succ]
      refine wpAnyH_ready (rs := [3]) (by kernel_rfl) (by simp) ?_
      refine AllReadyH.cons rfl (fun K hK => ?_) AllReadyH.nil
      go_simp
      go_at_call 25
      refine (toBeadMove_any q1 _).mono ?_
      rintro e w7 ⟨rfl, hb⟩
      have HB7 : Hid (Below w.heap.size w w7) := Lib.hid (HB6.out.trans (hb.mono HB6.out.size))
      have HZ7 : Hid (w6.heap.size ≤ w7.heap.size) := Lib.hid hb.size
      have HRf07 := Lib.hid (HRf00.out.below HB7.out (Nat.le_refl _))
      have HKa07 := Lib.hid ((hb.block _ (lt_of_block HKa06.out)).trans HKa06.out)
      have HKa17 := Lib.hid ((hb.block _ (lt_of_block HKa16.out)).trans HKa16.out)
      have HKw07 := Lib.hid ((hb.block _ (lt_of_block HKw06.out)).trans HKw06.out)
      have HRt07 := Lib.hid (HRt06.out.below hb (Nat.le_refl _))
      have HBs3_7 : Hid (Below w3.heap.size w3 w7) := Lib.hid (HBs3_6.out.trans (hb.mono HBs3_6.out.size))
      have HBs6_7 : Hid (Below w6.heap.size w6 w7) := Lib.hid (HBs6_6.out.trans (hb.mono HBs6_6.out.size))
      clear hb
      clear ca00 ca01 ca02 fa00 fa01 fa02 lta0 ca10 ca11 ca12 fa10 fa11 fa12 lta1 cw00 cw01 cw02 fw00 fw01 fw02 ltw0
      have lta0 := lt_of_block HKa07.out
      obtain ⟨ca00, ca01, ca02, fa00, fa01, fa02⟩ := cell3 HKa07.out
      have lta1 := lt_of_block HKa17.out
      obtain ⟨ca10, ca11, ca12, fa10, fa11, fa12⟩ := cell3 HKa17.out
      have ltw0 := lt_of_block HKw07.out
      obtain ⟨cw00, cw01, cw02, fw00, fw01, fw02⟩ := cell3 HKw07.out
      try go_simp
      refine hK.out _ _ (⟨ca00, ca01, ca02, ca10, ca11, ca12⟩) (fun hHeld => ?_)
      clear hK K
      try simp only [Act.put, List.setIfInBounds_toArray, List.set_cons_zero, List.set_cons_succ]
      refine wpAnyH_ready (rs := [4]) (by kernel_rfl) (by simp) ?_
      refine AllReadyH.cons rfl (fun K hK => ?_) AllReadyH.nil
      go_simp
      go_at_call 27
      refine (HS.out hn0 _ _ HRt07.out).mono ?_
      rintro e w8 ⟨⟨sw, rfl, ho⟩, hb⟩
      have HB8 : Hid (Below w.heap.size w w8) := Lib.hid (HB7.out.trans (hb.mono HB7.out.size))
      have HZ8 : Hid (w7.heap.size ≤ w8.heap.size) := Lib.hid hb.size
      have HRf08 := Lib.hid (HRf00.out.below HB8.out (Nat.le_refl _))
      have HKa08 := Lib.hid ((hb.block _ (lt_of_block HKa07.out)).trans HKa07.out)
      have HKa18 := Lib.hid ((hb.block _ (lt_of_block HKa17.out)).trans HKa17.out)
      have HKw08 := Lib.hid ((hb.block _ (lt_of_block HKw07.out)).trans HKw07.out)
      have HRt08 := Lib.hid (HRt07.out.below hb (Nat.le_refl _))
      have HBs3_8 : Hid (Below w3.heap.size w3 w8) := Lib.hid (HBs3_7.out.trans (hb.mono HBs3_7.out.size))
      have HBs6_8 : Hid (Below w6.heap.size w6 w8) := Lib.hid (HBs6_7.out.trans (hb.mono HBs6_7.out.size))
      clear hb
      obtain ⟨pw, kw, rfl⟩ := own_form ho
      have HOw8 := Lib.hid (Ow.mk' ho)
      clear ho
      clear ca00 ca01 ca02 fa00 fa01 fa02 lta0 ca10 ca11 ca12 fa10 fa11 fa12 lta1 cw00 cw01 cw02 fw00 fw01 fw02 ltw0
      have lta0 := lt_of_block HKa08.out
      obtain ⟨ca00, ca01, ca02, fa00, fa01, fa02⟩ := cell3 HKa08.out
      have lta1 := lt_of_block HKa18.out
      obtain ⟨ca10, ca11, ca12, fa10, fa11, fa12⟩ := cell3 HKa18.out
      have ltw0 := lt_of_block HKw08.out
      obtain ⟨cw00, cw01, cw02, fw00, fw01, fw02⟩ := cell3 HKw08.out
      try go_simp
      refine hK.out _ _ (⟨ca00, ca01, ca02, ca10, ca11, ca12⟩) (fun hHeld => ?_)
      clear hK K
      try simp only [Act.put, List.setIfInBounds_toArray, List.set_cons_zero, List.set_cons_succ]
      refine take1 (i := 5) (v := ?v15) (some 21) rfl rfl (by kernel_rfl) (by kernel_rfl) (by kernel_rfl) (fun _ _ _ h => h) (Or.inl ⟨by rfl, ?y15⟩) (by assumption) ?r15
      case y15 => (intro w hSw; (try dsimp only at hSw); go_simp; (first | done | with_reducible rfl))
      try simp only [Act.put, List.setIfInBounds_toArray, List.set_cons_zero, List.set_cons_succ]
      refine take1 (i := 6) (v := ?v16) (some 27) rfl rfl (by kernel_rfl) (by kernel_rfl) (by kernel_rfl) (fun _ _ _ h => h) (Or.inl ⟨by rfl, ?y16⟩) (by assumption) ?r16
      case y16 => (intro w hSw; (try dsimp only at hSw); go_simp; (first | done | with_reducible rfl))
      try simp only [Act.put, List.setIfInBounds_toArray, List.set_cons_zero, List.set_cons_succ]
      refine take1 (i := 7) (v := ?v17) (some 28) rfl rfl (by kernel_rfl) (by kernel_rfl) (by kernel_rfl) (fun _ _ _ h => h) (Or.inl ⟨by rfl, ?y17⟩) (by assumption) ?r17
      case y17 => (intro w hSw; (try dsimp only at hSw); go_simp; (first | done | with_reducible rfl))
      try simp only [Act.put, List.setIfInBounds_toArray, List.set_cons_zero, List.set_cons_succ]
      refine wpAnyH_ready (rs := [9]) (by kernel_rfl) (by simp) ?_
      refine AllReadyH.cons rfl (fun K hK => ?_) AllReadyH.nil
      go_simp
      have hkb := box3_set' HKw08.out (.int .i64 fu) (.int .i64 fl) (.slice pw qs.length kw)
      have hm : Btw w4.heap.size (w4.heap.size + 1) w8 (((w8.setCell ⟨w4.heap.size, 0, none⟩ (.int .i64 fu)).setCell ⟨w4.heap.size, 1, none⟩ (.int .i64 fl)).setCell ⟨w4.heap.size, 2, none⟩ (.slice pw qs.length kw)) := (((Btw.refl w4.heap.size (w4.heap.size + 1) w8).setCell (p := ⟨w4.heap.size, 0, none⟩) (Nat.le_refl _) (Nat.lt_succ_self _) _).setCell (p := ⟨w4.heap.size, 1, none⟩) (Nat.le_refl _) (Nat.lt_succ_self _) _).setCell (p := ⟨w4.heap.size, 2, none⟩) (Nat.le_refl _) (Nat.lt_succ_self _) _
      generalize ((w8.setCell ⟨w4.heap.size, 0, none⟩ (.int .i64 fu)).setCell ⟨w4.heap.size, 1, none⟩ (.int .i64 fl)).setCell ⟨w4.heap.size, 2, none⟩ (.slice pw qs.length kw) = w9 at hkb hm ⊢
      have HZ9 : Hid (w8.heap.size ≤ w9.heap.size) := Lib.hid hm.size
      have HB9 : Hid (Below w.heap.size w w9) := Lib.hid (HB8.out.trans (hm.below.mono (by have := HZ1.out; have := HZ2.out; have := HZ3.out; have := HZ4.out; have := HZ5.out; have := HZ6.out; have := HZ7.out; have := HZ8.out; have := HB0.out.size; omega)))
      have HRf09 := Lib.hid (HRf00.out.below HB9.out (Nat.le_refl _))
      have HKa09 := Lib.hid ((hm.block _ (by have := lt_of_block HKa08.out; have := HZ1.out; have := HZ2.out; have := HZ3.out; have := HZ4.out; have := HZ5.out; have := HZ6.out; have := HZ7.out; have := HZ8.out; omega)).trans HKa08.out)
      have HKa19 := Lib.hid ((hm.block _ (by have := lt_of_block HKa18.out; have := HZ1.out; have := HZ2.out; have := HZ3.out; have := HZ4.out; have := HZ5.out; have := HZ6.out; have := HZ7.out; have := HZ8.out; omega)).trans HKa18.out)
      have HOw9 := Lib.hid (HOw8.out.btw hm (by have := HZ1.out; have := HZ2.out; have := HZ3.out; have := HZ4.out; have := HZ5.out; have := HZ6.out; have := HZ7.out; have := HZ8.out; omega))
      have HBs3_9 : Hid (Below w3.heap.size w3 w9) := Lib.hid (HBs3_8.out.trans (hm.below.mono (by have := HZ1.out; have := HZ2.out; have := HZ3.out; have := HZ4.out; have := HZ5.out; have := HZ6.out; have := HZ7.out; have := HZ8.out; omega)))
      clear hm
      have HKw09 := Lib.hid (hkb)
      clear hkb
      clear ca00 ca01 ca02 fa00 fa01 fa02 lta0 ca10 ca11 ca12 fa10 fa11 fa12 lta1 cw00 cw01 cw02 fw00 fw01 fw02 ltw0
      have lta0 := lt_of_block HKa09.out
      obtain ⟨ca00, ca01, ca02, fa00, fa01, fa02⟩ := cell3 HKa09.out
      have lta1 := lt_of_block HKa19.out
      obtain ⟨ca10, ca11, ca12, fa10, fa11, fa12⟩ := cell3 HKa19.out
      have ltw0 := lt_of_block HKw09.out
      obtain ⟨cw00, cw01, cw02, fw00, fw01, fw02⟩ := cell3 HKw09.out
      refine hK.out _ _ (⟨ca00, ca01, ca02, ca10, ca11, ca12⟩) (fun hHeld => ?_)
      clear hK K
      try simp only [Act.put]
      refine take1 (i := 10) (v := ?v18) (some 7) rfl rfl (by kernel_rfl) (by kernel_rfl) (by kernel_rfl) (fun _ _ _ h => h) (Or.inl ⟨by rfl, ?y18⟩) (by assumption) ?r18
      case y18 => (intro w hSw; (try dsimp only at hSw); go_simp; (first | done | with_reducible rfl))
      try simp only [Act.put, List.setIfInBounds_toArray, List.set_cons_zero, List.set_cons_succ]
      refine wpAnyH_done (by kernel_rfl) ?_ _
      go_wp2_with fail
      go_meet
      exact ⟨w4.heap.size, pw, kw, _, _, rfl, rfl, HKw09.out, HOw9.out, by have := HZ1.out; have := HZ2.out; have := HZ3.out; have := HZ4.out; have := HZ5.out; have := HZ6.out; have := HZ7.out; have := HZ8.out; have := HZ9.out;  omega, by have := HZ1.out; have := HZ2.out; have := HZ3.out; have := HZ4.out; have := HZ5.out; have := HZ6.out; have := HZ7.out; have := HZ8.out; have := HZ9.out;  omega, by have := HZ1.out; have := HZ2.out; have := HZ3.out; have := HZ4.out; have := HZ5.out; have := HZ6.out; have := HZ7.out; have := HZ8.out; have := HZ9.out;  omega, by have := HZ1.out; have := HZ2.out; have := HZ3.out; have := HZ4.out; have := HZ5.out; have := HZ6.out; have := HZ7.out; have := HZ8.out; have := HZ9.out;  omega, by have := HZ1.out; have := HZ2.out; have := HZ3.out; have := HZ4.out; have := HZ5.out; have := HZ6.out; have := HZ7.out; have := HZ8.out; have := HZ9.out;  omega, HBs3_9.out⟩
  case rest =>
    obtain ⟨bw, pw, kw, low, hiw, rfl, rfl, hkq, hoq, hl1w, hl2w, hl3w, hl4w, hl5w, hb⟩ := hcut
    rename World => w4
    have HB4 : Hid (Below w.heap.size w w4) := Lib.hid (HB3.out.trans (hb.mono HB3.out.size))
    have HZ4 : Hid (w3.heap.size ≤ w4.heap.size) := Lib.hid hb.size
    have HRf04 := Lib.hid (HRf00.out.below HB4.out (Nat.le_refl _))
    have HKa04 := Lib.hid ((hb.block _ (lt_of_block HKa03.out)).trans HKa03.out)
    have HKa14 := Lib.hid ((hb.block _ (lt_of_block HKa13.out)).trans HKa13.out)
    clear hb
    have hltw := lt_of_block hkq
    have HKw04 := Lib.hid (hkq)
    have HOw4 := Lib.hid (hoq)
    clear hkq hoq
    clear ca00 ca01 ca02 fa00 fa01 fa02 lta0 ca10 ca11 ca12 fa10 fa11 fa12 lta1
    have lta0 := lt_of_block HKa04.out
    obtain ⟨ca00, ca01, ca02, fa00, fa01, fa02⟩ := cell3 HKa04.out
    have lta1 := lt_of_block HKa14.out
    obtain ⟨ca10, ca11, ca12, fa10, fa11, fa12⟩ := cell3 HKa14.out
    have ltw0 := lt_of_block HKw04.out
    obtain ⟨cw00, cw01, cw02, fw00, fw01, fw02⟩ := cell3 HKw04.out
    go_wp2_with fail
    refine (toFrame_any up0 lo0 _ rs0 _ HRf04.out hn0).mono ?_
    rintro e w5 ⟨⟨sx0, rfl, ho⟩, hb⟩
    have HB5 : Hid (Below w.heap.size w w5) := Lib.hid (HB4.out.trans (hb.mono HB4.out.size))
    have HZ5 : Hid (w4.heap.size ≤ w5.heap.size) := Lib.hid hb.size
    have HRf05 := Lib.hid (HRf00.out.below HB5.out (Nat.le_refl _))
    have HKa05 := Lib.hid ((hb.block _ (lt_of_block HKa04.out)).trans HKa04.out)
    have HKa15 := Lib.hid ((hb.block _ (lt_of_block HKa14.out)).trans HKa14.out)
    have HKw05 := Lib.hid ((hb.block _ (lt_of_block HKw04.out)).trans HKw04.out)
    have HOw5 := Lib.hid (HOw4.out.next hb)
    clear hb
    obtain ⟨px0, kx0, rfl⟩ := own_form ho
    have HOx05 := Lib.hid (Ow.mk' ho)
    clear ho
    clear ca00 ca01 ca02 fa00 fa01 fa02 lta0 ca10 ca11 ca12 fa10 fa11 fa12 lta1 cw00 cw01 cw02 fw00 fw01 fw02 ltw0
    have lta0 := lt_of_block HKa05.out
    obtain ⟨ca00, ca01, ca02, fa00, fa01, fa02⟩ := cell3 HKa05.out
    have lta1 := lt_of_block HKa15.out
    obtain ⟨ca10, ca11, ca12, fa10, fa11, fa12⟩ := cell3 HKa15.out
    have ltw0 := lt_of_block HKw05.out
    obtain ⟨cw00, cw01, cw02, fw00, fw01, fw02⟩ := cell3 HKw05.out
    go_wp2_with fail
    have hb : Below w5.heap.size w5 (w5.alloc (.cells #[.int .i64 up0, .int .i64 lo0, .slice px0 rs0.length kx0] 28)) := (Below.refl _ _).alloc (Nat.le_refl _) _
    have hk : (w5.alloc (.cells #[.int .i64 up0, .int .i64 lo0, .slice px0 rs0.length kx0] 28)).heap[w5.heap.size]? = some (.cells #[.int .i64 up0, .int .i64 lo0, .slice px0 rs0.length kx0] 28 (0, 0)) := alloc_at rfl
    have hz : (w5.alloc (.cells #[.int .i64 up0, .int .i64 lo0, .slice px0 rs0.length kx0] 28)).heap.size = w5.heap.size + 1 := by simp
    generalize w5.alloc (.cells #[.int .i64 up0, .int .i64 lo0, .slice px0 rs0.length kx0] 28) = w6 at hb hk hz ⊢
    have HB6 : Hid (Below w.heap.size w w6) := Lib.hid (HB5.out.trans (hb.mono HB5.out.size))
    have HZ6 : Hid (w5.heap.size ≤ w6.heap.size) := Lib.hid hb.size
    have HRf06 := Lib.hid (HRf00.out.below HB6.out (Nat.le_refl _))
    have HKa06 := Lib.hid ((hb.block _ (lt_of_block HKa05.out)).trans HKa05.out)
    have HKa16 := Lib.hid ((hb.block _ (lt_of_block HKa15.out)).trans HKa15.out)
    have HKw06 := Lib.hid ((hb.block _ (lt_of_block HKw05.out)).trans HKw05.out)
    have HOw6 := Lib.hid (HOw5.out.next hb)
    have HOx06 := Lib.hid (HOx05.out.next hb)
    have HKx06 := Lib.hid hk
    replace HZ6 : Hid (w5.heap.size < w6.heap.size) := Lib.hid (by omega)
    have HE6 := Lib.hid hz
    clear hb hk hz
    clear ca00 ca01 ca02 fa00 fa01 fa02 lta0 ca10 ca11 ca12 fa10 fa11 fa12 lta1 cw00 cw01 cw02 fw00 fw01 fw02 ltw0
    have lta0 := lt_of_block HKa06.out
    obtain ⟨ca00, ca01, ca02, fa00, fa01, fa02⟩ := cell3 HKa06.out
    have lta1 := lt_of_block HKa16.out
    obtain ⟨ca10, ca11, ca12, fa10, fa11, fa12⟩ := cell3 HKa16.out
    have ltw0 := lt_of_block HKw06.out
    obtain ⟨cw00, cw01, cw02, fw00, fw01, fw02⟩ := cell3 HKw06.out
    have ltx0 := lt_of_block HKx06.out
    obtain ⟨cx00, cx01, cx02, fx00, fx01, fx02⟩ := cell3 HKx06.out
    go_cut [9, 10] from 31 (fun p q wc => ∃ (b : Nat) (pa : Option Addr) (ka lo hi : Nat), p = .pointer (some ⟨b, 0, none⟩) ∧ q = .bool r1 ∧ wc.heap[b]? = some (.cells #[.int .i64 fu, .int .i64 fl, .slice pa qs.length ka] 28 (0, 0)) ∧ Ow lo hi wc 74 2 (.slice pa qs.length ka) qs.length (flat qs) ∧ w6.heap.size ≤ lo ∧ lo ≤ wc.heap.size ∧ hi ≤ wc.heap.size ∧ (b < lo ∨ hi ≤ b) ∧ w6.heap.size ≤ b ∧ Below w6.heap.size w6 wc)
    case first =>
      have HBs6_6 : Hid (Below w6.heap.size w6 w6) := Lib.hid (Below.refl _ _)
      refine wp_region_held_drew (S := (fun w' => w'.cell? ⟨w5.heap.size, 0, none⟩ = some (.int .i64 up0) ∧ w'.cell? ⟨w5.heap.size, 1, none⟩ = some (.int .i64 lo0) ∧ w'.cell? ⟨w5.heap.size, 2, none⟩ = some (.slice px0 rs0.length kx0) ∧ w'.cell? ⟨w.heap.size + 1, 0, none⟩ = some (.int .i64 q1.rod) ∧ w'.cell? ⟨w.heap.size + 1, 1, none⟩ = some (.int .i64 q1.part) ∧ w'.cell? ⟨w.heap.size + 1, 2, none⟩ = some (.int .i64 q1.amt))) (by kernel_rfl) (⟨cx00, cx01, cx02, ca10, ca11, ca12⟩) (fun hHeld => ?_)
      have hb : Below w6.heap.size w6 w6.drew := (Below.refl _ _).drew
      generalize w6.drew = w7 at hb hHeld ⊢
      have HB7 : Hid (Below w.heap.size w w7) := Lib.hid (HB6.out.trans (hb.mono HB6.out.size))
      have HZ7 : Hid (w6.heap.size ≤ w7.heap.size) := Lib.hid hb.size
      have HRf07 := Lib.hid (HRf00.out.below HB7.out (Nat.le_refl _))
      have HKa07 := Lib.hid ((hb.block _ (lt_of_block HKa06.out)).trans HKa06.out)
      have HKa17 := Lib.hid ((hb.block _ (lt_of_block HKa16.out)).trans HKa16.out)
      have HKw07 := Lib.hid ((hb.block _ (lt_of_block HKw06.out)).trans HKw06.out)
      have HOw7 := Lib.hid (HOw6.out.next hb)
      have HOx07 := Lib.hid (HOx06.out.next hb)
      have HKx07 := Lib.hid ((hb.block _ (lt_of_block HKx06.out)).trans HKx06.out)
      have HBs6_7 : Hid (Below w6.heap.size w6 w7) := Lib.hid (HBs6_6.out.trans (hb.mono HBs6_6.out.size))
      clear hb
      clear ca00 ca01 ca02 fa00 fa01 fa02 lta0 ca10 ca11 ca12 fa10 fa11 fa12 lta1 cw00 cw01 cw02 fw00 fw01 fw02 ltw0 cx00 cx01 cx02 fx00 fx01 fx02 ltx0
      have lta0 := lt_of_block HKa07.out
      obtain ⟨ca00, ca01, ca02, fa00, fa01, fa02⟩ := cell3 HKa07.out
      have lta1 := lt_of_block HKa17.out
      obtain ⟨ca10, ca11, ca12, fa10, fa11, fa12⟩ := cell3 HKa17.out
      have ltw0 := lt_of_block HKw07.out
      obtain ⟨cw00, cw01, cw02, fw00, fw01, fw02⟩ := cell3 HKw07.out
      have ltx0 := lt_of_block HKx07.out
      obtain ⟨cx00, cx01, cx02, fx00, fx01, fx02⟩ := cell3 HKx07.out
      refine take1 (i := 0) (v := ?v19) (some 32) rfl rfl (by kernel_rfl) (by kernel_rfl) (by kernel_rfl) (fun _ _ _ h => h) (Or.inl ⟨by rfl, ?y19⟩) (by assumption) ?r19
      case y19 => (intro w hSw; (try dsimp only at hSw); go_simp; (first | done | with_reducible rfl))
      try simp only [Act.put, List.setIfInBounds_toArray, List.set_cons_zero, List.set_cons_succ]
      refine take1 (i := 1) (v := ?v20) (some 33) rfl rfl (by kernel_rfl) (by kernel_rfl) (by kernel_rfl) (fun _ _ _ h => h) (Or.inl ⟨by rfl, ?y20⟩) (by assumption) ?r20
      case y20 => (intro w hSw; (try dsimp only at hSw); go_simp; (first | done | with_reducible rfl))
      try simp only [Act.put, List.setIfInBounds_toArray, List.set_cons_zero, List.set_cons_succ]
      refine wpAnyH_ready (rs := [2, 7]) (by kernel_rfl) (by simp) ?_
      refine AllReadyH.cons rfl (fun K hK => ?_) (AllReadyH.cons rfl (fun K hK => ?_) AllReadyH.nil)
      · go_simp
        go_at_call 25
        refine (toBeadMove_any q1 _).mono ?_
        rintro e w8 ⟨rfl, hb⟩
        have HB8 : Hid (Below w.heap.size w w8) := Lib.hid (HB7.out.trans (hb.mono HB7.out.size))
        have HZ8 : Hid (w7.heap.size ≤ w8.heap.size) := Lib.hid hb.size
        have HRf08 := Lib.hid (HRf00.out.below HB8.out (Nat.le_refl _))
        have HKa08 := Lib.hid ((hb.block _ (lt_of_block HKa07.out)).trans HKa07.out)
        have HKa18 := Lib.hid ((hb.block _ (lt_of_block HKa17.out)).trans HKa17.out)
        have HKw08 := Lib.hid ((hb.block _ (lt_of_block HKw07.out)).trans HKw07.out)
        have HOw8 := Lib.hid (HOw7.out.next hb)
        have HOx08 := Lib.hid (HOx07.out.next hb)
        have HKx08 := Lib.hid ((hb.block _ (lt_of_block HKx07.out)).trans HKx07.out)
        have HBs6_8 : Hid (Below w6.heap.size w6 w8) := Lib.hid (HBs6_7.out.trans (hb.mono HBs6_7.out.size))
        clear hb
        clear ca00 ca01 ca02 fa00 fa01 fa02 lta0 ca10 ca11 ca12 fa10 fa11 fa12 lta1 cw00 cw01 cw02 fw00 fw01 fw02 ltw0 cx00 cx01 cx02 fx00 fx01 fx02 ltx0
        have lta0 := lt_of_block HKa08.out
        obtain ⟨ca00, ca01, ca02, fa00, fa01, fa02⟩ := cell3 HKa08.out
        have lta1 := lt_of_block HKa18.out
        obtain ⟨ca10, ca11, ca12, fa10, fa11, fa12⟩ := cell3 HKa18.out
        have ltw0 := lt_of_block HKw08.out
        obtain ⟨cw00, cw01, cw02, fw00, fw01, fw02⟩ := cell3 HKw08.out
        have ltx0 := lt_of_block HKx08.out
        obtain ⟨cx00, cx01, cx02, fx00, fx01, fx02⟩ := cell3 HKx08.out
        try go_simp
        refine hK.out _ _ (⟨cx00, cx01, cx02, ca10, ca11, ca12⟩) (fun hHeld => ?_)
        clear hK K
        try simp only [Act.put, List.setIfInBounds_toArray, List.set_cons_zero, List.set_cons_succ]
        refine wpAnyH_ready (rs := [3, 7]) (by kernel_rfl) (by simp) ?_
        refine AllReadyH.cons rfl (fun K hK => ?_) (AllReadyH.cons rfl (fun K hK => ?_) AllReadyH.nil)
        · go_simp
          go_at_call 28
          refine (HI.out hn0 _ _ (RodsR.of_own HOx08.out.1)).mono ?_
          rintro e w9 ⟨⟨sg, rfl, ho⟩, hb⟩
          have HB9 : Hid (Below w.heap.size w w9) := Lib.hid (HB8.out.trans (hb.mono HB8.out.size))
          have HZ9 : Hid (w8.heap.size ≤ w9.heap.size) := Lib.hid hb.size
          have HRf09 := Lib.hid (HRf00.out.below HB9.out (Nat.le_refl _))
          have HKa09 := Lib.hid ((hb.block _ (lt_of_block HKa08.out)).trans HKa08.out)
          have HKa19 := Lib.hid ((hb.block _ (lt_of_block HKa18.out)).trans HKa18.out)
          have HKw09 := Lib.hid ((hb.block _ (lt_of_block HKw08.out)).trans HKw08.out)
          have HOw9 := Lib.hid (HOw8.out.next hb)
          have HOx09 := Lib.hid (HOx08.out.next hb)
          have HKx09 := Lib.hid ((hb.block _ (lt_of_block HKx08.out)).trans HKx08.out)
          have HBs6_9 : Hid (Below w6.heap.size w6 w9) := Lib.hid (HBs6_8.out.trans (hb.mono HBs6_8.out.size))
          clear hb
          obtain ⟨pg, kg, rfl⟩ := own_form ho
          have HOg9 := Lib.hid (Ow.mk' ho)
          clear ho
          clear ca00 ca01 ca02 fa00 fa01 fa02 lta0 ca10 ca11 ca12 fa10 fa11 fa12 lta1 cw00 cw01 cw02 fw00 fw01 fw02 ltw0 cx00 cx01 cx02 fx00 fx01 fx02 ltx0
          have lta0 := lt_of_block HKa09.out
          obtain ⟨ca00, ca01, ca02, fa00, fa01, fa02⟩ := cell3 HKa09.out
          have lta1 := lt_of_block HKa19.out
          obtain ⟨ca10, ca11, ca12, fa10, fa11, fa12⟩ := cell3 HKa19.out
          have ltw0 := lt_of_block HKw09.out
          obtain ⟨cw00, cw01, cw02, fw00, fw01, fw02⟩ := cell3 HKw09.out
          have ltx0 := lt_of_block HKx09.out
          obtain ⟨cx00, cx01, cx02, fx00, fx01, fx02⟩ := cell3 HKx09.out
          try go_simp
          refine hK.out _ _ (⟨cx00, cx01, cx02, ca10, ca11, ca12⟩) (fun hHeld => ?_)
          clear hK K
          try simp only [Act.put, List.setIfInBounds_toArray, List.set_cons_zero, List.set_cons_succ]
          refine take1 (i := 4) (v := ?v21) (some 31) rfl rfl (by kernel_rfl) (by kernel_rfl) (by kernel_rfl) (fun _ _ _ h => h) (Or.inl ⟨by rfl, ?y21⟩) (by assumption) ?r21
          case y21 => (intro w hSw; (try dsimp only at hSw); go_simp; (first | done | with_reducible rfl))
          try simp only [Act.put, List.setIfInBounds_toArray, List.set_cons_zero, List.set_cons_succ]
          refine take1 (i := 5) (v := ?v22) (some 36) rfl rfl (by kernel_rfl) (by kernel_rfl) (by kernel_rfl) (fun _ _ _ h => h) (Or.inl ⟨by rfl, ?y22⟩) (by assumption) ?r22
          case y22 => (intro w hSw; (try dsimp only at hSw); go_simp; (first | done | with_reducible rfl))
          try simp only [Act.put, List.setIfInBounds_toArray, List.set_cons_zero, List.set_cons_succ]
          refine take1 (i := 6) (v := ?v23) (some 37) rfl rfl (by kernel_rfl) (by kernel_rfl) (by kernel_rfl) (fun _ _ _ h => h) (Or.inl ⟨by rfl, ?y23⟩) (by assumption) ?r23
          case y23 => (intro w hSw; (try dsimp only at hSw); go_simp; (first | done | with_reducible rfl))
          try simp only [Act.put, List.setIfInBounds_toArray, List.set_cons_zero, List.set_cons_succ]
          refine wpAnyH_ready (rs := [7]) (by kernel_rfl) (by simp) ?_
          refine AllReadyH.cons rfl (fun K hK => ?_) AllReadyH.nil
          go_simp
          have hb : Below w9.heap.size w9 (w9.alloc (.cells #[.int .i64 0, .int .i64 0, .slice none 0 0] 28)) := (Below.refl _ _).alloc (Nat.le_refl _) _
          have hk : (w9.alloc (.cells #[.int .i64 0, .int .i64 0, .slice none 0 0] 28)).heap[w9.heap.size]? = some (.cells #[.int .i64 0, .int .i64 0, .slice none 0 0] 28 (0, 0)) := alloc_at rfl
          have hz : (w9.alloc (.cells #[.int .i64 0, .int .i64 0, .slice none 0 0] 28)).heap.size = w9.heap.size + 1 := by simp
          generalize w9.alloc (.cells #[.int .i64 0, .int .i64 0, .slice none 0 0] 28) = w10 at hb hk hz ⊢
          have HB10 : Hid (Below w.heap.size w w10) := Lib.hid (HB9.out.trans (hb.mono HB9.out.size))
          have HZ10 : Hid (w9.heap.size ≤ w10.heap.size) := Lib.hid hb.size
          have HRf010 := Lib.hid (HRf00.out.below HB10.out (Nat.le_refl _))
          have HKa010 := Lib.hid ((hb.block _ (lt_of_block HKa09.out)).trans HKa09.out)
          have HKa110 := Lib.hid ((hb.block _ (lt_of_block HKa19.out)).trans HKa19.out)
          have HKw010 := Lib.hid ((hb.block _ (lt_of_block HKw09.out)).trans HKw09.out)
          have HOw10 := Lib.hid (HOw9.out.next hb)
          have HOx010 := Lib.hid (HOx09.out.next hb)
          have HKx010 := Lib.hid ((hb.block _ (lt_of_block HKx09.out)).trans HKx09.out)
          have HOg10 := Lib.hid (HOg9.out.next hb)
          have HBs6_10 : Hid (Below w6.heap.size w6 w10) := Lib.hid (HBs6_9.out.trans (hb.mono HBs6_9.out.size))
          have HKg010 := Lib.hid hk
          replace HZ10 : Hid (w9.heap.size < w10.heap.size) := Lib.hid (by omega)
          have HE10 := Lib.hid hz
          clear hb hk hz
          clear ca00 ca01 ca02 fa00 fa01 fa02 lta0 ca10 ca11 ca12 fa10 fa11 fa12 lta1 cw00 cw01 cw02 fw00 fw01 fw02 ltw0 cx00 cx01 cx02 fx00 fx01 fx02 ltx0
          have lta0 := lt_of_block HKa010.out
          obtain ⟨ca00, ca01, ca02, fa00, fa01, fa02⟩ := cell3 HKa010.out
          have lta1 := lt_of_block HKa110.out
          obtain ⟨ca10, ca11, ca12, fa10, fa11, fa12⟩ := cell3 HKa110.out
          have ltw0 := lt_of_block HKw010.out
          obtain ⟨cw00, cw01, cw02, fw00, fw01, fw02⟩ := cell3 HKw010.out
          have ltx0 := lt_of_block HKx010.out
          obtain ⟨cx00, cx01, cx02, fx00, fx01, fx02⟩ := cell3 HKx010.out
          have ltg0 := lt_of_block HKg010.out
          obtain ⟨cg00, cg01, cg02, fg00, fg01, fg02⟩ := cell3 HKg010.out
          refine hK.out _ _ (⟨cx00, cx01, cx02, ca10, ca11, ca12⟩) (fun hHeld => ?_)
          clear hK K
          try simp only [Act.put, List.setIfInBounds_toArray, List.set_cons_zero, List.set_cons_succ]
          refine wpAnyH_ready (rs := [8]) (by kernel_rfl) (by simp) ?_
          refine AllReadyH.cons rfl (fun K hK => ?_) AllReadyH.nil
          go_simp
          have hkb := box3_set' HKg010.out (.int .i64 fu) (.int .i64 fl) (.slice pg qs.length kg)
          have hm : Btw w9.heap.size (w9.heap.size + 1) w10 (((w10.setCell ⟨w9.heap.size, 0, none⟩ (.int .i64 fu)).setCell ⟨w9.heap.size, 1, none⟩ (.int .i64 fl)).setCell ⟨w9.heap.size, 2, none⟩ (.slice pg qs.length kg)) := (((Btw.refl w9.heap.size (w9.heap.size + 1) w10).setCell (p := ⟨w9.heap.size, 0, none⟩) (Nat.le_refl _) (Nat.lt_succ_self _) _).setCell (p := ⟨w9.heap.size, 1, none⟩) (Nat.le_refl _) (Nat.lt_succ_self _) _).setCell (p := ⟨w9.heap.size, 2, none⟩) (Nat.le_refl _) (Nat.lt_succ_self _) _
          generalize ((w10.setCell ⟨w9.heap.size, 0, none⟩ (.int .i64 fu)).setCell ⟨w9.heap.size, 1, none⟩ (.int .i64 fl)).setCell ⟨w9.heap.size, 2, none⟩ (.slice pg qs.length kg) = w11 at hkb hm ⊢
          have HZ11 : Hid (w10.heap.size ≤ w11.heap.size) := Lib.hid hm.size
          have HB11 : Hid (Below w.heap.size w w11) := Lib.hid (HB10.out.trans (hm.below.mono (by have := HZ1.out; have := HZ2.out; have := HZ3.out; have := HZ4.out; have := HZ5.out; have := HZ6.out; have := HZ7.out; have := HZ8.out; have := HZ9.out; have := HZ10.out; have := HB0.out.size; omega)))
          have HRf011 := Lib.hid (HRf00.out.below HB11.out (Nat.le_refl _))
          have HKa011 := Lib.hid ((hm.block _ (by have := lt_of_block HKa010.out; have := HZ1.out; have := HZ2.out; have := HZ3.out; have := HZ4.out; have := HZ5.out; have := HZ6.out; have := HZ7.out; have := HZ8.out; have := HZ9.out; have := HZ10.out; omega)).trans HKa010.out)
          have HKa111 := Lib.hid ((hm.block _ (by have := lt_of_block HKa110.out; have := HZ1.out; have := HZ2.out; have := HZ3.out; have := HZ4.out; have := HZ5.out; have := HZ6.out; have := HZ7.out; have := HZ8.out; have := HZ9.out; have := HZ10.out; omega)).trans HKa110.out)
          have HKw011 := Lib.hid ((hm.block _ (by have := lt_of_block HKw010.out; have := HZ1.out; have := HZ2.out; have := HZ3.out; have := HZ4.out; have := HZ5.out; have := HZ6.out; have := HZ7.out; have := HZ8.out; have := HZ9.out; have := HZ10.out; omega)).trans HKw010.out)
          have HOw11 := Lib.hid (HOw10.out.btw hm (by have := HZ1.out; have := HZ2.out; have := HZ3.out; have := HZ4.out; have := HZ5.out; have := HZ6.out; have := HZ7.out; have := HZ8.out; have := HZ9.out; have := HZ10.out; omega))
          have HOx011 := Lib.hid (HOx010.out.btw hm (by have := HZ1.out; have := HZ2.out; have := HZ3.out; have := HZ4.out; have := HZ5.out; have := HZ6.out; have := HZ7.out; have := HZ8.out; have := HZ9.out; have := HZ10.out; omega))
          have HKx011 := Lib.hid ((hm.block _ (by have := lt_of_block HKx010.out; have := HZ1.out; have := HZ2.out; have := HZ3.out; have := HZ4.out; have := HZ5.out; have := HZ6.out; have := HZ7.out; have := HZ8.out; have := HZ9.out; have := HZ10.out; omega)).trans HKx010.out)
          have HOg11 := Lib.hid (HOg10.out.btw hm (by have := HZ1.out; have := HZ2.out; have := HZ3.out; have := HZ4.out; have := HZ5.out; have := HZ6.out; have := HZ7.out; have := HZ8.out; have := HZ9.out; have := HZ10.out; omega))
          have HBs6_11 : Hid (Below w6.heap.size w6 w11) := Lib.hid (HBs6_10.out.trans (hm.below.mono (by have := HZ1.out; have := HZ2.out; have := HZ3.out; have := HZ4.out; have := HZ5.out; have := HZ6.out; have := HZ7.out; have := HZ8.out; have := HZ9.out; have := HZ10.out; omega)))
          clear hm
          have HKg011 := Lib.hid (hkb)
          clear hkb
          clear ca00 ca01 ca02 fa00 fa01 fa02 lta0 ca10 ca11 ca12 fa10 fa11 fa12 lta1 cw00 cw01 cw02 fw00 fw01 fw02 ltw0 cx00 cx01 cx02 fx00 fx01 fx02 ltx0 cg00 cg01 cg02 fg00 fg01 fg02 ltg0
          have lta0 := lt_of_block HKa011.out
          obtain ⟨ca00, ca01, ca02, fa00, fa01, fa02⟩ := cell3 HKa011.out
          have lta1 := lt_of_block HKa111.out
          obtain ⟨ca10, ca11, ca12, fa10, fa11, fa12⟩ := cell3 HKa111.out
          have ltw0 := lt_of_block HKw011.out
          obtain ⟨cw00, cw01, cw02, fw00, fw01, fw02⟩ := cell3 HKw011.out
          have ltx0 := lt_of_block HKx011.out
          obtain ⟨cx00, cx01, cx02, fx00, fx01, fx02⟩ := cell3 HKx011.out
          have ltg0 := lt_of_block HKg011.out
          obtain ⟨cg00, cg01, cg02, fg00, fg01, fg02⟩ := cell3 HKg011.out
          refine hK.out _ _ (⟨cx00, cx01, cx02, ca10, ca11, ca12⟩) (fun hHeld => ?_)
          clear hK K
          try simp only [Act.put]
          refine take1 (i := 9) (v := ?v24) (some 10) rfl rfl (by kernel_rfl) (by kernel_rfl) (by kernel_rfl) (fun _ _ _ h => h) (Or.inl ⟨by rfl, ?y24⟩) (by assumption) ?r24
          case y24 => (intro w hSw; (try dsimp only at hSw); go_simp; (first | done | with_reducible rfl))
          try simp only [Act.put, List.setIfInBounds_toArray, List.set_cons_zero, List.set_cons_succ]
          refine wpAnyH_done (by kernel_rfl) ?_ _
          go_wp2_with fail
          go_meet
          exact ⟨w9.heap.size, pg, kg, _, _, rfl, rfl, HKg011.out, HOg11.out, by have := HZ1.out; have := HZ2.out; have := HZ3.out; have := HZ4.out; have := HZ5.out; have := HZ6.out; have := HZ7.out; have := HZ8.out; have := HZ9.out; have := HZ10.out; have := HZ11.out;  omega, by have := HZ1.out; have := HZ2.out; have := HZ3.out; have := HZ4.out; have := HZ5.out; have := HZ6.out; have := HZ7.out; have := HZ8.out; have := HZ9.out; have := HZ10.out; have := HZ11.out;  omega, by have := HZ1.out; have := HZ2.out; have := HZ3.out; have := HZ4.out; have := HZ5.out; have := HZ6.out; have := HZ7.out; have := HZ8.out; have := HZ9.out; have := HZ10.out; have := HZ11.out;  omega, by have := HZ1.out; have := HZ2.out; have := HZ3.out; have := HZ4.out; have := HZ5.out; have := HZ6.out; have := HZ7.out; have := HZ8.out; have := HZ9.out; have := HZ10.out; have := HZ11.out;  omega, by have := HZ1.out; have := HZ2.out; have := HZ3.out; have := HZ4.out; have := HZ5.out; have := HZ6.out; have := HZ7.out; have := HZ8.out; have := HZ9.out; have := HZ10.out; have := HZ11.out;  omega, HBs6_11.out⟩
        · go_simp
          have hb : Below w8.heap.size w8 (w8.alloc (.cells #[.int .i64 0, .int .i64 0, .slice none 0 0] 28)) := (Below.refl _ _).alloc (Nat.le_refl _) _
          have hk : (w8.alloc (.cells #[.int .i64 0, .int .i64 0, .slice none 0 0] 28)).heap[w8.heap.size]? = some (.cells #[.int .i64 0, .int .i64 0, .slice none 0 0] 28 (0, 0)) := alloc_at rfl
          have hz : (w8.alloc (.cells #[.int .i64 0, .int .i64 0, .slice none 0 0] 28)).heap.size = w8.heap.size + 1 := by simp
          generalize w8.alloc (.cells #[.int .i64 0, .int .i64 0, .slice none 0 0] 28) = w9 at hb hk hz ⊢
          have HB9 : Hid (Below w.heap.size w w9) := Lib.hid (HB8.out.trans (hb.mono HB8.out.size))
          have HZ9 : Hid (w8.heap.size ≤ w9.heap.size) := Lib.hid hb.size
          have HRf09 := Lib.hid (HRf00.out.below HB9.out (Nat.le_refl _))
          have HKa09 := Lib.hid ((hb.block _ (lt_of_block HKa08.out)).trans HKa08.out)
          have HKa19 := Lib.hid ((hb.block _ (lt_of_block HKa18.out)).trans HKa18.out)
          have HKw09 := Lib.hid ((hb.block _ (lt_of_block HKw08.out)).trans HKw08.out)
          have HOw9 := Lib.hid (HOw8.out.next hb)
          have HOx09 := Lib.hid (HOx08.out.next hb)
          have HKx09 := Lib.hid ((hb.block _ (lt_of_block HKx08.out)).trans HKx08.out)
          have HBs6_9 : Hid (Below w6.heap.size w6 w9) := Lib.hid (HBs6_8.out.trans (hb.mono HBs6_8.out.size))
          have HKg09 := Lib.hid hk
          replace HZ9 : Hid (w8.heap.size < w9.heap.size) := Lib.hid (by omega)
          have HE9 := Lib.hid hz
          clear hb hk hz
          clear ca00 ca01 ca02 fa00 fa01 fa02 lta0 ca10 ca11 ca12 fa10 fa11 fa12 lta1 cw00 cw01 cw02 fw00 fw01 fw02 ltw0 cx00 cx01 cx02 fx00 fx01 fx02 ltx0
          have lta0 := lt_of_block HKa09.out
          obtain ⟨ca00, ca01, ca02, fa00, fa01, fa02⟩ := cell3 HKa09.out
          have lta1 := lt_of_block HKa19.out
          obtain ⟨ca10, ca11, ca12, fa10, fa11, fa12⟩ := cell3 HKa19.out
          have ltw0 := lt_of_block HKw09.out
          obtain ⟨cw00, cw01, cw02, fw00, fw01, fw02⟩ := cell3 HKw09.out
          have ltx0 := lt_of_block HKx09.out
          obtain ⟨cx00, cx01, cx02, fx00, fx01, fx02⟩ := cell3 HKx09.out
          have ltg0 := lt_of_block HKg09.out
          obtain ⟨cg00, cg01, cg02, fg00, fg01, fg02⟩ := cell3 HKg09.out
          refine hK.out _ _ (⟨cx00, cx01, cx02, ca10, ca11, ca12⟩) (fun hHeld => ?_)
          clear hK K
          try simp only [Act.put, List.setIfInBounds_toArray, List.set_cons_zero, List.set_cons_succ]
          refine wpAnyH_ready (rs := [3]) (by kernel_rfl) (by simp) ?_
          refine AllReadyH.cons rfl (fun K hK => ?_) AllReadyH.nil
          go_simp
          go_at_call 28
          refine (HI.out hn0 _ _ (RodsR.of_own HOx09.out.1)).mono ?_
          rintro e w10 ⟨⟨sg, rfl, ho⟩, hb⟩
          have HB10 : Hid (Below w.heap.size w w10) := Lib.hid (HB9.out.trans (hb.mono HB9.out.size))
          have HZ10 : Hid (w9.heap.size ≤ w10.heap.size) := Lib.hid hb.size
          have HRf010 := Lib.hid (HRf00.out.below HB10.out (Nat.le_refl _))
          have HKa010 := Lib.hid ((hb.block _ (lt_of_block HKa09.out)).trans HKa09.out)
          have HKa110 := Lib.hid ((hb.block _ (lt_of_block HKa19.out)).trans HKa19.out)
          have HKw010 := Lib.hid ((hb.block _ (lt_of_block HKw09.out)).trans HKw09.out)
          have HOw10 := Lib.hid (HOw9.out.next hb)
          have HOx010 := Lib.hid (HOx09.out.next hb)
          have HKx010 := Lib.hid ((hb.block _ (lt_of_block HKx09.out)).trans HKx09.out)
          have HKg010 := Lib.hid ((hb.block _ (lt_of_block HKg09.out)).trans HKg09.out)
          have HBs6_10 : Hid (Below w6.heap.size w6 w10) := Lib.hid (HBs6_9.out.trans (hb.mono HBs6_9.out.size))
          clear hb
          obtain ⟨pg, kg, rfl⟩ := own_form ho
          have HOg10 := Lib.hid (Ow.mk' ho)
          clear ho
          clear ca00 ca01 ca02 fa00 fa01 fa02 lta0 ca10 ca11 ca12 fa10 fa11 fa12 lta1 cw00 cw01 cw02 fw00 fw01 fw02 ltw0 cx00 cx01 cx02 fx00 fx01 fx02 ltx0 cg00 cg01 cg02 fg00 fg01 fg02 ltg0
          have lta0 := lt_of_block HKa010.out
          obtain ⟨ca00, ca01, ca02, fa00, fa01, fa02⟩ := cell3 HKa010.out
          have lta1 := lt_of_block HKa110.out
          obtain ⟨ca10, ca11, ca12, fa10, fa11, fa12⟩ := cell3 HKa110.out
          have ltw0 := lt_of_block HKw010.out
          obtain ⟨cw00, cw01, cw02, fw00, fw01, fw02⟩ := cell3 HKw010.out
          have ltx0 := lt_of_block HKx010.out
          obtain ⟨cx00, cx01, cx02, fx00, fx01, fx02⟩ := cell3 HKx010.out
          have ltg0 := lt_of_block HKg010.out
          obtain ⟨cg00, cg01, cg02, fg00, fg01, fg02⟩ := cell3 HKg010.out
          try go_simp
          refine hK.out _ _ (⟨cx00, cx01, cx02, ca10, ca11, ca12⟩) (fun hHeld => ?_)
          clear hK K
          try simp only [Act.put, List.setIfInBounds_toArray, List.set_cons_zero, List.set_cons_succ]
          refine take1 (i := 4) (v := ?v25) (some 31) rfl rfl (by kernel_rfl) (by kernel_rfl) (by kernel_rfl) (fun _ _ _ h => h) (Or.inl ⟨by rfl, ?y25⟩) (by assumption) ?r25
          case y25 => (intro w hSw; (try dsimp only at hSw); go_simp; (first | done | with_reducible rfl))
          try simp only [Act.put, List.setIfInBounds_toArray, List.set_cons_zero, List.set_cons_succ]
          refine take1 (i := 5) (v := ?v26) (some 36) rfl rfl (by kernel_rfl) (by kernel_rfl) (by kernel_rfl) (fun _ _ _ h => h) (Or.inl ⟨by rfl, ?y26⟩) (by assumption) ?r26
          case y26 => (intro w hSw; (try dsimp only at hSw); go_simp; (first | done | with_reducible rfl))
          try simp only [Act.put, List.setIfInBounds_toArray, List.set_cons_zero, List.set_cons_succ]
          refine take1 (i := 6) (v := ?v27) (some 37) rfl rfl (by kernel_rfl) (by kernel_rfl) (by kernel_rfl) (fun _ _ _ h => h) (Or.inl ⟨by rfl, ?y27⟩) (by assumption) ?r27
          case y27 => (intro w hSw; (try dsimp only at hSw); go_simp; (first | done | with_reducible rfl))
          try simp only [Act.put, List.setIfInBounds_toArray, List.set_cons_zero, List.set_cons_succ]
          refine wpAnyH_ready (rs := [8]) (by kernel_rfl) (by simp) ?_
          refine AllReadyH.cons rfl (fun K hK => ?_) AllReadyH.nil
          go_simp
          have hkb := box3_set' HKg010.out (.int .i64 fu) (.int .i64 fl) (.slice pg qs.length kg)
          have hm : Btw w8.heap.size (w8.heap.size + 1) w10 (((w10.setCell ⟨w8.heap.size, 0, none⟩ (.int .i64 fu)).setCell ⟨w8.heap.size, 1, none⟩ (.int .i64 fl)).setCell ⟨w8.heap.size, 2, none⟩ (.slice pg qs.length kg)) := (((Btw.refl w8.heap.size (w8.heap.size + 1) w10).setCell (p := ⟨w8.heap.size, 0, none⟩) (Nat.le_refl _) (Nat.lt_succ_self _) _).setCell (p := ⟨w8.heap.size, 1, none⟩) (Nat.le_refl _) (Nat.lt_succ_self _) _).setCell (p := ⟨w8.heap.size, 2, none⟩) (Nat.le_refl _) (Nat.lt_succ_self _) _
          generalize ((w10.setCell ⟨w8.heap.size, 0, none⟩ (.int .i64 fu)).setCell ⟨w8.heap.size, 1, none⟩ (.int .i64 fl)).setCell ⟨w8.heap.size, 2, none⟩ (.slice pg qs.length kg) = w11 at hkb hm ⊢
          have HZ11 : Hid (w10.heap.size ≤ w11.heap.size) := Lib.hid hm.size
          have HB11 : Hid (Below w.heap.size w w11) := Lib.hid (HB10.out.trans (hm.below.mono (by have := HZ1.out; have := HZ2.out; have := HZ3.out; have := HZ4.out; have := HZ5.out; have := HZ6.out; have := HZ7.out; have := HZ8.out; have := HZ9.out; have := HZ10.out; have := HB0.out.size; omega)))
          have HRf011 := Lib.hid (HRf00.out.below HB11.out (Nat.le_refl _))
          have HKa011 := Lib.hid ((hm.block _ (by have := lt_of_block HKa010.out; have := HZ1.out; have := HZ2.out; have := HZ3.out; have := HZ4.out; have := HZ5.out; have := HZ6.out; have := HZ7.out; have := HZ8.out; have := HZ9.out; have := HZ10.out; omega)).trans HKa010.out)
          have HKa111 := Lib.hid ((hm.block _ (by have := lt_of_block HKa110.out; have := HZ1.out; have := HZ2.out; have := HZ3.out; have := HZ4.out; have := HZ5.out; have := HZ6.out; have := HZ7.out; have := HZ8.out; have := HZ9.out; have := HZ10.out; omega)).trans HKa110.out)
          have HKw011 := Lib.hid ((hm.block _ (by have := lt_of_block HKw010.out; have := HZ1.out; have := HZ2.out; have := HZ3.out; have := HZ4.out; have := HZ5.out; have := HZ6.out; have := HZ7.out; have := HZ8.out; have := HZ9.out; have := HZ10.out; omega)).trans HKw010.out)
          have HOw11 := Lib.hid (HOw10.out.btw hm (by have := HZ1.out; have := HZ2.out; have := HZ3.out; have := HZ4.out; have := HZ5.out; have := HZ6.out; have := HZ7.out; have := HZ8.out; have := HZ9.out; have := HZ10.out; omega))
          have HOx011 := Lib.hid (HOx010.out.btw hm (by have := HZ1.out; have := HZ2.out; have := HZ3.out; have := HZ4.out; have := HZ5.out; have := HZ6.out; have := HZ7.out; have := HZ8.out; have := HZ9.out; have := HZ10.out; omega))
          have HKx011 := Lib.hid ((hm.block _ (by have := lt_of_block HKx010.out; have := HZ1.out; have := HZ2.out; have := HZ3.out; have := HZ4.out; have := HZ5.out; have := HZ6.out; have := HZ7.out; have := HZ8.out; have := HZ9.out; have := HZ10.out; omega)).trans HKx010.out)
          have HOg11 := Lib.hid (HOg10.out.btw hm (by have := HZ1.out; have := HZ2.out; have := HZ3.out; have := HZ4.out; have := HZ5.out; have := HZ6.out; have := HZ7.out; have := HZ8.out; have := HZ9.out; have := HZ10.out; omega))
          have HBs6_11 : Hid (Below w6.heap.size w6 w11) := Lib.hid (HBs6_10.out.trans (hm.below.mono (by have := HZ1.out; have := HZ2.out; have := HZ3.out; have := HZ4.out; have := HZ5.out; have := HZ6.out; have := HZ7.out; have := HZ8.out; have := HZ9.out; have := HZ10.out; omega)))
          clear hm
          have HKg011 := Lib.hid (hkb)
          clear hkb
          clear ca00 ca01 ca02 fa00 fa01 fa02 lta0 ca10 ca11 ca12 fa10 fa11 fa12 lta1 cw00 cw01 cw02 fw00 fw01 fw02 ltw0 cx00 cx01 cx02 fx00 fx01 fx02 ltx0 cg00 cg01 cg02 fg00 fg01 fg02 ltg0
          have lta0 := lt_of_block HKa011.out
          obtain ⟨ca00, ca01, ca02, fa00, fa01, fa02⟩ := cell3 HKa011.out
          have lta1 := lt_of_block HKa111.out
          obtain ⟨ca10, ca11, ca12, fa10, fa11, fa12⟩ := cell3 HKa111.out
          have ltw0 := lt_of_block HKw011.out
          obtain ⟨cw00, cw01, cw02, fw00, fw01, fw02⟩ := cell3 HKw011.out
          have ltx0 := lt_of_block HKx011.out
          obtain ⟨cx00, cx01, cx02, fx00, fx01, fx02⟩ := cell3 HKx011.out
          have ltg0 := lt_of_block HKg011.out
          obtain ⟨cg00, cg01, cg02, fg00, fg01, fg02⟩ := cell3 HKg011.out
          refine hK.out _ _ (⟨cx00, cx01, cx02, ca10, ca11, ca12⟩) (fun hHeld => ?_)
          clear hK K
          try simp only [Act.put]
          refine take1 (i := 9) (v := ?v28) (some 10) rfl rfl (by kernel_rfl) (by kernel_rfl) (by kernel_rfl) (fun _ _ _ h => h) (Or.inl ⟨by rfl, ?y28⟩) (by assumption) ?r28
          case y28 => (intro w hSw; (try dsimp only at hSw); go_simp; (first | done | with_reducible rfl))
          try simp only [Act.put, List.setIfInBounds_toArray, List.set_cons_zero, List.set_cons_succ]
          refine wpAnyH_done (by kernel_rfl) ?_ _
          go_wp2_with fail
          go_meet
          exact ⟨w8.heap.size, pg, kg, _, _, rfl, rfl, HKg011.out, HOg11.out, by have := HZ1.out; have := HZ2.out; have := HZ3.out; have := HZ4.out; have := HZ5.out; have := HZ6.out; have := HZ7.out; have := HZ8.out; have := HZ9.out; have := HZ10.out; have := HZ11.out;  omega, by have := HZ1.out; have := HZ2.out; have := HZ3.out; have := HZ4.out; have := HZ5.out; have := HZ6.out; have := HZ7.out; have := HZ8.out; have := HZ9.out; have := HZ10.out; have := HZ11.out;  omega, by have := HZ1.out; have := HZ2.out; have := HZ3.out; have := HZ4.out; have := HZ5.out; have := HZ6.out; have := HZ7.out; have := HZ8.out; have := HZ9.out; have := HZ10.out; have := HZ11.out;  omega, by have := HZ1.out; have := HZ2.out; have := HZ3.out; have := HZ4.out; have := HZ5.out; have := HZ6.out; have := HZ7.out; have := HZ8.out; have := HZ9.out; have := HZ10.out; have := HZ11.out;  omega, by have := HZ1.out; have := HZ2.out; have := HZ3.out; have := HZ4.out; have := HZ5.out; have := HZ6.out; have := HZ7.out; have := HZ8.out; have := HZ9.out; have := HZ10.out; have := HZ11.out;  omega, HBs6_11.out⟩
      · go_simp
        have hb : Below w7.heap.size w7 (w7.alloc (.cells #[.int .i64 0, .int .i64 0, .slice none 0 0] 28)) := (Below.refl _ _).alloc (Nat.le_refl _) _
        have hk : (w7.alloc (.cells #[.int .i64 0, .int .i64 0, .slice none 0 0] 28)).heap[w7.heap.size]? = some (.cells #[.int .i64 0, .int .i64 0, .slice none 0 0] 28 (0, 0)) := alloc_at rfl
        have hz : (w7.alloc (.cells #[.int .i64 0, .int .i64 0, .slice none 0 0] 28)).heap.size = w7.heap.size + 1 := by simp
        generalize w7.alloc (.cells #[.int .i64 0, .int .i64 0, .slice none 0 0] 28) = w8 at hb hk hz ⊢
        have HB8 : Hid (Below w.heap.size w w8) := Lib.hid (HB7.out.trans (hb.mono HB7.out.size))
        have HZ8 : Hid (w7.heap.size ≤ w8.heap.size) := Lib.hid hb.size
        have HRf08 := Lib.hid (HRf00.out.below HB8.out (Nat.le_refl _))
        have HKa08 := Lib.hid ((hb.block _ (lt_of_block HKa07.out)).trans HKa07.out)
        have HKa18 := Lib.hid ((hb.block _ (lt_of_block HKa17.out)).trans HKa17.out)
        have HKw08 := Lib.hid ((hb.block _ (lt_of_block HKw07.out)).trans HKw07.out)
        have HOw8 := Lib.hid (HOw7.out.next hb)
        have HOx08 := Lib.hid (HOx07.out.next hb)
        have HKx08 := Lib.hid ((hb.block _ (lt_of_block HKx07.out)).trans HKx07.out)
        have HBs6_8 : Hid (Below w6.heap.size w6 w8) := Lib.hid (HBs6_7.out.trans (hb.mono HBs6_7.out.size))
        have HKg08 := Lib.hid hk
        replace HZ8 : Hid (w7.heap.size < w8.heap.size) := Lib.hid (by omega)
        have HE8 := Lib.hid hz
        clear hb hk hz
        clear ca00 ca01 ca02 fa00 fa01 fa02 lta0 ca10 ca11 ca12 fa10 fa11 fa12 lta1 cw00 cw01 cw02 fw00 fw01 fw02 ltw0 cx00 cx01 cx02 fx00 fx01 fx02 ltx0
        have lta0 := lt_of_block HKa08.out
        obtain ⟨ca00, ca01, ca02, fa00, fa01, fa02⟩ := cell3 HKa08.out
        have lta1 := lt_of_block HKa18.out
        obtain ⟨ca10, ca11, ca12, fa10, fa11, fa12⟩ := cell3 HKa18.out
        have ltw0 := lt_of_block HKw08.out
        obtain ⟨cw00, cw01, cw02, fw00, fw01, fw02⟩ := cell3 HKw08.out
        have ltx0 := lt_of_block HKx08.out
        obtain ⟨cx00, cx01, cx02, fx00, fx01, fx02⟩ := cell3 HKx08.out
        have ltg0 := lt_of_block HKg08.out
        obtain ⟨cg00, cg01, cg02, fg00, fg01, fg02⟩ := cell3 HKg08.out
        refine hK.out _ _ (⟨cx00, cx01, cx02, ca10, ca11, ca12⟩) (fun hHeld => ?_)
        clear hK K
        try simp only [Act.put, List.setIfInBounds_toArray, List.set_cons_zero, List.set_cons_succ]
        refine wpAnyH_ready (rs := [2]) (by kernel_rfl) (by simp) ?_
        refine AllReadyH.cons rfl (fun K hK => ?_) AllReadyH.nil
        go_simp
        go_at_call 25
        refine (toBeadMove_any q1 _).mono ?_
        rintro e w9 ⟨rfl, hb⟩
        have HB9 : Hid (Below w.heap.size w w9) := Lib.hid (HB8.out.trans (hb.mono HB8.out.size))
        have HZ9 : Hid (w8.heap.size ≤ w9.heap.size) := Lib.hid hb.size
        have HRf09 := Lib.hid (HRf00.out.below HB9.out (Nat.le_refl _))
        have HKa09 := Lib.hid ((hb.block _ (lt_of_block HKa08.out)).trans HKa08.out)
        have HKa19 := Lib.hid ((hb.block _ (lt_of_block HKa18.out)).trans HKa18.out)
        have HKw09 := Lib.hid ((hb.block _ (lt_of_block HKw08.out)).trans HKw08.out)
        have HOw9 := Lib.hid (HOw8.out.next hb)
        have HOx09 := Lib.hid (HOx08.out.next hb)
        have HKx09 := Lib.hid ((hb.block _ (lt_of_block HKx08.out)).trans HKx08.out)
        have HKg09 := Lib.hid ((hb.block _ (lt_of_block HKg08.out)).trans HKg08.out)
        have HBs6_9 : Hid (Below w6.heap.size w6 w9) := Lib.hid (HBs6_8.out.trans (hb.mono HBs6_8.out.size))
        clear hb
        clear ca00 ca01 ca02 fa00 fa01 fa02 lta0 ca10 ca11 ca12 fa10 fa11 fa12 lta1 cw00 cw01 cw02 fw00 fw01 fw02 ltw0 cx00 cx01 cx02 fx00 fx01 fx02 ltx0 cg00 cg01 cg02 fg00 fg01 fg02 ltg0
        have lta0 := lt_of_block HKa09.out
        obtain ⟨ca00, ca01, ca02, fa00, fa01, fa02⟩ := cell3 HKa09.out
        have lta1 := lt_of_block HKa19.out
        obtain ⟨ca10, ca11, ca12, fa10, fa11, fa12⟩ := cell3 HKa19.out
        have ltw0 := lt_of_block HKw09.out
        obtain ⟨cw00, cw01, cw02, fw00, fw01, fw02⟩ := cell3 HKw09.out
        have ltx0 := lt_of_block HKx09.out
        obtain ⟨cx00, cx01, cx02, fx00, fx01, fx02⟩ := cell3 HKx09.out
        have ltg0 := lt_of_block HKg09.out
        obtain ⟨cg00, cg01, cg02, fg00, fg01, fg02⟩ := cell3 HKg09.out
        try go_simp
        refine hK.out _ _ (⟨cx00, cx01, cx02, ca10, ca11, ca12⟩) (fun hHeld => ?_)
        clear hK K
        try simp only [Act.put, List.setIfInBounds_toArray, List.set_cons_zero, List.set_cons_succ]
        refine wpAnyH_ready (rs := [3]) (by kernel_rfl) (by simp) ?_
        refine AllReadyH.cons rfl (fun K hK => ?_) AllReadyH.nil
        go_simp
        go_at_call 28
        refine (HI.out hn0 _ _ (RodsR.of_own HOx09.out.1)).mono ?_
        rintro e w10 ⟨⟨sg, rfl, ho⟩, hb⟩
        have HB10 : Hid (Below w.heap.size w w10) := Lib.hid (HB9.out.trans (hb.mono HB9.out.size))
        have HZ10 : Hid (w9.heap.size ≤ w10.heap.size) := Lib.hid hb.size
        have HRf010 := Lib.hid (HRf00.out.below HB10.out (Nat.le_refl _))
        have HKa010 := Lib.hid ((hb.block _ (lt_of_block HKa09.out)).trans HKa09.out)
        have HKa110 := Lib.hid ((hb.block _ (lt_of_block HKa19.out)).trans HKa19.out)
        have HKw010 := Lib.hid ((hb.block _ (lt_of_block HKw09.out)).trans HKw09.out)
        have HOw10 := Lib.hid (HOw9.out.next hb)
        have HOx010 := Lib.hid (HOx09.out.next hb)
        have HKx010 := Lib.hid ((hb.block _ (lt_of_block HKx09.out)).trans HKx09.out)
        have HKg010 := Lib.hid ((hb.block _ (lt_of_block HKg09.out)).trans HKg09.out)
        have HBs6_10 : Hid (Below w6.heap.size w6 w10) := Lib.hid (HBs6_9.out.trans (hb.mono HBs6_9.out.size))
        clear hb
        obtain ⟨pg, kg, rfl⟩ := own_form ho
        have HOg10 := Lib.hid (Ow.mk' ho)
        clear ho
        clear ca00 ca01 ca02 fa00 fa01 fa02 lta0 ca10 ca11 ca12 fa10 fa11 fa12 lta1 cw00 cw01 cw02 fw00 fw01 fw02 ltw0 cx00 cx01 cx02 fx00 fx01 fx02 ltx0 cg00 cg01 cg02 fg00 fg01 fg02 ltg0
        have lta0 := lt_of_block HKa010.out
        obtain ⟨ca00, ca01, ca02, fa00, fa01, fa02⟩ := cell3 HKa010.out
        have lta1 := lt_of_block HKa110.out
        obtain ⟨ca10, ca11, ca12, fa10, fa11, fa12⟩ := cell3 HKa110.out
        have ltw0 := lt_of_block HKw010.out
        obtain ⟨cw00, cw01, cw02, fw00, fw01, fw02⟩ := cell3 HKw010.out
        have ltx0 := lt_of_block HKx010.out
        obtain ⟨cx00, cx01, cx02, fx00, fx01, fx02⟩ := cell3 HKx010.out
        have ltg0 := lt_of_block HKg010.out
        obtain ⟨cg00, cg01, cg02, fg00, fg01, fg02⟩ := cell3 HKg010.out
        try go_simp
        refine hK.out _ _ (⟨cx00, cx01, cx02, ca10, ca11, ca12⟩) (fun hHeld => ?_)
        clear hK K
        try simp only [Act.put, List.setIfInBounds_toArray, List.set_cons_zero, List.set_cons_succ]
        refine take1 (i := 4) (v := ?v29) (some 31) rfl rfl (by kernel_rfl) (by kernel_rfl) (by kernel_rfl) (fun _ _ _ h => h) (Or.inl ⟨by rfl, ?y29⟩) (by assumption) ?r29
        case y29 => (intro w hSw; (try dsimp only at hSw); go_simp; (first | done | with_reducible rfl))
        try simp only [Act.put, List.setIfInBounds_toArray, List.set_cons_zero, List.set_cons_succ]
        refine take1 (i := 5) (v := ?v30) (some 36) rfl rfl (by kernel_rfl) (by kernel_rfl) (by kernel_rfl) (fun _ _ _ h => h) (Or.inl ⟨by rfl, ?y30⟩) (by assumption) ?r30
        case y30 => (intro w hSw; (try dsimp only at hSw); go_simp; (first | done | with_reducible rfl))
        try simp only [Act.put, List.setIfInBounds_toArray, List.set_cons_zero, List.set_cons_succ]
        refine take1 (i := 6) (v := ?v31) (some 37) rfl rfl (by kernel_rfl) (by kernel_rfl) (by kernel_rfl) (fun _ _ _ h => h) (Or.inl ⟨by rfl, ?y31⟩) (by assumption) ?r31
        case y31 => (intro w hSw; (try dsimp only at hSw); go_simp; (first | done | with_reducible rfl))
        try simp only [Act.put, List.setIfInBounds_toArray, List.set_cons_zero, List.set_cons_succ]
        refine wpAnyH_ready (rs := [8]) (by kernel_rfl) (by simp) ?_
        refine AllReadyH.cons rfl (fun K hK => ?_) AllReadyH.nil
        go_simp
        have hkb := box3_set' HKg010.out (.int .i64 fu) (.int .i64 fl) (.slice pg qs.length kg)
        have hm : Btw w7.heap.size (w7.heap.size + 1) w10 (((w10.setCell ⟨w7.heap.size, 0, none⟩ (.int .i64 fu)).setCell ⟨w7.heap.size, 1, none⟩ (.int .i64 fl)).setCell ⟨w7.heap.size, 2, none⟩ (.slice pg qs.length kg)) := (((Btw.refl w7.heap.size (w7.heap.size + 1) w10).setCell (p := ⟨w7.heap.size, 0, none⟩) (Nat.le_refl _) (Nat.lt_succ_self _) _).setCell (p := ⟨w7.heap.size, 1, none⟩) (Nat.le_refl _) (Nat.lt_succ_self _) _).setCell (p := ⟨w7.heap.size, 2, none⟩) (Nat.le_refl _) (Nat.lt_succ_self _) _
        generalize ((w10.setCell ⟨w7.heap.size, 0, none⟩ (.int .i64 fu)).setCell ⟨w7.heap.size, 1, none⟩ (.int .i64 fl)).setCell ⟨w7.heap.size, 2, none⟩ (.slice pg qs.length kg) = w11 at hkb hm ⊢
        have HZ11 : Hid (w10.heap.size ≤ w11.heap.size) := Lib.hid hm.size
        have HB11 : Hid (Below w.heap.size w w11) := Lib.hid (HB10.out.trans (hm.below.mono (by have := HZ1.out; have := HZ2.out; have := HZ3.out; have := HZ4.out; have := HZ5.out; have := HZ6.out; have := HZ7.out; have := HZ8.out; have := HZ9.out; have := HZ10.out; have := HB0.out.size; omega)))
        have HRf011 := Lib.hid (HRf00.out.below HB11.out (Nat.le_refl _))
        have HKa011 := Lib.hid ((hm.block _ (by have := lt_of_block HKa010.out; have := HZ1.out; have := HZ2.out; have := HZ3.out; have := HZ4.out; have := HZ5.out; have := HZ6.out; have := HZ7.out; have := HZ8.out; have := HZ9.out; have := HZ10.out; omega)).trans HKa010.out)
        have HKa111 := Lib.hid ((hm.block _ (by have := lt_of_block HKa110.out; have := HZ1.out; have := HZ2.out; have := HZ3.out; have := HZ4.out; have := HZ5.out; have := HZ6.out; have := HZ7.out; have := HZ8.out; have := HZ9.out; have := HZ10.out; omega)).trans HKa110.out)
        have HKw011 := Lib.hid ((hm.block _ (by have := lt_of_block HKw010.out; have := HZ1.out; have := HZ2.out; have := HZ3.out; have := HZ4.out; have := HZ5.out; have := HZ6.out; have := HZ7.out; have := HZ8.out; have := HZ9.out; have := HZ10.out; omega)).trans HKw010.out)
        have HOw11 := Lib.hid (HOw10.out.btw hm (by have := HZ1.out; have := HZ2.out; have := HZ3.out; have := HZ4.out; have := HZ5.out; have := HZ6.out; have := HZ7.out; have := HZ8.out; have := HZ9.out; have := HZ10.out; omega))
        have HOx011 := Lib.hid (HOx010.out.btw hm (by have := HZ1.out; have := HZ2.out; have := HZ3.out; have := HZ4.out; have := HZ5.out; have := HZ6.out; have := HZ7.out; have := HZ8.out; have := HZ9.out; have := HZ10.out; omega))
        have HKx011 := Lib.hid ((hm.block _ (by have := lt_of_block HKx010.out; have := HZ1.out; have := HZ2.out; have := HZ3.out; have := HZ4.out; have := HZ5.out; have := HZ6.out; have := HZ7.out; have := HZ8.out; have := HZ9.out; have := HZ10.out; omega)).trans HKx010.out)
        have HOg11 := Lib.hid (HOg10.out.btw hm (by have := HZ1.out; have := HZ2.out; have := HZ3.out; have := HZ4.out; have := HZ5.out; have := HZ6.out; have := HZ7.out; have := HZ8.out; have := HZ9.out; have := HZ10.out; omega))
        have HBs6_11 : Hid (Below w6.heap.size w6 w11) := Lib.hid (HBs6_10.out.trans (hm.below.mono (by have := HZ1.out; have := HZ2.out; have := HZ3.out; have := HZ4.out; have := HZ5.out; have := HZ6.out; have := HZ7.out; have := HZ8.out; have := HZ9.out; have := HZ10.out; omega)))
        clear hm
        have HKg011 := Lib.hid (hkb)
        clear hkb
        clear ca00 ca01 ca02 fa00 fa01 fa02 lta0 ca10 ca11 ca12 fa10 fa11 fa12 lta1 cw00 cw01 cw02 fw00 fw01 fw02 ltw0 cx00 cx01 cx02 fx00 fx01 fx02 ltx0 cg00 cg01 cg02 fg00 fg01 fg02 ltg0
        have lta0 := lt_of_block HKa011.out
        obtain ⟨ca00, ca01, ca02, fa00, fa01, fa02⟩ := cell3 HKa011.out
        have lta1 := lt_of_block HKa111.out
        obtain ⟨ca10, ca11, ca12, fa10, fa11, fa12⟩ := cell3 HKa111.out
        have ltw0 := lt_of_block HKw011.out
        obtain ⟨cw00, cw01, cw02, fw00, fw01, fw02⟩ := cell3 HKw011.out
        have ltx0 := lt_of_block HKx011.out
        obtain ⟨cx00, cx01, cx02, fx00, fx01, fx02⟩ := cell3 HKx011.out
        have ltg0 := lt_of_block HKg011.out
        obtain ⟨cg00, cg01, cg02, fg00, fg01, fg02⟩ := cell3 HKg011.out
        refine hK.out _ _ (⟨cx00, cx01, cx02, ca10, ca11, ca12⟩) (fun hHeld => ?_)
        clear hK K
        try simp only [Act.put]
        refine take1 (i := 9) (v := ?v32) (some 10) rfl rfl (by kernel_rfl) (by kernel_rfl) (by kernel_rfl) (fun _ _ _ h => h) (Or.inl ⟨by rfl, ?y32⟩) (by assumption) ?r32
        case y32 => (intro w hSw; (try dsimp only at hSw); go_simp; (first | done | with_reducible rfl))
        try simp only [Act.put, List.setIfInBounds_toArray, List.set_cons_zero, List.set_cons_succ]
        refine wpAnyH_done (by kernel_rfl) ?_ _
        go_wp2_with fail
        go_meet
        exact ⟨w7.heap.size, pg, kg, _, _, rfl, rfl, HKg011.out, HOg11.out, by have := HZ1.out; have := HZ2.out; have := HZ3.out; have := HZ4.out; have := HZ5.out; have := HZ6.out; have := HZ7.out; have := HZ8.out; have := HZ9.out; have := HZ10.out; have := HZ11.out;  omega, by have := HZ1.out; have := HZ2.out; have := HZ3.out; have := HZ4.out; have := HZ5.out; have := HZ6.out; have := HZ7.out; have := HZ8.out; have := HZ9.out; have := HZ10.out; have := HZ11.out;  omega, by have := HZ1.out; have := HZ2.out; have := HZ3.out; have := HZ4.out; have := HZ5.out; have := HZ6.out; have := HZ7.out; have := HZ8.out; have := HZ9.out; have := HZ10.out; have := HZ11.out;  omega, by have := HZ1.out; have := HZ2.out; have := HZ3.out; have := HZ4.out; have := HZ5.out; have := HZ6.out; have := HZ7.out; have := HZ8.out; have := HZ9.out; have := HZ10.out; have := HZ11.out;  omega, by have := HZ1.out; have := HZ2.out; have := HZ3.out; have := HZ4.out; have := HZ5.out; have := HZ6.out; have := HZ7.out; have := HZ8.out; have := HZ9.out; have := HZ10.out; have := HZ11.out;  omega, HBs6_11.out⟩
    case rest =>
      obtain ⟨bg, pg, kg, log, hig, rfl, rfl, hkq, hoq, hl1g, hl2g, hl3g, hl4g, hl5g, hb⟩ := hcut
      rename World => w7
      have HB7 : Hid (Below w.heap.size w w7) := Lib.hid (HB6.out.trans (hb.mono HB6.out.size))
      have HZ7 : Hid (w6.heap.size ≤ w7.heap.size) := Lib.hid hb.size
      have HRf07 := Lib.hid (HRf00.out.below HB7.out (Nat.le_refl _))
      have HKa07 := Lib.hid ((hb.block _ (lt_of_block HKa06.out)).trans HKa06.out)
      have HKa17 := Lib.hid ((hb.block _ (lt_of_block HKa16.out)).trans HKa16.out)
      have HKw07 := Lib.hid ((hb.block _ (lt_of_block HKw06.out)).trans HKw06.out)
      have HOw7 := Lib.hid (HOw6.out.next hb)
      have HOx07 := Lib.hid (HOx06.out.next hb)
      have HKx07 := Lib.hid ((hb.block _ (lt_of_block HKx06.out)).trans HKx06.out)
      clear hb
      have hltg := lt_of_block hkq
      have HKg07 := Lib.hid (hkq)
      have HOg7 := Lib.hid (hoq)
      clear hkq hoq
      clear ca00 ca01 ca02 fa00 fa01 fa02 lta0 ca10 ca11 ca12 fa10 fa11 fa12 lta1 cw00 cw01 cw02 fw00 fw01 fw02 ltw0 cx00 cx01 cx02 fx00 fx01 fx02 ltx0
      have lta0 := lt_of_block HKa07.out
      obtain ⟨ca00, ca01, ca02, fa00, fa01, fa02⟩ := cell3 HKa07.out
      have lta1 := lt_of_block HKa17.out
      obtain ⟨ca10, ca11, ca12, fa10, fa11, fa12⟩ := cell3 HKa17.out
      have ltw0 := lt_of_block HKw07.out
      obtain ⟨cw00, cw01, cw02, fw00, fw01, fw02⟩ := cell3 HKw07.out
      have ltx0 := lt_of_block HKx07.out
      obtain ⟨cx00, cx01, cx02, fx00, fx01, fx02⟩ := cell3 HKx07.out
      have ltg0 := lt_of_block HKg07.out
      obtain ⟨cg00, cg01, cg02, fg00, fg01, fg02⟩ := cell3 HKg07.out
      go_wp2_with fail
      refine (eqFrame_yes fu fl _ _ qs _ (RodsR.of_own HOg7.out.1) (RodsR.of_own HOw7.out.1)).mono ?_
      rintro e w8 ⟨rfl, hb⟩
      have HB8 : Hid (Below w.heap.size w w8) := Lib.hid (HB7.out.trans (hb.mono HB7.out.size))
      have HZ8 : Hid (w7.heap.size ≤ w8.heap.size) := Lib.hid hb.size
      have HRf08 := Lib.hid (HRf00.out.below HB8.out (Nat.le_refl _))
      have HKa08 := Lib.hid ((hb.block _ (lt_of_block HKa07.out)).trans HKa07.out)
      have HKa18 := Lib.hid ((hb.block _ (lt_of_block HKa17.out)).trans HKa17.out)
      have HKw08 := Lib.hid ((hb.block _ (lt_of_block HKw07.out)).trans HKw07.out)
      have HOw8 := Lib.hid (HOw7.out.next hb)
      have HOx08 := Lib.hid (HOx07.out.next hb)
      have HKx08 := Lib.hid ((hb.block _ (lt_of_block HKx07.out)).trans HKx07.out)
      have HKg08 := Lib.hid ((hb.block _ (lt_of_block HKg07.out)).trans HKg07.out)
      have HOg8 := Lib.hid (HOg7.out.next hb)
      clear hb
      clear ca00 ca01 ca02 fa00 fa01 fa02 lta0 ca10 ca11 ca12 fa10 fa11 fa12 lta1 cw00 cw01 cw02 fw00 fw01 fw02 ltw0 cx00 cx01 cx02 fx00 fx01 fx02 ltx0 cg00 cg01 cg02 fg00 fg01 fg02 ltg0
      have lta0 := lt_of_block HKa08.out
      obtain ⟨ca00, ca01, ca02, fa00, fa01, fa02⟩ := cell3 HKa08.out
      have lta1 := lt_of_block HKa18.out
      obtain ⟨ca10, ca11, ca12, fa10, fa11, fa12⟩ := cell3 HKa18.out
      have ltw0 := lt_of_block HKw08.out
      obtain ⟨cw00, cw01, cw02, fw00, fw01, fw02⟩ := cell3 HKw08.out
      have ltx0 := lt_of_block HKx08.out
      obtain ⟨cx00, cx01, cx02, fx00, fx01, fx02⟩ := cell3 HKx08.out
      have ltg0 := lt_of_block HKg08.out
      obtain ⟨cg00, cg01, cg02, fg00, fg01, fg02⟩ := cell3 HKg08.out
      go_wp2_with fail
      clear ca00 ca01 ca02 fa00 fa01 fa02 lta0 ca10 ca11 ca12 fa10 fa11 fa12 lta1 cw00 cw01 cw02 fw00 fw01 fw02 ltw0 cx00 cx01 cx02 fx00 fx01 fx02 ltx0 cg00 cg01 cg02 fg00 fg01 fg02 ltg0
      have lta0 := lt_of_block HKa08.out
      obtain ⟨ca00, ca01, ca02, fa00, fa01, fa02⟩ := cell3 HKa08.out
      have lta1 := lt_of_block HKa18.out
      obtain ⟨ca10, ca11, ca12, fa10, fa11, fa12⟩ := cell3 HKa18.out
      have ltw0 := lt_of_block HKw08.out
      obtain ⟨cw00, cw01, cw02, fw00, fw01, fw02⟩ := cell3 HKw08.out
      have ltx0 := lt_of_block HKx08.out
      obtain ⟨cx00, cx01, cx02, fx00, fx01, fx02⟩ := cell3 HKx08.out
      have ltg0 := lt_of_block HKg08.out
      obtain ⟨cg00, cg01, cg02, fg00, fg01, fg02⟩ := cell3 HKg08.out
      go_region_held3 (fun w' => w'.cell? ⟨w5.heap.size, 0, none⟩ = some (.int .i64 up0) ∧ w'.cell? ⟨w5.heap.size, 1, none⟩ = some (.int .i64 lo0) ∧ w'.cell? ⟨w5.heap.size, 2, none⟩ = some (.slice px0 rs0.length kx0) ∧ w'.cell? ⟨w.heap.size, 0, none⟩ = some (.int .i64 up0) ∧ w'.cell? ⟨w.heap.size, 1, none⟩ = some (.int .i64 lo0) ∧ w'.cell? ⟨w.heap.size, 2, none⟩ = some (.slice ad0 rs0.length cp0))
        (first
          | go_keep
          | exact ⟨(hq1.cell (p := ⟨w5.heap.size, 0, none⟩) ltx0).trans cx00, (hq1.cell (p := ⟨w5.heap.size, 1, none⟩) ltx0).trans cx01, (hq1.cell (p := ⟨w5.heap.size, 2, none⟩) ltx0).trans cx02, (hq1.cell (p := ⟨w.heap.size, 0, none⟩) lta0).trans ca00, (hq1.cell (p := ⟨w.heap.size, 1, none⟩) lta0).trans ca01, (hq1.cell (p := ⟨w.heap.size, 2, none⟩) lta0).trans ca02⟩)
        (first
          | (go_at_call 17; refine (toFrame_any up0 lo0 _ rs0 _ (HRf00.out.below HB8.out.drew (Nat.le_refl _)) hn0).mono ?_; rintro e w9 ⟨⟨s7, rfl, hown7⟩, hq1⟩; obtain ⟨p7, k7, rfl⟩ := own_form hown7)
          | (go_at_call 19; refine (eqFrame_yes up0 lo0 _ _ rs0 _ (RodsR.below (RodsR.of_own HOx08.out.1) ((Below.refl _ w8).drew.trans hq1) (Nat.le_refl _)) (RodsR.of_own hown7)).mono ?_; rintro e w9 ⟨rfl, hq2⟩; replace hq1 := hq1.trans (hq2.mono hq1.size); clear hq2))
      have hb := (Below.refl _ w8).drew.trans hq1
      clear hq1 hown7
      have HB9 : Hid (Below w.heap.size w w9) := Lib.hid (HB8.out.trans (hb.mono HB8.out.size))
      have HZ9 : Hid (w8.heap.size ≤ w9.heap.size) := Lib.hid hb.size
      have HRf09 := Lib.hid (HRf00.out.below HB9.out (Nat.le_refl _))
      have HKa09 := Lib.hid ((hb.block _ (lt_of_block HKa08.out)).trans HKa08.out)
      have HKa19 := Lib.hid ((hb.block _ (lt_of_block HKa18.out)).trans HKa18.out)
      have HKw09 := Lib.hid ((hb.block _ (lt_of_block HKw08.out)).trans HKw08.out)
      have HOw9 := Lib.hid (HOw8.out.next hb)
      have HOx09 := Lib.hid (HOx08.out.next hb)
      have HKx09 := Lib.hid ((hb.block _ (lt_of_block HKx08.out)).trans HKx08.out)
      have HKg09 := Lib.hid ((hb.block _ (lt_of_block HKg08.out)).trans HKg08.out)
      have HOg9 := Lib.hid (HOg8.out.next hb)
      clear hb
      clear ca00 ca01 ca02 fa00 fa01 fa02 lta0 ca10 ca11 ca12 fa10 fa11 fa12 lta1 cw00 cw01 cw02 fw00 fw01 fw02 ltw0 cx00 cx01 cx02 fx00 fx01 fx02 ltx0 cg00 cg01 cg02 fg00 fg01 fg02 ltg0
      have lta0 := lt_of_block HKa09.out
      obtain ⟨ca00, ca01, ca02, fa00, fa01, fa02⟩ := cell3 HKa09.out
      have lta1 := lt_of_block HKa19.out
      obtain ⟨ca10, ca11, ca12, fa10, fa11, fa12⟩ := cell3 HKa19.out
      have ltw0 := lt_of_block HKw09.out
      obtain ⟨cw00, cw01, cw02, fw00, fw01, fw02⟩ := cell3 HKw09.out
      have ltx0 := lt_of_block HKx09.out
      obtain ⟨cx00, cx01, cx02, fx00, fx01, fx02⟩ := cell3 HKx09.out
      have ltg0 := lt_of_block HKg09.out
      obtain ⟨cg00, cg01, cg02, fg00, fg01, fg02⟩ := cell3 HKg09.out
      go_wp2_with fail
      refine (markFrame_at up0 lo0 _ rs0.length _ _ _ _ HOx09.out hn0 1 (by omega) (by have := HZ1.out; have := HZ2.out; have := HZ3.out; have := HZ4.out; have := HZ5.out; have := HZ6.out; have := HZ7.out; have := HZ8.out; have := HZ9.out;  omega)).mono ?_
      rintro e w10 ⟨rfl, ho, hm⟩
      have HZ10 : Hid (w9.heap.size ≤ w10.heap.size) := Lib.hid hm.size
      have HB10 : Hid (Below w.heap.size w w10) := Lib.hid (HB9.out.trans (hm.below.mono (by have := HZ1.out; have := HZ2.out; have := HZ3.out; have := HZ4.out; have := HZ5.out; have := HZ6.out; have := HZ7.out; have := HZ8.out; have := HZ9.out; have := HB0.out.size; omega)))
      have HRf010 := Lib.hid (HRf00.out.below HB10.out (Nat.le_refl _))
      have HKa010 := Lib.hid ((hm.block _ (by have := lt_of_block HKa09.out; have := HZ1.out; have := HZ2.out; have := HZ3.out; have := HZ4.out; have := HZ5.out; have := HZ6.out; have := HZ7.out; have := HZ8.out; have := HZ9.out; omega)).trans HKa09.out)
      have HKa110 := Lib.hid ((hm.block _ (by have := lt_of_block HKa19.out; have := HZ1.out; have := HZ2.out; have := HZ3.out; have := HZ4.out; have := HZ5.out; have := HZ6.out; have := HZ7.out; have := HZ8.out; have := HZ9.out; omega)).trans HKa19.out)
      have HKw010 := Lib.hid ((hm.block _ (by have := lt_of_block HKw09.out; have := HZ1.out; have := HZ2.out; have := HZ3.out; have := HZ4.out; have := HZ5.out; have := HZ6.out; have := HZ7.out; have := HZ8.out; have := HZ9.out; omega)).trans HKw09.out)
      have HOw10 := Lib.hid (HOw9.out.btw hm (by have := HZ1.out; have := HZ2.out; have := HZ3.out; have := HZ4.out; have := HZ5.out; have := HZ6.out; have := HZ7.out; have := HZ8.out; have := HZ9.out; omega))
      have HKg010 := Lib.hid ((hm.block _ (by have := lt_of_block HKg09.out; have := HZ1.out; have := HZ2.out; have := HZ3.out; have := HZ4.out; have := HZ5.out; have := HZ6.out; have := HZ7.out; have := HZ8.out; have := HZ9.out; omega)).trans HKg09.out)
      have HOg10 := Lib.hid (HOg9.out.btw hm (by have := HZ1.out; have := HZ2.out; have := HZ3.out; have := HZ4.out; have := HZ5.out; have := HZ6.out; have := HZ7.out; have := HZ8.out; have := HZ9.out; omega))
      clear hm
      clear ho
      have hxk : ¬ (1 + 2 * (rs0.length : Int) < 0) := by omega
      clear ca00 ca01 ca02 fa00 fa01 fa02 lta0 ca10 ca11 ca12 fa10 fa11 fa12 lta1 cw00 cw01 cw02 fw00 fw01 fw02 ltw0 cx00 cx01 cx02 fx00 fx01 fx02 ltx0 cg00 cg01 cg02 fg00 fg01 fg02 ltg0
      have lta0 := lt_of_block HKa010.out
      obtain ⟨ca00, ca01, ca02, fa00, fa01, fa02⟩ := cell3 HKa010.out
      have lta1 := lt_of_block HKa110.out
      obtain ⟨ca10, ca11, ca12, fa10, fa11, fa12⟩ := cell3 HKa110.out
      have ltw0 := lt_of_block HKw010.out
      obtain ⟨cw00, cw01, cw02, fw00, fw01, fw02⟩ := cell3 HKw010.out
      have ltg0 := lt_of_block HKg010.out
      obtain ⟨cg00, cg01, cg02, fg00, fg01, fg02⟩ := cell3 HKg010.out
      go_wp2_with fail
      refine (eqFrame_yes fu fl _ _ qs _ (RodsR.of_own HOg10.out.1) (RodsR.of_own HOw10.out.1)).mono ?_
      rintro e w11 ⟨rfl, hb⟩
      have HB11 : Hid (Below w.heap.size w w11) := Lib.hid (HB10.out.trans (hb.mono HB10.out.size))
      have HZ11 : Hid (w10.heap.size ≤ w11.heap.size) := Lib.hid hb.size
      have HRf011 := Lib.hid (HRf00.out.below HB11.out (Nat.le_refl _))
      have HKa011 := Lib.hid ((hb.block _ (lt_of_block HKa010.out)).trans HKa010.out)
      have HKa111 := Lib.hid ((hb.block _ (lt_of_block HKa110.out)).trans HKa110.out)
      have HKw011 := Lib.hid ((hb.block _ (lt_of_block HKw010.out)).trans HKw010.out)
      have HOw11 := Lib.hid (HOw10.out.next hb)
      have HKg011 := Lib.hid ((hb.block _ (lt_of_block HKg010.out)).trans HKg010.out)
      have HOg11 := Lib.hid (HOg10.out.next hb)
      clear hb
      clear ca00 ca01 ca02 fa00 fa01 fa02 lta0 ca10 ca11 ca12 fa10 fa11 fa12 lta1 cw00 cw01 cw02 fw00 fw01 fw02 ltw0 cg00 cg01 cg02 fg00 fg01 fg02 ltg0
      have lta0 := lt_of_block HKa011.out
      obtain ⟨ca00, ca01, ca02, fa00, fa01, fa02⟩ := cell3 HKa011.out
      have lta1 := lt_of_block HKa111.out
      obtain ⟨ca10, ca11, ca12, fa10, fa11, fa12⟩ := cell3 HKa111.out
      have ltw0 := lt_of_block HKw011.out
      obtain ⟨cw00, cw01, cw02, fw00, fw01, fw02⟩ := cell3 HKw011.out
      have ltg0 := lt_of_block HKg011.out
      obtain ⟨cg00, cg01, cg02, fg00, fg01, fg02⟩ := cell3 HKg011.out
      go_wp2_with fail
      refine (markFrame_any fu fl _ qs.length _ _ _ _ HOg11.out (by omega) (by have := HZ1.out; have := HZ2.out; have := HZ3.out; have := HZ4.out; have := HZ5.out; have := HZ6.out; have := HZ7.out; have := HZ8.out; have := HZ9.out; have := HZ10.out; have := HZ11.out;  omega)).mono ?_
      rintro e w12 ⟨rfl, ho, hm⟩
      have HZ12 : Hid (w11.heap.size ≤ w12.heap.size) := Lib.hid hm.size
      have HB12 : Hid (Below w.heap.size w w12) := Lib.hid (HB11.out.trans (hm.below.mono (by have := HZ1.out; have := HZ2.out; have := HZ3.out; have := HZ4.out; have := HZ5.out; have := HZ6.out; have := HZ7.out; have := HZ8.out; have := HZ9.out; have := HZ10.out; have := HZ11.out; have := HB0.out.size; omega)))
      have HRf012 := Lib.hid (HRf00.out.below HB12.out (Nat.le_refl _))
      have HKa012 := Lib.hid ((hm.block _ (by have := lt_of_block HKa011.out; have := HZ1.out; have := HZ2.out; have := HZ3.out; have := HZ4.out; have := HZ5.out; have := HZ6.out; have := HZ7.out; have := HZ8.out; have := HZ9.out; have := HZ10.out; have := HZ11.out; omega)).trans HKa011.out)
      have HKa112 := Lib.hid ((hm.block _ (by have := lt_of_block HKa111.out; have := HZ1.out; have := HZ2.out; have := HZ3.out; have := HZ4.out; have := HZ5.out; have := HZ6.out; have := HZ7.out; have := HZ8.out; have := HZ9.out; have := HZ10.out; have := HZ11.out; omega)).trans HKa111.out)
      have HKw012 := Lib.hid ((hm.block _ (by have := lt_of_block HKw011.out; have := HZ1.out; have := HZ2.out; have := HZ3.out; have := HZ4.out; have := HZ5.out; have := HZ6.out; have := HZ7.out; have := HZ8.out; have := HZ9.out; have := HZ10.out; have := HZ11.out; omega)).trans HKw011.out)
      have HOw12 := Lib.hid (HOw11.out.btw hm (by have := HZ1.out; have := HZ2.out; have := HZ3.out; have := HZ4.out; have := HZ5.out; have := HZ6.out; have := HZ7.out; have := HZ8.out; have := HZ9.out; have := HZ10.out; have := HZ11.out; omega))
      have HKg012 := Lib.hid ((hm.block _ (by have := lt_of_block HKg011.out; have := HZ1.out; have := HZ2.out; have := HZ3.out; have := HZ4.out; have := HZ5.out; have := HZ6.out; have := HZ7.out; have := HZ8.out; have := HZ9.out; have := HZ10.out; have := HZ11.out; omega)).trans HKg011.out)
      clear hm
      have HOg12 := Lib.hid (ho)
      clear ho
      clear ca00 ca01 ca02 fa00 fa01 fa02 lta0 ca10 ca11 ca12 fa10 fa11 fa12 lta1 cw00 cw01 cw02 fw00 fw01 fw02 ltw0 cg00 cg01 cg02 fg00 fg01 fg02 ltg0
      have lta0 := lt_of_block HKa012.out
      obtain ⟨ca00, ca01, ca02, fa00, fa01, fa02⟩ := cell3 HKa012.out
      have lta1 := lt_of_block HKa112.out
      obtain ⟨ca10, ca11, ca12, fa10, fa11, fa12⟩ := cell3 HKa112.out
      have ltw0 := lt_of_block HKw012.out
      obtain ⟨cw00, cw01, cw02, fw00, fw01, fw02⟩ := cell3 HKw012.out
      have ltg0 := lt_of_block HKg012.out
      obtain ⟨cg00, cg01, cg02, fg00, fg01, fg02⟩ := cell3 HKg012.out
      go_wp2_with fail
      refine (heldFrame_any fu fl _ qs.length _ (RowR.of_own HOg12.out.1) (by omega)).mono ?_
      rintro e w13 ⟨rfl, hb⟩
      have HB13 : Hid (Below w.heap.size w w13) := Lib.hid (HB12.out.trans (hb.mono HB12.out.size))
      have HZ13 : Hid (w12.heap.size ≤ w13.heap.size) := Lib.hid hb.size
      have HRf013 := Lib.hid (HRf00.out.below HB13.out (Nat.le_refl _))
      have HKa013 := Lib.hid ((hb.block _ (lt_of_block HKa012.out)).trans HKa012.out)
      have HKa113 := Lib.hid ((hb.block _ (lt_of_block HKa112.out)).trans HKa112.out)
      have HKw013 := Lib.hid ((hb.block _ (lt_of_block HKw012.out)).trans HKw012.out)
      have HOw13 := Lib.hid (HOw12.out.next hb)
      have HKg013 := Lib.hid ((hb.block _ (lt_of_block HKg012.out)).trans HKg012.out)
      have HOg13 := Lib.hid (HOg12.out.next hb)
      clear hb
      clear ca00 ca01 ca02 fa00 fa01 fa02 lta0 ca10 ca11 ca12 fa10 fa11 fa12 lta1 cw00 cw01 cw02 fw00 fw01 fw02 ltw0 cg00 cg01 cg02 fg00 fg01 fg02 ltg0
      have lta0 := lt_of_block HKa013.out
      obtain ⟨ca00, ca01, ca02, fa00, fa01, fa02⟩ := cell3 HKa013.out
      have lta1 := lt_of_block HKa113.out
      obtain ⟨ca10, ca11, ca12, fa10, fa11, fa12⟩ := cell3 HKa113.out
      have ltw0 := lt_of_block HKw013.out
      obtain ⟨cw00, cw01, cw02, fw00, fw01, fw02⟩ := cell3 HKw013.out
      have ltg0 := lt_of_block HKg013.out
      obtain ⟨cg00, cg01, cg02, fg00, fg01, fg02⟩ := cell3 HKg013.out
      go_wp2_with fail
      clear ca00 ca01 ca02 fa00 fa01 fa02 lta0 ca10 ca11 ca12 fa10 fa11 fa12 lta1 cw00 cw01 cw02 fw00 fw01 fw02 ltw0 cg00 cg01 cg02 fg00 fg01 fg02 ltg0
      have lta0 := lt_of_block HKa013.out
      obtain ⟨ca00, ca01, ca02, fa00, fa01, fa02⟩ := cell3 HKa013.out
      have lta1 := lt_of_block HKa113.out
      obtain ⟨ca10, ca11, ca12, fa10, fa11, fa12⟩ := cell3 HKa113.out
      have ltw0 := lt_of_block HKw013.out
      obtain ⟨cw00, cw01, cw02, fw00, fw01, fw02⟩ := cell3 HKw013.out
      have ltg0 := lt_of_block HKg013.out
      obtain ⟨cg00, cg01, cg02, fg00, fg01, fg02⟩ := cell3 HKg013.out
      go_cut [14, 15] from 79 (fun p q wc => ∃ (b : Nat) (pa : Option Addr) (ka lo hi : Nat), p = .pointer (some ⟨b, 0, none⟩) ∧ q = .bool r1 ∧ wc.heap[b]? = some (.cells #[.int .i64 fu, .int .i64 fl, .slice pa qs.length ka] 28 (0, 0)) ∧ Ow lo hi wc 74 2 (.slice pa qs.length ka) qs.length (flat qs) ∧ w13.heap.size ≤ lo ∧ lo ≤ wc.heap.size ∧ hi ≤ wc.heap.size ∧ (b < lo ∨ hi ≤ b) ∧ w13.heap.size ≤ b ∧ Below w13.heap.size w13 wc)
      case first =>
        have HBs13_13 : Hid (Below w13.heap.size w13 w13) := Lib.hid (Below.refl _ _)
        refine wp_region_held_drew (S := (fun w' => w'.cell? ⟨w.heap.size, 0, none⟩ = some (.int .i64 up0) ∧ w'.cell? ⟨w.heap.size, 1, none⟩ = some (.int .i64 lo0) ∧ w'.cell? ⟨w.heap.size, 2, none⟩ = some (.slice ad0 rs0.length cp0) ∧ w'.cell? ⟨w.heap.size + 1, 0, none⟩ = some (.int .i64 q1.rod) ∧ w'.cell? ⟨w.heap.size + 1, 1, none⟩ = some (.int .i64 q1.part) ∧ w'.cell? ⟨w.heap.size + 1, 2, none⟩ = some (.int .i64 q1.amt))) (by kernel_rfl) (⟨ca00, ca01, ca02, ca10, ca11, ca12⟩) (fun hHeld => ?_)
        have hb : Below w13.heap.size w13 w13.drew := (Below.refl _ _).drew
        generalize w13.drew = w14 at hb hHeld ⊢
        have HB14 : Hid (Below w.heap.size w w14) := Lib.hid (HB13.out.trans (hb.mono HB13.out.size))
        have HZ14 : Hid (w13.heap.size ≤ w14.heap.size) := Lib.hid hb.size
        have HRf014 := Lib.hid (HRf00.out.below HB14.out (Nat.le_refl _))
        have HKa014 := Lib.hid ((hb.block _ (lt_of_block HKa013.out)).trans HKa013.out)
        have HKa114 := Lib.hid ((hb.block _ (lt_of_block HKa113.out)).trans HKa113.out)
        have HKw014 := Lib.hid ((hb.block _ (lt_of_block HKw013.out)).trans HKw013.out)
        have HOw14 := Lib.hid (HOw13.out.next hb)
        have HKg014 := Lib.hid ((hb.block _ (lt_of_block HKg013.out)).trans HKg013.out)
        have HOg14 := Lib.hid (HOg13.out.next hb)
        have HBs13_14 : Hid (Below w13.heap.size w13 w14) := Lib.hid (HBs13_13.out.trans (hb.mono HBs13_13.out.size))
        clear hb
        clear ca00 ca01 ca02 fa00 fa01 fa02 lta0 ca10 ca11 ca12 fa10 fa11 fa12 lta1 cw00 cw01 cw02 fw00 fw01 fw02 ltw0 cg00 cg01 cg02 fg00 fg01 fg02 ltg0
        have lta0 := lt_of_block HKa014.out
        obtain ⟨ca00, ca01, ca02, fa00, fa01, fa02⟩ := cell3 HKa014.out
        have lta1 := lt_of_block HKa114.out
        obtain ⟨ca10, ca11, ca12, fa10, fa11, fa12⟩ := cell3 HKa114.out
        have ltw0 := lt_of_block HKw014.out
        obtain ⟨cw00, cw01, cw02, fw00, fw01, fw02⟩ := cell3 HKw014.out
        have ltg0 := lt_of_block HKg014.out
        obtain ⟨cg00, cg01, cg02, fg00, fg01, fg02⟩ := cell3 HKg014.out
        refine take1 (i := 0) (v := ?v33) (some 80) rfl rfl (by kernel_rfl) (by kernel_rfl) (by kernel_rfl) (fun _ _ _ h => h) (Or.inl ⟨by rfl, ?y33⟩) (by assumption) ?r33
        case y33 => (intro w hSw; (try dsimp only at hSw); go_simp; (first | done | with_reducible rfl))
        try simp only [Act.put, List.setIfInBounds_toArray, List.set_cons_zero, List.set_cons_succ]
        refine take1 (i := 2) (v := ?v34) (some 82) rfl rfl (by kernel_rfl) (by kernel_rfl) (by kernel_rfl) (fun _ _ _ h => h) (Or.inl ⟨by rfl, ?y34⟩) (by assumption) ?r34
        case y34 => (intro w hSw; (try dsimp only at hSw); go_simp; (first | done | with_reducible rfl))
        try simp only [Act.put, List.setIfInBounds_toArray, List.set_cons_zero, List.set_cons_succ]
        refine wpAnyH_ready (rs := [1, 8]) (by kernel_rfl) (by simp) ?_
        refine AllReadyH.cons rfl (fun K hK => ?_) (AllReadyH.cons rfl (fun K hK => ?_) AllReadyH.nil)
        · go_simp
          go_at_call 17
          refine (toFrame_any up0 lo0 _ rs0 _ HRf014.out hn0).mono ?_
          rintro e w15 ⟨⟨sz0, rfl, ho⟩, hb⟩
          have HB15 : Hid (Below w.heap.size w w15) := Lib.hid (HB14.out.trans (hb.mono HB14.out.size))
          have HZ15 : Hid (w14.heap.size ≤ w15.heap.size) := Lib.hid hb.size
          have HRf015 := Lib.hid (HRf00.out.below HB15.out (Nat.le_refl _))
          have HKa015 := Lib.hid ((hb.block _ (lt_of_block HKa014.out)).trans HKa014.out)
          have HKa115 := Lib.hid ((hb.block _ (lt_of_block HKa114.out)).trans HKa114.out)
          have HKw015 := Lib.hid ((hb.block _ (lt_of_block HKw014.out)).trans HKw014.out)
          have HOw15 := Lib.hid (HOw14.out.next hb)
          have HKg015 := Lib.hid ((hb.block _ (lt_of_block HKg014.out)).trans HKg014.out)
          have HOg15 := Lib.hid (HOg14.out.next hb)
          have HBs13_15 : Hid (Below w13.heap.size w13 w15) := Lib.hid (HBs13_14.out.trans (hb.mono HBs13_14.out.size))
          clear hb
          obtain ⟨pz0, kz0, rfl⟩ := own_form ho
          have HRz015 := Lib.hid ((RodsR.of_own ho))
          have HBs15_15 : Hid (Below w15.heap.size w15 w15) := Lib.hid (Below.refl _ _)
          clear ho
          clear ca00 ca01 ca02 fa00 fa01 fa02 lta0 ca10 ca11 ca12 fa10 fa11 fa12 lta1 cw00 cw01 cw02 fw00 fw01 fw02 ltw0 cg00 cg01 cg02 fg00 fg01 fg02 ltg0
          have lta0 := lt_of_block HKa015.out
          obtain ⟨ca00, ca01, ca02, fa00, fa01, fa02⟩ := cell3 HKa015.out
          have lta1 := lt_of_block HKa115.out
          obtain ⟨ca10, ca11, ca12, fa10, fa11, fa12⟩ := cell3 HKa115.out
          have ltw0 := lt_of_block HKw015.out
          obtain ⟨cw00, cw01, cw02, fw00, fw01, fw02⟩ := cell3 HKw015.out
          have ltg0 := lt_of_block HKg015.out
          obtain ⟨cg00, cg01, cg02, fg00, fg01, fg02⟩ := cell3 HKg015.out
          try go_simp
          refine hK.out _ _ (⟨ca00, ca01, ca02, ca10, ca11, ca12⟩) (fun hHeld => ?_)
          clear hK K
          try simp only [Act.put, List.setIfInBounds_toArray, List.set_cons_zero, List.set_cons_succ]
          refine wpAnyH_ready (rs := [3, 8]) (by kernel_rfl) (by simp) ?_
          refine AllReadyH.cons rfl (fun K hK => ?_) (AllReadyH.cons rfl (fun K hK => ?_) AllReadyH.nil)
          · go_simp
            go_at_call 25
            refine (toBeadMove_any q1 _).mono ?_
            rintro e w16 ⟨rfl, hb⟩
            have HB16 : Hid (Below w.heap.size w w16) := Lib.hid (HB15.out.trans (hb.mono HB15.out.size))
            have HZ16 : Hid (w15.heap.size ≤ w16.heap.size) := Lib.hid hb.size
            have HRf016 := Lib.hid (HRf00.out.below HB16.out (Nat.le_refl _))
            have HKa016 := Lib.hid ((hb.block _ (lt_of_block HKa015.out)).trans HKa015.out)
            have HKa116 := Lib.hid ((hb.block _ (lt_of_block HKa115.out)).trans HKa115.out)
            have HKw016 := Lib.hid ((hb.block _ (lt_of_block HKw015.out)).trans HKw015.out)
            have HOw16 := Lib.hid (HOw15.out.next hb)
            have HKg016 := Lib.hid ((hb.block _ (lt_of_block HKg015.out)).trans HKg015.out)
            have HOg16 := Lib.hid (HOg15.out.next hb)
            have HRz016 := Lib.hid (HRz015.out.below hb (Nat.le_refl _))
            have HBs13_16 : Hid (Below w13.heap.size w13 w16) := Lib.hid (HBs13_15.out.trans (hb.mono HBs13_15.out.size))
            have HBs15_16 : Hid (Below w15.heap.size w15 w16) := Lib.hid (HBs15_15.out.trans (hb.mono HBs15_15.out.size))
            clear hb
            clear ca00 ca01 ca02 fa00 fa01 fa02 lta0 ca10 ca11 ca12 fa10 fa11 fa12 lta1 cw00 cw01 cw02 fw00 fw01 fw02 ltw0 cg00 cg01 cg02 fg00 fg01 fg02 ltg0
            have lta0 := lt_of_block HKa016.out
            obtain ⟨ca00, ca01, ca02, fa00, fa01, fa02⟩ := cell3 HKa016.out
            have lta1 := lt_of_block HKa116.out
            obtain ⟨ca10, ca11, ca12, fa10, fa11, fa12⟩ := cell3 HKa116.out
            have ltw0 := lt_of_block HKw016.out
            obtain ⟨cw00, cw01, cw02, fw00, fw01, fw02⟩ := cell3 HKw016.out
            have ltg0 := lt_of_block HKg016.out
            obtain ⟨cg00, cg01, cg02, fg00, fg01, fg02⟩ := cell3 HKg016.out
            try go_simp
            refine hK.out _ _ (⟨ca00, ca01, ca02, ca10, ca11, ca12⟩) (fun hHeld => ?_)
            clear hK K
            try simp only [Act.put, List.setIfInBounds_toArray, List.set_cons_zero, List.set_cons_succ]
            refine wpAnyH_ready (rs := [4, 8]) (by kernel_rfl) (by simp) ?_
            refine AllReadyH.cons rfl (fun K hK => ?_) (AllReadyH.cons rfl (fun K hK => ?_) AllReadyH.nil)
            · go_simp
              go_at_call 28
              refine (HI.out hn0 _ _ HRz016.out).mono ?_
              rintro e w17 ⟨⟨sh, rfl, ho⟩, hb⟩
              have HB17 : Hid (Below w.heap.size w w17) := Lib.hid (HB16.out.trans (hb.mono HB16.out.size))
              have HZ17 : Hid (w16.heap.size ≤ w17.heap.size) := Lib.hid hb.size
              have HRf017 := Lib.hid (HRf00.out.below HB17.out (Nat.le_refl _))
              have HKa017 := Lib.hid ((hb.block _ (lt_of_block HKa016.out)).trans HKa016.out)
              have HKa117 := Lib.hid ((hb.block _ (lt_of_block HKa116.out)).trans HKa116.out)
              have HKw017 := Lib.hid ((hb.block _ (lt_of_block HKw016.out)).trans HKw016.out)
              have HOw17 := Lib.hid (HOw16.out.next hb)
              have HKg017 := Lib.hid ((hb.block _ (lt_of_block HKg016.out)).trans HKg016.out)
              have HOg17 := Lib.hid (HOg16.out.next hb)
              have HRz017 := Lib.hid (HRz016.out.below hb (Nat.le_refl _))
              have HBs13_17 : Hid (Below w13.heap.size w13 w17) := Lib.hid (HBs13_16.out.trans (hb.mono HBs13_16.out.size))
              have HBs15_17 : Hid (Below w15.heap.size w15 w17) := Lib.hid (HBs15_16.out.trans (hb.mono HBs15_16.out.size))
              clear hb
              obtain ⟨ph, kh, rfl⟩ := own_form ho
              have HOh17 := Lib.hid (Ow.mk' ho)
              clear ho
              clear ca00 ca01 ca02 fa00 fa01 fa02 lta0 ca10 ca11 ca12 fa10 fa11 fa12 lta1 cw00 cw01 cw02 fw00 fw01 fw02 ltw0 cg00 cg01 cg02 fg00 fg01 fg02 ltg0
              have lta0 := lt_of_block HKa017.out
              obtain ⟨ca00, ca01, ca02, fa00, fa01, fa02⟩ := cell3 HKa017.out
              have lta1 := lt_of_block HKa117.out
              obtain ⟨ca10, ca11, ca12, fa10, fa11, fa12⟩ := cell3 HKa117.out
              have ltw0 := lt_of_block HKw017.out
              obtain ⟨cw00, cw01, cw02, fw00, fw01, fw02⟩ := cell3 HKw017.out
              have ltg0 := lt_of_block HKg017.out
              obtain ⟨cg00, cg01, cg02, fg00, fg01, fg02⟩ := cell3 HKg017.out
              try go_simp
              refine hK.out _ _ (⟨ca00, ca01, ca02, ca10, ca11, ca12⟩) (fun hHeld => ?_)
              clear hK K
              try simp only [Act.put, List.setIfInBounds_toArray, List.set_cons_zero, List.set_cons_succ]
              refine take1 (i := 5) (v := ?v35) (some 79) rfl rfl (by kernel_rfl) (by kernel_rfl) (by kernel_rfl) (fun _ _ _ h => h) (Or.inl ⟨by rfl, ?y35⟩) (by assumption) ?r35
              case y35 => (intro w hSw; (try dsimp only at hSw); go_simp; (first | done | with_reducible rfl))
              try simp only [Act.put, List.setIfInBounds_toArray, List.set_cons_zero, List.set_cons_succ]
              refine take1 (i := 6) (v := ?v36) (some 85) rfl rfl (by kernel_rfl) (by kernel_rfl) (by kernel_rfl) (fun _ _ _ h => h) (Or.inl ⟨by rfl, ?y36⟩) (by assumption) ?r36
              case y36 => (intro w hSw; (try dsimp only at hSw); go_simp; (first | done | with_reducible rfl))
              try simp only [Act.put, List.setIfInBounds_toArray, List.set_cons_zero, List.set_cons_succ]
              refine take1 (i := 7) (v := ?v37) (some 86) rfl rfl (by kernel_rfl) (by kernel_rfl) (by kernel_rfl) (fun _ _ _ h => h) (Or.inl ⟨by rfl, ?y37⟩) (by assumption) ?r37
              case y37 => (intro w hSw; (try dsimp only at hSw); go_simp; (first | done | with_reducible rfl))
              try simp only [Act.put, List.setIfInBounds_toArray, List.set_cons_zero, List.set_cons_succ]
              refine wpAnyH_ready (rs := [8]) (by kernel_rfl) (by simp) ?_
              refine AllReadyH.cons rfl (fun K hK => ?_) AllReadyH.nil
              go_simp
              have hb : Below w17.heap.size w17 (w17.alloc (.cells #[.int .i64 0, .int .i64 0, .slice none 0 0] 28)) := (Below.refl _ _).alloc (Nat.le_refl _) _
              have hk : (w17.alloc (.cells #[.int .i64 0, .int .i64 0, .slice none 0 0] 28)).heap[w17.heap.size]? = some (.cells #[.int .i64 0, .int .i64 0, .slice none 0 0] 28 (0, 0)) := alloc_at rfl
              have hz : (w17.alloc (.cells #[.int .i64 0, .int .i64 0, .slice none 0 0] 28)).heap.size = w17.heap.size + 1 := by simp
              generalize w17.alloc (.cells #[.int .i64 0, .int .i64 0, .slice none 0 0] 28) = w18 at hb hk hz ⊢
              have HB18 : Hid (Below w.heap.size w w18) := Lib.hid (HB17.out.trans (hb.mono HB17.out.size))
              have HZ18 : Hid (w17.heap.size ≤ w18.heap.size) := Lib.hid hb.size
              have HRf018 := Lib.hid (HRf00.out.below HB18.out (Nat.le_refl _))
              have HKa018 := Lib.hid ((hb.block _ (lt_of_block HKa017.out)).trans HKa017.out)
              have HKa118 := Lib.hid ((hb.block _ (lt_of_block HKa117.out)).trans HKa117.out)
              have HKw018 := Lib.hid ((hb.block _ (lt_of_block HKw017.out)).trans HKw017.out)
              have HOw18 := Lib.hid (HOw17.out.next hb)
              have HKg018 := Lib.hid ((hb.block _ (lt_of_block HKg017.out)).trans HKg017.out)
              have HOg18 := Lib.hid (HOg17.out.next hb)
              have HRz018 := Lib.hid (HRz017.out.below hb (Nat.le_refl _))
              have HOh18 := Lib.hid (HOh17.out.next hb)
              have HBs13_18 : Hid (Below w13.heap.size w13 w18) := Lib.hid (HBs13_17.out.trans (hb.mono HBs13_17.out.size))
              have HBs15_18 : Hid (Below w15.heap.size w15 w18) := Lib.hid (HBs15_17.out.trans (hb.mono HBs15_17.out.size))
              have HKh018 := Lib.hid hk
              replace HZ18 : Hid (w17.heap.size < w18.heap.size) := Lib.hid (by omega)
              have HE18 := Lib.hid hz
              clear hb hk hz
              clear ca00 ca01 ca02 fa00 fa01 fa02 lta0 ca10 ca11 ca12 fa10 fa11 fa12 lta1 cw00 cw01 cw02 fw00 fw01 fw02 ltw0 cg00 cg01 cg02 fg00 fg01 fg02 ltg0
              have lta0 := lt_of_block HKa018.out
              obtain ⟨ca00, ca01, ca02, fa00, fa01, fa02⟩ := cell3 HKa018.out
              have lta1 := lt_of_block HKa118.out
              obtain ⟨ca10, ca11, ca12, fa10, fa11, fa12⟩ := cell3 HKa118.out
              have ltw0 := lt_of_block HKw018.out
              obtain ⟨cw00, cw01, cw02, fw00, fw01, fw02⟩ := cell3 HKw018.out
              have ltg0 := lt_of_block HKg018.out
              obtain ⟨cg00, cg01, cg02, fg00, fg01, fg02⟩ := cell3 HKg018.out
              have lth0 := lt_of_block HKh018.out
              obtain ⟨ch00, ch01, ch02, fh00, fh01, fh02⟩ := cell3 HKh018.out
              refine hK.out _ _ (⟨ca00, ca01, ca02, ca10, ca11, ca12⟩) (fun hHeld => ?_)
              clear hK K
              try simp only [Act.put, List.setIfInBounds_toArray, List.set_cons_zero, List.set_cons_succ]
              refine wpAnyH_ready (rs := [9]) (by kernel_rfl) (by simp) ?_
              refine AllReadyH.cons rfl (fun K hK => ?_) AllReadyH.nil
              go_simp
              have hkb := box3_set' HKh018.out (.int .i64 fu) (.int .i64 fl) (.slice ph qs.length kh)
              have hm : Btw w17.heap.size (w17.heap.size + 1) w18 (((w18.setCell ⟨w17.heap.size, 0, none⟩ (.int .i64 fu)).setCell ⟨w17.heap.size, 1, none⟩ (.int .i64 fl)).setCell ⟨w17.heap.size, 2, none⟩ (.slice ph qs.length kh)) := (((Btw.refl w17.heap.size (w17.heap.size + 1) w18).setCell (p := ⟨w17.heap.size, 0, none⟩) (Nat.le_refl _) (Nat.lt_succ_self _) _).setCell (p := ⟨w17.heap.size, 1, none⟩) (Nat.le_refl _) (Nat.lt_succ_self _) _).setCell (p := ⟨w17.heap.size, 2, none⟩) (Nat.le_refl _) (Nat.lt_succ_self _) _
              generalize ((w18.setCell ⟨w17.heap.size, 0, none⟩ (.int .i64 fu)).setCell ⟨w17.heap.size, 1, none⟩ (.int .i64 fl)).setCell ⟨w17.heap.size, 2, none⟩ (.slice ph qs.length kh) = w19 at hkb hm ⊢
              have HZ19 : Hid (w18.heap.size ≤ w19.heap.size) := Lib.hid hm.size
              have HB19 : Hid (Below w.heap.size w w19) := Lib.hid (HB18.out.trans (hm.below.mono (by have := HZ1.out; have := HZ2.out; have := HZ3.out; have := HZ4.out; have := HZ5.out; have := HZ6.out; have := HZ7.out; have := HZ8.out; have := HZ9.out; have := HZ10.out; have := HZ11.out; have := HZ12.out; have := HZ13.out; have := HZ14.out; have := HZ15.out; have := HZ16.out; have := HZ17.out; have := HZ18.out; have := HB0.out.size; omega)))
              have HRf019 := Lib.hid (HRf00.out.below HB19.out (Nat.le_refl _))
              have HKa019 := Lib.hid ((hm.block _ (by have := lt_of_block HKa018.out; have := HZ1.out; have := HZ2.out; have := HZ3.out; have := HZ4.out; have := HZ5.out; have := HZ6.out; have := HZ7.out; have := HZ8.out; have := HZ9.out; have := HZ10.out; have := HZ11.out; have := HZ12.out; have := HZ13.out; have := HZ14.out; have := HZ15.out; have := HZ16.out; have := HZ17.out; have := HZ18.out; omega)).trans HKa018.out)
              have HKa119 := Lib.hid ((hm.block _ (by have := lt_of_block HKa118.out; have := HZ1.out; have := HZ2.out; have := HZ3.out; have := HZ4.out; have := HZ5.out; have := HZ6.out; have := HZ7.out; have := HZ8.out; have := HZ9.out; have := HZ10.out; have := HZ11.out; have := HZ12.out; have := HZ13.out; have := HZ14.out; have := HZ15.out; have := HZ16.out; have := HZ17.out; have := HZ18.out; omega)).trans HKa118.out)
              have HKw019 := Lib.hid ((hm.block _ (by have := lt_of_block HKw018.out; have := HZ1.out; have := HZ2.out; have := HZ3.out; have := HZ4.out; have := HZ5.out; have := HZ6.out; have := HZ7.out; have := HZ8.out; have := HZ9.out; have := HZ10.out; have := HZ11.out; have := HZ12.out; have := HZ13.out; have := HZ14.out; have := HZ15.out; have := HZ16.out; have := HZ17.out; have := HZ18.out; omega)).trans HKw018.out)
              have HOw19 := Lib.hid (HOw18.out.btw hm (by have := HZ1.out; have := HZ2.out; have := HZ3.out; have := HZ4.out; have := HZ5.out; have := HZ6.out; have := HZ7.out; have := HZ8.out; have := HZ9.out; have := HZ10.out; have := HZ11.out; have := HZ12.out; have := HZ13.out; have := HZ14.out; have := HZ15.out; have := HZ16.out; have := HZ17.out; have := HZ18.out; omega))
              have HKg019 := Lib.hid ((hm.block _ (by have := lt_of_block HKg018.out; have := HZ1.out; have := HZ2.out; have := HZ3.out; have := HZ4.out; have := HZ5.out; have := HZ6.out; have := HZ7.out; have := HZ8.out; have := HZ9.out; have := HZ10.out; have := HZ11.out; have := HZ12.out; have := HZ13.out; have := HZ14.out; have := HZ15.out; have := HZ16.out; have := HZ17.out; have := HZ18.out; omega)).trans HKg018.out)
              have HOg19 := Lib.hid (HOg18.out.btw hm (by have := HZ1.out; have := HZ2.out; have := HZ3.out; have := HZ4.out; have := HZ5.out; have := HZ6.out; have := HZ7.out; have := HZ8.out; have := HZ9.out; have := HZ10.out; have := HZ11.out; have := HZ12.out; have := HZ13.out; have := HZ14.out; have := HZ15.out; have := HZ16.out; have := HZ17.out; have := HZ18.out; omega))
              have HOh19 := Lib.hid (HOh18.out.btw hm (by have := HZ1.out; have := HZ2.out; have := HZ3.out; have := HZ4.out; have := HZ5.out; have := HZ6.out; have := HZ7.out; have := HZ8.out; have := HZ9.out; have := HZ10.out; have := HZ11.out; have := HZ12.out; have := HZ13.out; have := HZ14.out; have := HZ15.out; have := HZ16.out; have := HZ17.out; have := HZ18.out; omega))
              have HBs13_19 : Hid (Below w13.heap.size w13 w19) := Lib.hid (HBs13_18.out.trans (hm.below.mono (by have := HZ1.out; have := HZ2.out; have := HZ3.out; have := HZ4.out; have := HZ5.out; have := HZ6.out; have := HZ7.out; have := HZ8.out; have := HZ9.out; have := HZ10.out; have := HZ11.out; have := HZ12.out; have := HZ13.out; have := HZ14.out; have := HZ15.out; have := HZ16.out; have := HZ17.out; have := HZ18.out; omega)))
              clear hm
              have HKh019 := Lib.hid (hkb)
              clear hkb
              clear ca00 ca01 ca02 fa00 fa01 fa02 lta0 ca10 ca11 ca12 fa10 fa11 fa12 lta1 cw00 cw01 cw02 fw00 fw01 fw02 ltw0 cg00 cg01 cg02 fg00 fg01 fg02 ltg0 ch00 ch01 ch02 fh00 fh01 fh02 lth0
              have lta0 := lt_of_block HKa019.out
              obtain ⟨ca00, ca01, ca02, fa00, fa01, fa02⟩ := cell3 HKa019.out
              have lta1 := lt_of_block HKa119.out
              obtain ⟨ca10, ca11, ca12, fa10, fa11, fa12⟩ := cell3 HKa119.out
              have ltw0 := lt_of_block HKw019.out
              obtain ⟨cw00, cw01, cw02, fw00, fw01, fw02⟩ := cell3 HKw019.out
              have ltg0 := lt_of_block HKg019.out
              obtain ⟨cg00, cg01, cg02, fg00, fg01, fg02⟩ := cell3 HKg019.out
              have lth0 := lt_of_block HKh019.out
              obtain ⟨ch00, ch01, ch02, fh00, fh01, fh02⟩ := cell3 HKh019.out
              refine hK.out _ _ (⟨ca00, ca01, ca02, ca10, ca11, ca12⟩) (fun hHeld => ?_)
              clear hK K
              try simp only [Act.put]
              refine take1 (i := 10) (v := ?v38) (some 15) rfl rfl (by kernel_rfl) (by kernel_rfl) (by kernel_rfl) (fun _ _ _ h => h) (Or.inl ⟨by rfl, ?y38⟩) (by assumption) ?r38
              case y38 => (intro w hSw; (try dsimp only at hSw); go_simp; (first | done | with_reducible rfl))
              try simp only [Act.put, List.setIfInBounds_toArray, List.set_cons_zero, List.set_cons_succ]
              refine wpAnyH_done (by kernel_rfl) ?_ _
              go_wp2_with fail
              go_meet
              exact ⟨w17.heap.size, ph, kh, _, _, rfl, rfl, HKh019.out, HOh19.out, by have := HZ1.out; have := HZ2.out; have := HZ3.out; have := HZ4.out; have := HZ5.out; have := HZ6.out; have := HZ7.out; have := HZ8.out; have := HZ9.out; have := HZ10.out; have := HZ11.out; have := HZ12.out; have := HZ13.out; have := HZ14.out; have := HZ15.out; have := HZ16.out; have := HZ17.out; have := HZ18.out; have := HZ19.out;  omega, by have := HZ1.out; have := HZ2.out; have := HZ3.out; have := HZ4.out; have := HZ5.out; have := HZ6.out; have := HZ7.out; have := HZ8.out; have := HZ9.out; have := HZ10.out; have := HZ11.out; have := HZ12.out; have := HZ13.out; have := HZ14.out; have := HZ15.out; have := HZ16.out; have := HZ17.out; have := HZ18.out; have := HZ19.out;  omega, by have := HZ1.out; have := HZ2.out; have := HZ3.out; have := HZ4.out; have := HZ5.out; have := HZ6.out; have := HZ7.out; have := HZ8.out; have := HZ9.out; have := HZ10.out; have := HZ11.out; have := HZ12.out; have := HZ13.out; have := HZ14.out; have := HZ15.out; have := HZ16.out; have := HZ17.out; have := HZ18.out; have := HZ19.out;  omega, by have := HZ1.out; have := HZ2.out; have := HZ3.out; have := HZ4.out; have := HZ5.out; have := HZ6.out; have := HZ7.out; have := HZ8.out; have := HZ9.out; have := HZ10.out; have := HZ11.out; have := HZ12.out; have := HZ13.out; have := HZ14.out; have := HZ15.out; have := HZ16.out; have := HZ17.out; have := HZ18.out; have := HZ19.out;  omega, by have := HZ1.out; have := HZ2.out; have := HZ3.out; have := HZ4.out; have := HZ5.out; have := HZ6.out; have := HZ7.out; have := HZ8.out; have := HZ9.out; have := HZ10.out; have := HZ11.out; have := HZ12.out; have := HZ13.out; have := HZ14.out; have := HZ15.out; have := HZ16.out; have := HZ17.out; have := HZ18.out; have := HZ19.out;  omega, HBs13_19.out⟩
            · go_simp
              have hb : Below w16.heap.size w16 (w16.alloc (.cells #[.int .i64 0, .int .i64 0, .slice none 0 0] 28)) := (Below.refl _ _).alloc (Nat.le_refl _) _
              have hk : (w16.alloc (.cells #[.int .i64 0, .int .i64 0, .slice none 0 0] 28)).heap[w16.heap.size]? = some (.cells #[.int .i64 0, .int .i64 0, .slice none 0 0] 28 (0, 0)) := alloc_at rfl
              have hz : (w16.alloc (.cells #[.int .i64 0, .int .i64 0, .slice none 0 0] 28)).heap.size = w16.heap.size + 1 := by simp
              generalize w16.alloc (.cells #[.int .i64 0, .int .i64 0, .slice none 0 0] 28) = w17 at hb hk hz ⊢
              have HB17 : Hid (Below w.heap.size w w17) := Lib.hid (HB16.out.trans (hb.mono HB16.out.size))
              have HZ17 : Hid (w16.heap.size ≤ w17.heap.size) := Lib.hid hb.size
              have HRf017 := Lib.hid (HRf00.out.below HB17.out (Nat.le_refl _))
              have HKa017 := Lib.hid ((hb.block _ (lt_of_block HKa016.out)).trans HKa016.out)
              have HKa117 := Lib.hid ((hb.block _ (lt_of_block HKa116.out)).trans HKa116.out)
              have HKw017 := Lib.hid ((hb.block _ (lt_of_block HKw016.out)).trans HKw016.out)
              have HOw17 := Lib.hid (HOw16.out.next hb)
              have HKg017 := Lib.hid ((hb.block _ (lt_of_block HKg016.out)).trans HKg016.out)
              have HOg17 := Lib.hid (HOg16.out.next hb)
              have HRz017 := Lib.hid (HRz016.out.below hb (Nat.le_refl _))
              have HBs13_17 : Hid (Below w13.heap.size w13 w17) := Lib.hid (HBs13_16.out.trans (hb.mono HBs13_16.out.size))
              have HBs15_17 : Hid (Below w15.heap.size w15 w17) := Lib.hid (HBs15_16.out.trans (hb.mono HBs15_16.out.size))
              have HKh017 := Lib.hid hk
              replace HZ17 : Hid (w16.heap.size < w17.heap.size) := Lib.hid (by omega)
              have HE17 := Lib.hid hz
              clear hb hk hz
              clear ca00 ca01 ca02 fa00 fa01 fa02 lta0 ca10 ca11 ca12 fa10 fa11 fa12 lta1 cw00 cw01 cw02 fw00 fw01 fw02 ltw0 cg00 cg01 cg02 fg00 fg01 fg02 ltg0
              have lta0 := lt_of_block HKa017.out
              obtain ⟨ca00, ca01, ca02, fa00, fa01, fa02⟩ := cell3 HKa017.out
              have lta1 := lt_of_block HKa117.out
              obtain ⟨ca10, ca11, ca12, fa10, fa11, fa12⟩ := cell3 HKa117.out
              have ltw0 := lt_of_block HKw017.out
              obtain ⟨cw00, cw01, cw02, fw00, fw01, fw02⟩ := cell3 HKw017.out
              have ltg0 := lt_of_block HKg017.out
              obtain ⟨cg00, cg01, cg02, fg00, fg01, fg02⟩ := cell3 HKg017.out
              have lth0 := lt_of_block HKh017.out
              obtain ⟨ch00, ch01, ch02, fh00, fh01, fh02⟩ := cell3 HKh017.out
              refine hK.out _ _ (⟨ca00, ca01, ca02, ca10, ca11, ca12⟩) (fun hHeld => ?_)
              clear hK K
              try simp only [Act.put, List.setIfInBounds_toArray, List.set_cons_zero, List.set_cons_succ]
              refine wpAnyH_ready (rs := [4]) (by kernel_rfl) (by simp) ?_
              refine AllReadyH.cons rfl (fun K hK => ?_) AllReadyH.nil
              go_simp
              go_at_call 28
              refine (HI.out hn0 _ _ HRz017.out).mono ?_
              rintro e w18 ⟨⟨sh, rfl, ho⟩, hb⟩
              have HB18 : Hid (Below w.heap.size w w18) := Lib.hid (HB17.out.trans (hb.mono HB17.out.size))
              have HZ18 : Hid (w17.heap.size ≤ w18.heap.size) := Lib.hid hb.size
              have HRf018 := Lib.hid (HRf00.out.below HB18.out (Nat.le_refl _))
              have HKa018 := Lib.hid ((hb.block _ (lt_of_block HKa017.out)).trans HKa017.out)
              have HKa118 := Lib.hid ((hb.block _ (lt_of_block HKa117.out)).trans HKa117.out)
              have HKw018 := Lib.hid ((hb.block _ (lt_of_block HKw017.out)).trans HKw017.out)
              have HOw18 := Lib.hid (HOw17.out.next hb)
              have HKg018 := Lib.hid ((hb.block _ (lt_of_block HKg017.out)).trans HKg017.out)
              have HOg18 := Lib.hid (HOg17.out.next hb)
              have HRz018 := Lib.hid (HRz017.out.below hb (Nat.le_refl _))
              have HKh018 := Lib.hid ((hb.block _ (lt_of_block HKh017.out)).trans HKh017.out)
              have HBs13_18 : Hid (Below w13.heap.size w13 w18) := Lib.hid (HBs13_17.out.trans (hb.mono HBs13_17.out.size))
              have HBs15_18 : Hid (Below w15.heap.size w15 w18) := Lib.hid (HBs15_17.out.trans (hb.mono HBs15_17.out.size))
              clear hb
              obtain ⟨ph, kh, rfl⟩ := own_form ho
              have HOh18 := Lib.hid (Ow.mk' ho)
              clear ho
              clear ca00 ca01 ca02 fa00 fa01 fa02 lta0 ca10 ca11 ca12 fa10 fa11 fa12 lta1 cw00 cw01 cw02 fw00 fw01 fw02 ltw0 cg00 cg01 cg02 fg00 fg01 fg02 ltg0 ch00 ch01 ch02 fh00 fh01 fh02 lth0
              have lta0 := lt_of_block HKa018.out
              obtain ⟨ca00, ca01, ca02, fa00, fa01, fa02⟩ := cell3 HKa018.out
              have lta1 := lt_of_block HKa118.out
              obtain ⟨ca10, ca11, ca12, fa10, fa11, fa12⟩ := cell3 HKa118.out
              have ltw0 := lt_of_block HKw018.out
              obtain ⟨cw00, cw01, cw02, fw00, fw01, fw02⟩ := cell3 HKw018.out
              have ltg0 := lt_of_block HKg018.out
              obtain ⟨cg00, cg01, cg02, fg00, fg01, fg02⟩ := cell3 HKg018.out
              have lth0 := lt_of_block HKh018.out
              obtain ⟨ch00, ch01, ch02, fh00, fh01, fh02⟩ := cell3 HKh018.out
              try go_simp
              refine hK.out _ _ (⟨ca00, ca01, ca02, ca10, ca11, ca12⟩) (fun hHeld => ?_)
              clear hK K
              try simp only [Act.put, List.setIfInBounds_toArray, List.set_cons_zero, List.set_cons_succ]
              refine take1 (i := 5) (v := ?v39) (some 79) rfl rfl (by kernel_rfl) (by kernel_rfl) (by kernel_rfl) (fun _ _ _ h => h) (Or.inl ⟨by rfl, ?y39⟩) (by assumption) ?r39
              case y39 => (intro w hSw; (try dsimp only at hSw); go_simp; (first | done | with_reducible rfl))
              try simp only [Act.put, List.setIfInBounds_toArray, List.set_cons_zero, List.set_cons_succ]
              refine take1 (i := 6) (v := ?v40) (some 85) rfl rfl (by kernel_rfl) (by kernel_rfl) (by kernel_rfl) (fun _ _ _ h => h) (Or.inl ⟨by rfl, ?y40⟩) (by assumption) ?r40
              case y40 => (intro w hSw; (try dsimp only at hSw); go_simp; (first | done | with_reducible rfl))
              try simp only [Act.put, List.setIfInBounds_toArray, List.set_cons_zero, List.set_cons_succ]
              refine take1 (i := 7) (v := ?v41) (some 86) rfl rfl (by kernel_rfl) (by kernel_rfl) (by kernel_rfl) (fun _ _ _ h => h) (Or.inl ⟨by rfl, ?y41⟩) (by assumption) ?r41
              case y41 => (intro w hSw; (try dsimp only at hSw); go_simp; (first | done | with_reducible rfl))
              try simp only [Act.put, List.setIfInBounds_toArray, List.set_cons_zero, List.set_cons_succ]
              refine wpAnyH_ready (rs := [9]) (by kernel_rfl) (by simp) ?_
              refine AllReadyH.cons rfl (fun K hK => ?_) AllReadyH.nil
              go_simp
              have hkb := box3_set' HKh018.out (.int .i64 fu) (.int .i64 fl) (.slice ph qs.length kh)
              have hm : Btw w16.heap.size (w16.heap.size + 1) w18 (((w18.setCell ⟨w16.heap.size, 0, none⟩ (.int .i64 fu)).setCell ⟨w16.heap.size, 1, none⟩ (.int .i64 fl)).setCell ⟨w16.heap.size, 2, none⟩ (.slice ph qs.length kh)) := (((Btw.refl w16.heap.size (w16.heap.size + 1) w18).setCell (p := ⟨w16.heap.size, 0, none⟩) (Nat.le_refl _) (Nat.lt_succ_self _) _).setCell (p := ⟨w16.heap.size, 1, none⟩) (Nat.le_refl _) (Nat.lt_succ_self _) _).setCell (p := ⟨w16.heap.size, 2, none⟩) (Nat.le_refl _) (Nat.lt_succ_self _) _
              generalize ((w18.setCell ⟨w16.heap.size, 0, none⟩ (.int .i64 fu)).setCell ⟨w16.heap.size, 1, none⟩ (.int .i64 fl)).setCell ⟨w16.heap.size, 2, none⟩ (.slice ph qs.length kh) = w19 at hkb hm ⊢
              have HZ19 : Hid (w18.heap.size ≤ w19.heap.size) := Lib.hid hm.size
              have HB19 : Hid (Below w.heap.size w w19) := Lib.hid (HB18.out.trans (hm.below.mono (by have := HZ1.out; have := HZ2.out; have := HZ3.out; have := HZ4.out; have := HZ5.out; have := HZ6.out; have := HZ7.out; have := HZ8.out; have := HZ9.out; have := HZ10.out; have := HZ11.out; have := HZ12.out; have := HZ13.out; have := HZ14.out; have := HZ15.out; have := HZ16.out; have := HZ17.out; have := HZ18.out; have := HB0.out.size; omega)))
              have HRf019 := Lib.hid (HRf00.out.below HB19.out (Nat.le_refl _))
              have HKa019 := Lib.hid ((hm.block _ (by have := lt_of_block HKa018.out; have := HZ1.out; have := HZ2.out; have := HZ3.out; have := HZ4.out; have := HZ5.out; have := HZ6.out; have := HZ7.out; have := HZ8.out; have := HZ9.out; have := HZ10.out; have := HZ11.out; have := HZ12.out; have := HZ13.out; have := HZ14.out; have := HZ15.out; have := HZ16.out; have := HZ17.out; have := HZ18.out; omega)).trans HKa018.out)
              have HKa119 := Lib.hid ((hm.block _ (by have := lt_of_block HKa118.out; have := HZ1.out; have := HZ2.out; have := HZ3.out; have := HZ4.out; have := HZ5.out; have := HZ6.out; have := HZ7.out; have := HZ8.out; have := HZ9.out; have := HZ10.out; have := HZ11.out; have := HZ12.out; have := HZ13.out; have := HZ14.out; have := HZ15.out; have := HZ16.out; have := HZ17.out; have := HZ18.out; omega)).trans HKa118.out)
              have HKw019 := Lib.hid ((hm.block _ (by have := lt_of_block HKw018.out; have := HZ1.out; have := HZ2.out; have := HZ3.out; have := HZ4.out; have := HZ5.out; have := HZ6.out; have := HZ7.out; have := HZ8.out; have := HZ9.out; have := HZ10.out; have := HZ11.out; have := HZ12.out; have := HZ13.out; have := HZ14.out; have := HZ15.out; have := HZ16.out; have := HZ17.out; have := HZ18.out; omega)).trans HKw018.out)
              have HOw19 := Lib.hid (HOw18.out.btw hm (by have := HZ1.out; have := HZ2.out; have := HZ3.out; have := HZ4.out; have := HZ5.out; have := HZ6.out; have := HZ7.out; have := HZ8.out; have := HZ9.out; have := HZ10.out; have := HZ11.out; have := HZ12.out; have := HZ13.out; have := HZ14.out; have := HZ15.out; have := HZ16.out; have := HZ17.out; have := HZ18.out; omega))
              have HKg019 := Lib.hid ((hm.block _ (by have := lt_of_block HKg018.out; have := HZ1.out; have := HZ2.out; have := HZ3.out; have := HZ4.out; have := HZ5.out; have := HZ6.out; have := HZ7.out; have := HZ8.out; have := HZ9.out; have := HZ10.out; have := HZ11.out; have := HZ12.out; have := HZ13.out; have := HZ14.out; have := HZ15.out; have := HZ16.out; have := HZ17.out; have := HZ18.out; omega)).trans HKg018.out)
              have HOg19 := Lib.hid (HOg18.out.btw hm (by have := HZ1.out; have := HZ2.out; have := HZ3.out; have := HZ4.out; have := HZ5.out; have := HZ6.out; have := HZ7.out; have := HZ8.out; have := HZ9.out; have := HZ10.out; have := HZ11.out; have := HZ12.out; have := HZ13.out; have := HZ14.out; have := HZ15.out; have := HZ16.out; have := HZ17.out; have := HZ18.out; omega))
              have HOh19 := Lib.hid (HOh18.out.btw hm (by have := HZ1.out; have := HZ2.out; have := HZ3.out; have := HZ4.out; have := HZ5.out; have := HZ6.out; have := HZ7.out; have := HZ8.out; have := HZ9.out; have := HZ10.out; have := HZ11.out; have := HZ12.out; have := HZ13.out; have := HZ14.out; have := HZ15.out; have := HZ16.out; have := HZ17.out; have := HZ18.out; omega))
              have HBs13_19 : Hid (Below w13.heap.size w13 w19) := Lib.hid (HBs13_18.out.trans (hm.below.mono (by have := HZ1.out; have := HZ2.out; have := HZ3.out; have := HZ4.out; have := HZ5.out; have := HZ6.out; have := HZ7.out; have := HZ8.out; have := HZ9.out; have := HZ10.out; have := HZ11.out; have := HZ12.out; have := HZ13.out; have := HZ14.out; have := HZ15.out; have := HZ16.out; have := HZ17.out; have := HZ18.out; omega)))
              clear hm
              have HKh019 := Lib.hid (hkb)
              clear hkb
              clear ca00 ca01 ca02 fa00 fa01 fa02 lta0 ca10 ca11 ca12 fa10 fa11 fa12 lta1 cw00 cw01 cw02 fw00 fw01 fw02 ltw0 cg00 cg01 cg02 fg00 fg01 fg02 ltg0 ch00 ch01 ch02 fh00 fh01 fh02 lth0
              have lta0 := lt_of_block HKa019.out
              obtain ⟨ca00, ca01, ca02, fa00, fa01, fa02⟩ := cell3 HKa019.out
              have lta1 := lt_of_block HKa119.out
              obtain ⟨ca10, ca11, ca12, fa10, fa11, fa12⟩ := cell3 HKa119.out
              have ltw0 := lt_of_block HKw019.out
              obtain ⟨cw00, cw01, cw02, fw00, fw01, fw02⟩ := cell3 HKw019.out
              have ltg0 := lt_of_block HKg019.out
              obtain ⟨cg00, cg01, cg02, fg00, fg01, fg02⟩ := cell3 HKg019.out
              have lth0 := lt_of_block HKh019.out
              obtain ⟨ch00, ch01, ch02, fh00, fh01, fh02⟩ := cell3 HKh019.out
              refine hK.out _ _ (⟨ca00, ca01, ca02, ca10, ca11, ca12⟩) (fun hHeld => ?_)
              clear hK K
              try simp only [Act.put]
              refine take1 (i := 10) (v := ?v42) (some 15) rfl rfl (by kernel_rfl) (by kernel_rfl) (by kernel_rfl) (fun _ _ _ h => h) (Or.inl ⟨by rfl, ?y42⟩) (by assumption) ?r42
              case y42 => (intro w hSw; (try dsimp only at hSw); go_simp; (first | done | with_reducible rfl))
              try simp only [Act.put, List.setIfInBounds_toArray, List.set_cons_zero, List.set_cons_succ]
              refine wpAnyH_done (by kernel_rfl) ?_ _
              go_wp2_with fail
              go_meet
              exact ⟨w16.heap.size, ph, kh, _, _, rfl, rfl, HKh019.out, HOh19.out, by have := HZ1.out; have := HZ2.out; have := HZ3.out; have := HZ4.out; have := HZ5.out; have := HZ6.out; have := HZ7.out; have := HZ8.out; have := HZ9.out; have := HZ10.out; have := HZ11.out; have := HZ12.out; have := HZ13.out; have := HZ14.out; have := HZ15.out; have := HZ16.out; have := HZ17.out; have := HZ18.out; have := HZ19.out;  omega, by have := HZ1.out; have := HZ2.out; have := HZ3.out; have := HZ4.out; have := HZ5.out; have := HZ6.out; have := HZ7.out; have := HZ8.out; have := HZ9.out; have := HZ10.out; have := HZ11.out; have := HZ12.out; have := HZ13.out; have := HZ14.out; have := HZ15.out; have := HZ16.out; have := HZ17.out; have := HZ18.out; have := HZ19.out;  omega, by have := HZ1.out; have := HZ2.out; have := HZ3.out; have := HZ4.out; have := HZ5.out; have := HZ6.out; have := HZ7.out; have := HZ8.out; have := HZ9.out; have := HZ10.out; have := HZ11.out; have := HZ12.out; have := HZ13.out; have := HZ14.out; have := HZ15.out; have := HZ16.out; have := HZ17.out; have := HZ18.out; have := HZ19.out;  omega, by have := HZ1.out; have := HZ2.out; have := HZ3.out; have := HZ4.out; have := HZ5.out; have := HZ6.out; have := HZ7.out; have := HZ8.out; have := HZ9.out; have := HZ10.out; have := HZ11.out; have := HZ12.out; have := HZ13.out; have := HZ14.out; have := HZ15.out; have := HZ16.out; have := HZ17.out; have := HZ18.out; have := HZ19.out;  omega, by have := HZ1.out; have := HZ2.out; have := HZ3.out; have := HZ4.out; have := HZ5.out; have := HZ6.out; have := HZ7.out; have := HZ8.out; have := HZ9.out; have := HZ10.out; have := HZ11.out; have := HZ12.out; have := HZ13.out; have := HZ14.out; have := HZ15.out; have := HZ16.out; have := HZ17.out; have := HZ18.out; have := HZ19.out;  omega, HBs13_19.out⟩
          · go_simp
            have hb : Below w15.heap.size w15 (w15.alloc (.cells #[.int .i64 0, .int .i64 0, .slice none 0 0] 28)) := (Below.refl _ _).alloc (Nat.le_refl _) _
            have hk : (w15.alloc (.cells #[.int .i64 0, .int .i64 0, .slice none 0 0] 28)).heap[w15.heap.size]? = some (.cells #[.int .i64 0, .int .i64 0, .slice none 0 0] 28 (0, 0)) := alloc_at rfl
            have hz : (w15.alloc (.cells #[.int .i64 0, .int .i64 0, .slice none 0 0] 28)).heap.size = w15.heap.size + 1 := by simp
            generalize w15.alloc (.cells #[.int .i64 0, .int .i64 0, .slice none 0 0] 28) = w16 at hb hk hz ⊢
            have HB16 : Hid (Below w.heap.size w w16) := Lib.hid (HB15.out.trans (hb.mono HB15.out.size))
            have HZ16 : Hid (w15.heap.size ≤ w16.heap.size) := Lib.hid hb.size
            have HRf016 := Lib.hid (HRf00.out.below HB16.out (Nat.le_refl _))
            have HKa016 := Lib.hid ((hb.block _ (lt_of_block HKa015.out)).trans HKa015.out)
            have HKa116 := Lib.hid ((hb.block _ (lt_of_block HKa115.out)).trans HKa115.out)
            have HKw016 := Lib.hid ((hb.block _ (lt_of_block HKw015.out)).trans HKw015.out)
            have HOw16 := Lib.hid (HOw15.out.next hb)
            have HKg016 := Lib.hid ((hb.block _ (lt_of_block HKg015.out)).trans HKg015.out)
            have HOg16 := Lib.hid (HOg15.out.next hb)
            have HRz016 := Lib.hid (HRz015.out.below hb (Nat.le_refl _))
            have HBs13_16 : Hid (Below w13.heap.size w13 w16) := Lib.hid (HBs13_15.out.trans (hb.mono HBs13_15.out.size))
            have HBs15_16 : Hid (Below w15.heap.size w15 w16) := Lib.hid (HBs15_15.out.trans (hb.mono HBs15_15.out.size))
            have HKh016 := Lib.hid hk
            replace HZ16 : Hid (w15.heap.size < w16.heap.size) := Lib.hid (by omega)
            have HE16 := Lib.hid hz
            clear hb hk hz
            clear ca00 ca01 ca02 fa00 fa01 fa02 lta0 ca10 ca11 ca12 fa10 fa11 fa12 lta1 cw00 cw01 cw02 fw00 fw01 fw02 ltw0 cg00 cg01 cg02 fg00 fg01 fg02 ltg0
            have lta0 := lt_of_block HKa016.out
            obtain ⟨ca00, ca01, ca02, fa00, fa01, fa02⟩ := cell3 HKa016.out
            have lta1 := lt_of_block HKa116.out
            obtain ⟨ca10, ca11, ca12, fa10, fa11, fa12⟩ := cell3 HKa116.out
            have ltw0 := lt_of_block HKw016.out
            obtain ⟨cw00, cw01, cw02, fw00, fw01, fw02⟩ := cell3 HKw016.out
            have ltg0 := lt_of_block HKg016.out
            obtain ⟨cg00, cg01, cg02, fg00, fg01, fg02⟩ := cell3 HKg016.out
            have lth0 := lt_of_block HKh016.out
            obtain ⟨ch00, ch01, ch02, fh00, fh01, fh02⟩ := cell3 HKh016.out
            refine hK.out _ _ (⟨ca00, ca01, ca02, ca10, ca11, ca12⟩) (fun hHeld => ?_)
            clear hK K
            try simp only [Act.put, List.setIfInBounds_toArray, List.set_cons_zero, List.set_cons_succ]
            refine wpAnyH_ready (rs := [3]) (by kernel_rfl) (by simp) ?_
            refine AllReadyH.cons rfl (fun K hK => ?_) AllReadyH.nil
            go_simp
            go_at_call 25
            refine (toBeadMove_any q1 _).mono ?_
            rintro e w17 ⟨rfl, hb⟩
            have HB17 : Hid (Below w.heap.size w w17) := Lib.hid (HB16.out.trans (hb.mono HB16.out.size))
            have HZ17 : Hid (w16.heap.size ≤ w17.heap.size) := Lib.hid hb.size
            have HRf017 := Lib.hid (HRf00.out.below HB17.out (Nat.le_refl _))
            have HKa017 := Lib.hid ((hb.block _ (lt_of_block HKa016.out)).trans HKa016.out)
            have HKa117 := Lib.hid ((hb.block _ (lt_of_block HKa116.out)).trans HKa116.out)
            have HKw017 := Lib.hid ((hb.block _ (lt_of_block HKw016.out)).trans HKw016.out)
            have HOw17 := Lib.hid (HOw16.out.next hb)
            have HKg017 := Lib.hid ((hb.block _ (lt_of_block HKg016.out)).trans HKg016.out)
            have HOg17 := Lib.hid (HOg16.out.next hb)
            have HRz017 := Lib.hid (HRz016.out.below hb (Nat.le_refl _))
            have HKh017 := Lib.hid ((hb.block _ (lt_of_block HKh016.out)).trans HKh016.out)
            have HBs13_17 : Hid (Below w13.heap.size w13 w17) := Lib.hid (HBs13_16.out.trans (hb.mono HBs13_16.out.size))
            have HBs15_17 : Hid (Below w15.heap.size w15 w17) := Lib.hid (HBs15_16.out.trans (hb.mono HBs15_16.out.size))
            clear hb
            clear ca00 ca01 ca02 fa00 fa01 fa02 lta0 ca10 ca11 ca12 fa10 fa11 fa12 lta1 cw00 cw01 cw02 fw00 fw01 fw02 ltw0 cg00 cg01 cg02 fg00 fg01 fg02 ltg0 ch00 ch01 ch02 fh00 fh01 fh02 lth0
            have lta0 := lt_of_block HKa017.out
            obtain ⟨ca00, ca01, ca02, fa00, fa01, fa02⟩ := cell3 HKa017.out
            have lta1 := lt_of_block HKa117.out
            obtain ⟨ca10, ca11, ca12, fa10, fa11, fa12⟩ := cell3 HKa117.out
            have ltw0 := lt_of_block HKw017.out
            obtain ⟨cw00, cw01, cw02, fw00, fw01, fw02⟩ := cell3 HKw017.out
            have ltg0 := lt_of_block HKg017.out
            obtain ⟨cg00, cg01, cg02, fg00, fg01, fg02⟩ := cell3 HKg017.out
            have lth0 := lt_of_block HKh017.out
            obtain ⟨ch00, ch01, ch02, fh00, fh01, fh02⟩ := cell3 HKh017.out
            try go_simp
            refine hK.out _ _ (⟨ca00, ca01, ca02, ca10, ca11, ca12⟩) (fun hHeld => ?_)
            clear hK K
            try simp only [Act.put, List.setIfInBounds_toArray, List.set_cons_zero, List.set_cons_succ]
            refine wpAnyH_ready (rs := [4]) (by kernel_rfl) (by simp) ?_
            refine AllReadyH.cons rfl (fun K hK => ?_) AllReadyH.nil
            go_simp
            go_at_call 28
            refine (HI.out hn0 _ _ HRz017.out).mono ?_
            rintro e w18 ⟨⟨sh, rfl, ho⟩, hb⟩
            have HB18 : Hid (Below w.heap.size w w18) := Lib.hid (HB17.out.trans (hb.mono HB17.out.size))
            have HZ18 : Hid (w17.heap.size ≤ w18.heap.size) := Lib.hid hb.size
            have HRf018 := Lib.hid (HRf00.out.below HB18.out (Nat.le_refl _))
            have HKa018 := Lib.hid ((hb.block _ (lt_of_block HKa017.out)).trans HKa017.out)
            have HKa118 := Lib.hid ((hb.block _ (lt_of_block HKa117.out)).trans HKa117.out)
            have HKw018 := Lib.hid ((hb.block _ (lt_of_block HKw017.out)).trans HKw017.out)
            have HOw18 := Lib.hid (HOw17.out.next hb)
            have HKg018 := Lib.hid ((hb.block _ (lt_of_block HKg017.out)).trans HKg017.out)
            have HOg18 := Lib.hid (HOg17.out.next hb)
            have HRz018 := Lib.hid (HRz017.out.below hb (Nat.le_refl _))
            have HKh018 := Lib.hid ((hb.block _ (lt_of_block HKh017.out)).trans HKh017.out)
            have HBs13_18 : Hid (Below w13.heap.size w13 w18) := Lib.hid (HBs13_17.out.trans (hb.mono HBs13_17.out.size))
            have HBs15_18 : Hid (Below w15.heap.size w15 w18) := Lib.hid (HBs15_17.out.trans (hb.mono HBs15_17.out.size))
            clear hb
            obtain ⟨ph, kh, rfl⟩ := own_form ho
            have HOh18 := Lib.hid (Ow.mk' ho)
            clear ho
            clear ca00 ca01 ca02 fa00 fa01 fa02 lta0 ca10 ca11 ca12 fa10 fa11 fa12 lta1 cw00 cw01 cw02 fw00 fw01 fw02 ltw0 cg00 cg01 cg02 fg00 fg01 fg02 ltg0 ch00 ch01 ch02 fh00 fh01 fh02 lth0
            have lta0 := lt_of_block HKa018.out
            obtain ⟨ca00, ca01, ca02, fa00, fa01, fa02⟩ := cell3 HKa018.out
            have lta1 := lt_of_block HKa118.out
            obtain ⟨ca10, ca11, ca12, fa10, fa11, fa12⟩ := cell3 HKa118.out
            have ltw0 := lt_of_block HKw018.out
            obtain ⟨cw00, cw01, cw02, fw00, fw01, fw02⟩ := cell3 HKw018.out
            have ltg0 := lt_of_block HKg018.out
            obtain ⟨cg00, cg01, cg02, fg00, fg01, fg02⟩ := cell3 HKg018.out
            have lth0 := lt_of_block HKh018.out
            obtain ⟨ch00, ch01, ch02, fh00, fh01, fh02⟩ := cell3 HKh018.out
            try go_simp
            refine hK.out _ _ (⟨ca00, ca01, ca02, ca10, ca11, ca12⟩) (fun hHeld => ?_)
            clear hK K
            try simp only [Act.put, List.setIfInBounds_toArray, List.set_cons_zero, List.set_cons_succ]
            refine take1 (i := 5) (v := ?v43) (some 79) rfl rfl (by kernel_rfl) (by kernel_rfl) (by kernel_rfl) (fun _ _ _ h => h) (Or.inl ⟨by rfl, ?y43⟩) (by assumption) ?r43
            case y43 => (intro w hSw; (try dsimp only at hSw); go_simp; (first | done | with_reducible rfl))
            try simp only [Act.put, List.setIfInBounds_toArray, List.set_cons_zero, List.set_cons_succ]
            refine take1 (i := 6) (v := ?v44) (some 85) rfl rfl (by kernel_rfl) (by kernel_rfl) (by kernel_rfl) (fun _ _ _ h => h) (Or.inl ⟨by rfl, ?y44⟩) (by assumption) ?r44
            case y44 => (intro w hSw; (try dsimp only at hSw); go_simp; (first | done | with_reducible rfl))
            try simp only [Act.put, List.setIfInBounds_toArray, List.set_cons_zero, List.set_cons_succ]
            refine take1 (i := 7) (v := ?v45) (some 86) rfl rfl (by kernel_rfl) (by kernel_rfl) (by kernel_rfl) (fun _ _ _ h => h) (Or.inl ⟨by rfl, ?y45⟩) (by assumption) ?r45
            case y45 => (intro w hSw; (try dsimp only at hSw); go_simp; (first | done | with_reducible rfl))
            try simp only [Act.put, List.setIfInBounds_toArray, List.set_cons_zero, List.set_cons_succ]
            refine wpAnyH_ready (rs := [9]) (by kernel_rfl) (by simp) ?_
            refine AllReadyH.cons rfl (fun K hK => ?_) AllReadyH.nil
            go_simp
            have hkb := box3_set' HKh018.out (.int .i64 fu) (.int .i64 fl) (.slice ph qs.length kh)
            have hm : Btw w15.heap.size (w15.heap.size + 1) w18 (((w18.setCell ⟨w15.heap.size, 0, none⟩ (.int .i64 fu)).setCell ⟨w15.heap.size, 1, none⟩ (.int .i64 fl)).setCell ⟨w15.heap.size, 2, none⟩ (.slice ph qs.length kh)) := (((Btw.refl w15.heap.size (w15.heap.size + 1) w18).setCell (p := ⟨w15.heap.size, 0, none⟩) (Nat.le_refl _) (Nat.lt_succ_self _) _).setCell (p := ⟨w15.heap.size, 1, none⟩) (Nat.le_refl _) (Nat.lt_succ_self _) _).setCell (p := ⟨w15.heap.size, 2, none⟩) (Nat.le_refl _) (Nat.lt_succ_self _) _
            generalize ((w18.setCell ⟨w15.heap.size, 0, none⟩ (.int .i64 fu)).setCell ⟨w15.heap.size, 1, none⟩ (.int .i64 fl)).setCell ⟨w15.heap.size, 2, none⟩ (.slice ph qs.length kh) = w19 at hkb hm ⊢
            have HZ19 : Hid (w18.heap.size ≤ w19.heap.size) := Lib.hid hm.size
            have HB19 : Hid (Below w.heap.size w w19) := Lib.hid (HB18.out.trans (hm.below.mono (by have := HZ1.out; have := HZ2.out; have := HZ3.out; have := HZ4.out; have := HZ5.out; have := HZ6.out; have := HZ7.out; have := HZ8.out; have := HZ9.out; have := HZ10.out; have := HZ11.out; have := HZ12.out; have := HZ13.out; have := HZ14.out; have := HZ15.out; have := HZ16.out; have := HZ17.out; have := HZ18.out; have := HB0.out.size; omega)))
            have HRf019 := Lib.hid (HRf00.out.below HB19.out (Nat.le_refl _))
            have HKa019 := Lib.hid ((hm.block _ (by have := lt_of_block HKa018.out; have := HZ1.out; have := HZ2.out; have := HZ3.out; have := HZ4.out; have := HZ5.out; have := HZ6.out; have := HZ7.out; have := HZ8.out; have := HZ9.out; have := HZ10.out; have := HZ11.out; have := HZ12.out; have := HZ13.out; have := HZ14.out; have := HZ15.out; have := HZ16.out; have := HZ17.out; have := HZ18.out; omega)).trans HKa018.out)
            have HKa119 := Lib.hid ((hm.block _ (by have := lt_of_block HKa118.out; have := HZ1.out; have := HZ2.out; have := HZ3.out; have := HZ4.out; have := HZ5.out; have := HZ6.out; have := HZ7.out; have := HZ8.out; have := HZ9.out; have := HZ10.out; have := HZ11.out; have := HZ12.out; have := HZ13.out; have := HZ14.out; have := HZ15.out; have := HZ16.out; have := HZ17.out; have := HZ18.out; omega)).trans HKa118.out)
            have HKw019 := Lib.hid ((hm.block _ (by have := lt_of_block HKw018.out; have := HZ1.out; have := HZ2.out; have := HZ3.out; have := HZ4.out; have := HZ5.out; have := HZ6.out; have := HZ7.out; have := HZ8.out; have := HZ9.out; have := HZ10.out; have := HZ11.out; have := HZ12.out; have := HZ13.out; have := HZ14.out; have := HZ15.out; have := HZ16.out; have := HZ17.out; have := HZ18.out; omega)).trans HKw018.out)
            have HOw19 := Lib.hid (HOw18.out.btw hm (by have := HZ1.out; have := HZ2.out; have := HZ3.out; have := HZ4.out; have := HZ5.out; have := HZ6.out; have := HZ7.out; have := HZ8.out; have := HZ9.out; have := HZ10.out; have := HZ11.out; have := HZ12.out; have := HZ13.out; have := HZ14.out; have := HZ15.out; have := HZ16.out; have := HZ17.out; have := HZ18.out; omega))
            have HKg019 := Lib.hid ((hm.block _ (by have := lt_of_block HKg018.out; have := HZ1.out; have := HZ2.out; have := HZ3.out; have := HZ4.out; have := HZ5.out; have := HZ6.out; have := HZ7.out; have := HZ8.out; have := HZ9.out; have := HZ10.out; have := HZ11.out; have := HZ12.out; have := HZ13.out; have := HZ14.out; have := HZ15.out; have := HZ16.out; have := HZ17.out; have := HZ18.out; omega)).trans HKg018.out)
            have HOg19 := Lib.hid (HOg18.out.btw hm (by have := HZ1.out; have := HZ2.out; have := HZ3.out; have := HZ4.out; have := HZ5.out; have := HZ6.out; have := HZ7.out; have := HZ8.out; have := HZ9.out; have := HZ10.out; have := HZ11.out; have := HZ12.out; have := HZ13.out; have := HZ14.out; have := HZ15.out; have := HZ16.out; have := HZ17.out; have := HZ18.out; omega))
            have HOh19 := Lib.hid (HOh18.out.btw hm (by have := HZ1.out; have := HZ2.out; have := HZ3.out; have := HZ4.out; have := HZ5.out; have := HZ6.out; have := HZ7.out; have := HZ8.out; have := HZ9.out; have := HZ10.out; have := HZ11.out; have := HZ12.out; have := HZ13.out; have := HZ14.out; have := HZ15.out; have := HZ16.out; have := HZ17.out; have := HZ18.out; omega))
            have HBs13_19 : Hid (Below w13.heap.size w13 w19) := Lib.hid (HBs13_18.out.trans (hm.below.mono (by have := HZ1.out; have := HZ2.out; have := HZ3.out; have := HZ4.out; have := HZ5.out; have := HZ6.out; have := HZ7.out; have := HZ8.out; have := HZ9.out; have := HZ10.out; have := HZ11.out; have := HZ12.out; have := HZ13.out; have := HZ14.out; have := HZ15.out; have := HZ16.out; have := HZ17.out; have := HZ18.out; omega)))
            clear hm
            have HKh019 := Lib.hid (hkb)
            clear hkb
            clear ca00 ca01 ca02 fa00 fa01 fa02 lta0 ca10 ca11 ca12 fa10 fa11 fa12 lta1 cw00 cw01 cw02 fw00 fw01 fw02 ltw0 cg00 cg01 cg02 fg00 fg01 fg02 ltg0 ch00 ch01 ch02 fh00 fh01 fh02 lth0
            have lta0 := lt_of_block HKa019.out
            obtain ⟨ca00, ca01, ca02, fa00, fa01, fa02⟩ := cell3 HKa019.out
            have lta1 := lt_of_block HKa119.out
            obtain ⟨ca10, ca11, ca12, fa10, fa11, fa12⟩ := cell3 HKa119.out
            have ltw0 := lt_of_block HKw019.out
            obtain ⟨cw00, cw01, cw02, fw00, fw01, fw02⟩ := cell3 HKw019.out
            have ltg0 := lt_of_block HKg019.out
            obtain ⟨cg00, cg01, cg02, fg00, fg01, fg02⟩ := cell3 HKg019.out
            have lth0 := lt_of_block HKh019.out
            obtain ⟨ch00, ch01, ch02, fh00, fh01, fh02⟩ := cell3 HKh019.out
            refine hK.out _ _ (⟨ca00, ca01, ca02, ca10, ca11, ca12⟩) (fun hHeld => ?_)
            clear hK K
            try simp only [Act.put]
            refine take1 (i := 10) (v := ?v46) (some 15) rfl rfl (by kernel_rfl) (by kernel_rfl) (by kernel_rfl) (fun _ _ _ h => h) (Or.inl ⟨by rfl, ?y46⟩) (by assumption) ?r46
            case y46 => (intro w hSw; (try dsimp only at hSw); go_simp; (first | done | with_reducible rfl))
            try simp only [Act.put, List.setIfInBounds_toArray, List.set_cons_zero, List.set_cons_succ]
            refine wpAnyH_done (by kernel_rfl) ?_ _
            go_wp2_with fail
            go_meet
            exact ⟨w15.heap.size, ph, kh, _, _, rfl, rfl, HKh019.out, HOh19.out, by have := HZ1.out; have := HZ2.out; have := HZ3.out; have := HZ4.out; have := HZ5.out; have := HZ6.out; have := HZ7.out; have := HZ8.out; have := HZ9.out; have := HZ10.out; have := HZ11.out; have := HZ12.out; have := HZ13.out; have := HZ14.out; have := HZ15.out; have := HZ16.out; have := HZ17.out; have := HZ18.out; have := HZ19.out;  omega, by have := HZ1.out; have := HZ2.out; have := HZ3.out; have := HZ4.out; have := HZ5.out; have := HZ6.out; have := HZ7.out; have := HZ8.out; have := HZ9.out; have := HZ10.out; have := HZ11.out; have := HZ12.out; have := HZ13.out; have := HZ14.out; have := HZ15.out; have := HZ16.out; have := HZ17.out; have := HZ18.out; have := HZ19.out;  omega, by have := HZ1.out; have := HZ2.out; have := HZ3.out; have := HZ4.out; have := HZ5.out; have := HZ6.out; have := HZ7.out; have := HZ8.out; have := HZ9.out; have := HZ10.out; have := HZ11.out; have := HZ12.out; have := HZ13.out; have := HZ14.out; have := HZ15.out; have := HZ16.out; have := HZ17.out; have := HZ18.out; have := HZ19.out;  omega, by have := HZ1.out; have := HZ2.out; have := HZ3.out; have := HZ4.out; have := HZ5.out; have := HZ6.out; have := HZ7.out; have := HZ8.out; have := HZ9.out; have := HZ10.out; have := HZ11.out; have := HZ12.out; have := HZ13.out; have := HZ14.out; have := HZ15.out; have := HZ16.out; have := HZ17.out; have := HZ18.out; have := HZ19.out;  omega, by have := HZ1.out; have := HZ2.out; have := HZ3.out; have := HZ4.out; have := HZ5.out; have := HZ6.out; have := HZ7.out; have := HZ8.out; have := HZ9.out; have := HZ10.out; have := HZ11.out; have := HZ12.out; have := HZ13.out; have := HZ14.out; have := HZ15.out; have := HZ16.out; have := HZ17.out; have := HZ18.out; have := HZ19.out;  omega, HBs13_19.out⟩
        · go_simp
          have hb : Below w14.heap.size w14 (w14.alloc (.cells #[.int .i64 0, .int .i64 0, .slice none 0 0] 28)) := (Below.refl _ _).alloc (Nat.le_refl _) _
          have hk : (w14.alloc (.cells #[.int .i64 0, .int .i64 0, .slice none 0 0] 28)).heap[w14.heap.size]? = some (.cells #[.int .i64 0, .int .i64 0, .slice none 0 0] 28 (0, 0)) := alloc_at rfl
          have hz : (w14.alloc (.cells #[.int .i64 0, .int .i64 0, .slice none 0 0] 28)).heap.size = w14.heap.size + 1 := by simp
          generalize w14.alloc (.cells #[.int .i64 0, .int .i64 0, .slice none 0 0] 28) = w15 at hb hk hz ⊢
          have HB15 : Hid (Below w.heap.size w w15) := Lib.hid (HB14.out.trans (hb.mono HB14.out.size))
          have HZ15 : Hid (w14.heap.size ≤ w15.heap.size) := Lib.hid hb.size
          have HRf015 := Lib.hid (HRf00.out.below HB15.out (Nat.le_refl _))
          have HKa015 := Lib.hid ((hb.block _ (lt_of_block HKa014.out)).trans HKa014.out)
          have HKa115 := Lib.hid ((hb.block _ (lt_of_block HKa114.out)).trans HKa114.out)
          have HKw015 := Lib.hid ((hb.block _ (lt_of_block HKw014.out)).trans HKw014.out)
          have HOw15 := Lib.hid (HOw14.out.next hb)
          have HKg015 := Lib.hid ((hb.block _ (lt_of_block HKg014.out)).trans HKg014.out)
          have HOg15 := Lib.hid (HOg14.out.next hb)
          have HBs13_15 : Hid (Below w13.heap.size w13 w15) := Lib.hid (HBs13_14.out.trans (hb.mono HBs13_14.out.size))
          have HKh015 := Lib.hid hk
          replace HZ15 : Hid (w14.heap.size < w15.heap.size) := Lib.hid (by omega)
          have HE15 := Lib.hid hz
          clear hb hk hz
          clear ca00 ca01 ca02 fa00 fa01 fa02 lta0 ca10 ca11 ca12 fa10 fa11 fa12 lta1 cw00 cw01 cw02 fw00 fw01 fw02 ltw0 cg00 cg01 cg02 fg00 fg01 fg02 ltg0
          have lta0 := lt_of_block HKa015.out
          obtain ⟨ca00, ca01, ca02, fa00, fa01, fa02⟩ := cell3 HKa015.out
          have lta1 := lt_of_block HKa115.out
          obtain ⟨ca10, ca11, ca12, fa10, fa11, fa12⟩ := cell3 HKa115.out
          have ltw0 := lt_of_block HKw015.out
          obtain ⟨cw00, cw01, cw02, fw00, fw01, fw02⟩ := cell3 HKw015.out
          have ltg0 := lt_of_block HKg015.out
          obtain ⟨cg00, cg01, cg02, fg00, fg01, fg02⟩ := cell3 HKg015.out
          have lth0 := lt_of_block HKh015.out
          obtain ⟨ch00, ch01, ch02, fh00, fh01, fh02⟩ := cell3 HKh015.out
          refine hK.out _ _ (⟨ca00, ca01, ca02, ca10, ca11, ca12⟩) (fun hHeld => ?_)
          clear hK K
          try simp only [Act.put, List.setIfInBounds_toArray, List.set_cons_zero, List.set_cons_succ]
          refine wpAnyH_ready (rs := [1]) (by kernel_rfl) (by simp) ?_
          refine AllReadyH.cons rfl (fun K hK => ?_) AllReadyH.nil
          go_simp
          go_at_call 17
          refine (toFrame_any up0 lo0 _ rs0 _ HRf015.out hn0).mono ?_
          rintro e w16 ⟨⟨sz0, rfl, ho⟩, hb⟩
          have HB16 : Hid (Below w.heap.size w w16) := Lib.hid (HB15.out.trans (hb.mono HB15.out.size))
          have HZ16 : Hid (w15.heap.size ≤ w16.heap.size) := Lib.hid hb.size
          have HRf016 := Lib.hid (HRf00.out.below HB16.out (Nat.le_refl _))
          have HKa016 := Lib.hid ((hb.block _ (lt_of_block HKa015.out)).trans HKa015.out)
          have HKa116 := Lib.hid ((hb.block _ (lt_of_block HKa115.out)).trans HKa115.out)
          have HKw016 := Lib.hid ((hb.block _ (lt_of_block HKw015.out)).trans HKw015.out)
          have HOw16 := Lib.hid (HOw15.out.next hb)
          have HKg016 := Lib.hid ((hb.block _ (lt_of_block HKg015.out)).trans HKg015.out)
          have HOg16 := Lib.hid (HOg15.out.next hb)
          have HKh016 := Lib.hid ((hb.block _ (lt_of_block HKh015.out)).trans HKh015.out)
          have HBs13_16 : Hid (Below w13.heap.size w13 w16) := Lib.hid (HBs13_15.out.trans (hb.mono HBs13_15.out.size))
          clear hb
          obtain ⟨pz0, kz0, rfl⟩ := own_form ho
          have HRz016 := Lib.hid ((RodsR.of_own ho))
          have HBs16_16 : Hid (Below w16.heap.size w16 w16) := Lib.hid (Below.refl _ _)
          clear ho
          clear ca00 ca01 ca02 fa00 fa01 fa02 lta0 ca10 ca11 ca12 fa10 fa11 fa12 lta1 cw00 cw01 cw02 fw00 fw01 fw02 ltw0 cg00 cg01 cg02 fg00 fg01 fg02 ltg0 ch00 ch01 ch02 fh00 fh01 fh02 lth0
          have lta0 := lt_of_block HKa016.out
          obtain ⟨ca00, ca01, ca02, fa00, fa01, fa02⟩ := cell3 HKa016.out
          have lta1 := lt_of_block HKa116.out
          obtain ⟨ca10, ca11, ca12, fa10, fa11, fa12⟩ := cell3 HKa116.out
          have ltw0 := lt_of_block HKw016.out
          obtain ⟨cw00, cw01, cw02, fw00, fw01, fw02⟩ := cell3 HKw016.out
          have ltg0 := lt_of_block HKg016.out
          obtain ⟨cg00, cg01, cg02, fg00, fg01, fg02⟩ := cell3 HKg016.out
          have lth0 := lt_of_block HKh016.out
          obtain ⟨ch00, ch01, ch02, fh00, fh01, fh02⟩ := cell3 HKh016.out
          try go_simp
          refine hK.out _ _ (⟨ca00, ca01, ca02, ca10, ca11, ca12⟩) (fun hHeld => ?_)
          clear hK K
          try simp only [Act.put, List.setIfInBounds_toArray, List.set_cons_zero, List.set_cons_succ]
          refine wpAnyH_ready (rs := [3]) (by kernel_rfl) (by simp) ?_
          refine AllReadyH.cons rfl (fun K hK => ?_) AllReadyH.nil
          go_simp
          go_at_call 25
          refine (toBeadMove_any q1 _).mono ?_
          rintro e w17 ⟨rfl, hb⟩
          have HB17 : Hid (Below w.heap.size w w17) := Lib.hid (HB16.out.trans (hb.mono HB16.out.size))
          have HZ17 : Hid (w16.heap.size ≤ w17.heap.size) := Lib.hid hb.size
          have HRf017 := Lib.hid (HRf00.out.below HB17.out (Nat.le_refl _))
          have HKa017 := Lib.hid ((hb.block _ (lt_of_block HKa016.out)).trans HKa016.out)
          have HKa117 := Lib.hid ((hb.block _ (lt_of_block HKa116.out)).trans HKa116.out)
          have HKw017 := Lib.hid ((hb.block _ (lt_of_block HKw016.out)).trans HKw016.out)
          have HOw17 := Lib.hid (HOw16.out.next hb)
          have HKg017 := Lib.hid ((hb.block _ (lt_of_block HKg016.out)).trans HKg016.out)
          have HOg17 := Lib.hid (HOg16.out.next hb)
          have HKh017 := Lib.hid ((hb.block _ (lt_of_block HKh016.out)).trans HKh016.out)
          have HRz017 := Lib.hid (HRz016.out.below hb (Nat.le_refl _))
          have HBs13_17 : Hid (Below w13.heap.size w13 w17) := Lib.hid (HBs13_16.out.trans (hb.mono HBs13_16.out.size))
          have HBs16_17 : Hid (Below w16.heap.size w16 w17) := Lib.hid (HBs16_16.out.trans (hb.mono HBs16_16.out.size))
          clear hb
          clear ca00 ca01 ca02 fa00 fa01 fa02 lta0 ca10 ca11 ca12 fa10 fa11 fa12 lta1 cw00 cw01 cw02 fw00 fw01 fw02 ltw0 cg00 cg01 cg02 fg00 fg01 fg02 ltg0 ch00 ch01 ch02 fh00 fh01 fh02 lth0
          have lta0 := lt_of_block HKa017.out
          obtain ⟨ca00, ca01, ca02, fa00, fa01, fa02⟩ := cell3 HKa017.out
          have lta1 := lt_of_block HKa117.out
          obtain ⟨ca10, ca11, ca12, fa10, fa11, fa12⟩ := cell3 HKa117.out
          have ltw0 := lt_of_block HKw017.out
          obtain ⟨cw00, cw01, cw02, fw00, fw01, fw02⟩ := cell3 HKw017.out
          have ltg0 := lt_of_block HKg017.out
          obtain ⟨cg00, cg01, cg02, fg00, fg01, fg02⟩ := cell3 HKg017.out
          have lth0 := lt_of_block HKh017.out
          obtain ⟨ch00, ch01, ch02, fh00, fh01, fh02⟩ := cell3 HKh017.out
          try go_simp
          refine hK.out _ _ (⟨ca00, ca01, ca02, ca10, ca11, ca12⟩) (fun hHeld => ?_)
          clear hK K
          try simp only [Act.put, List.setIfInBounds_toArray, List.set_cons_zero, List.set_cons_succ]
          refine wpAnyH_ready (rs := [4]) (by kernel_rfl) (by simp) ?_
          refine AllReadyH.cons rfl (fun K hK => ?_) AllReadyH.nil
          go_simp
          go_at_call 28
          refine (HI.out hn0 _ _ HRz017.out).mono ?_
          rintro e w18 ⟨⟨sh, rfl, ho⟩, hb⟩
          have HB18 : Hid (Below w.heap.size w w18) := Lib.hid (HB17.out.trans (hb.mono HB17.out.size))
          have HZ18 : Hid (w17.heap.size ≤ w18.heap.size) := Lib.hid hb.size
          have HRf018 := Lib.hid (HRf00.out.below HB18.out (Nat.le_refl _))
          have HKa018 := Lib.hid ((hb.block _ (lt_of_block HKa017.out)).trans HKa017.out)
          have HKa118 := Lib.hid ((hb.block _ (lt_of_block HKa117.out)).trans HKa117.out)
          have HKw018 := Lib.hid ((hb.block _ (lt_of_block HKw017.out)).trans HKw017.out)
          have HOw18 := Lib.hid (HOw17.out.next hb)
          have HKg018 := Lib.hid ((hb.block _ (lt_of_block HKg017.out)).trans HKg017.out)
          have HOg18 := Lib.hid (HOg17.out.next hb)
          have HKh018 := Lib.hid ((hb.block _ (lt_of_block HKh017.out)).trans HKh017.out)
          have HRz018 := Lib.hid (HRz017.out.below hb (Nat.le_refl _))
          have HBs13_18 : Hid (Below w13.heap.size w13 w18) := Lib.hid (HBs13_17.out.trans (hb.mono HBs13_17.out.size))
          have HBs16_18 : Hid (Below w16.heap.size w16 w18) := Lib.hid (HBs16_17.out.trans (hb.mono HBs16_17.out.size))
          clear hb
          obtain ⟨ph, kh, rfl⟩ := own_form ho
          have HOh18 := Lib.hid (Ow.mk' ho)
          clear ho
          clear ca00 ca01 ca02 fa00 fa01 fa02 lta0 ca10 ca11 ca12 fa10 fa11 fa12 lta1 cw00 cw01 cw02 fw00 fw01 fw02 ltw0 cg00 cg01 cg02 fg00 fg01 fg02 ltg0 ch00 ch01 ch02 fh00 fh01 fh02 lth0
          have lta0 := lt_of_block HKa018.out
          obtain ⟨ca00, ca01, ca02, fa00, fa01, fa02⟩ := cell3 HKa018.out
          have lta1 := lt_of_block HKa118.out
          obtain ⟨ca10, ca11, ca12, fa10, fa11, fa12⟩ := cell3 HKa118.out
          have ltw0 := lt_of_block HKw018.out
          obtain ⟨cw00, cw01, cw02, fw00, fw01, fw02⟩ := cell3 HKw018.out
          have ltg0 := lt_of_block HKg018.out
          obtain ⟨cg00, cg01, cg02, fg00, fg01, fg02⟩ := cell3 HKg018.out
          have lth0 := lt_of_block HKh018.out
          obtain ⟨ch00, ch01, ch02, fh00, fh01, fh02⟩ := cell3 HKh018.out
          try go_simp
          refine hK.out _ _ (⟨ca00, ca01, ca02, ca10, ca11, ca12⟩) (fun hHeld => ?_)
          clear hK K
          try simp only [Act.put, List.setIfInBounds_toArray, List.set_cons_zero, List.set_cons_succ]
          refine take1 (i := 5) (v := ?v47) (some 79) rfl rfl (by kernel_rfl) (by kernel_rfl) (by kernel_rfl) (fun _ _ _ h => h) (Or.inl ⟨by rfl, ?y47⟩) (by assumption) ?r47
          case y47 => (intro w hSw; (try dsimp only at hSw); go_simp; (first | done | with_reducible rfl))
          try simp only [Act.put, List.setIfInBounds_toArray, List.set_cons_zero, List.set_cons_succ]
          refine take1 (i := 6) (v := ?v48) (some 85) rfl rfl (by kernel_rfl) (by kernel_rfl) (by kernel_rfl) (fun _ _ _ h => h) (Or.inl ⟨by rfl, ?y48⟩) (by assumption) ?r48
          case y48 => (intro w hSw; (try dsimp only at hSw); go_simp; (first | done | with_reducible rfl))
          try simp only [Act.put, List.setIfInBounds_toArray, List.set_cons_zero, List.set_cons_succ]
          refine take1 (i := 7) (v := ?v49) (some 86) rfl rfl (by kernel_rfl) (by kernel_rfl) (by kernel_rfl) (fun _ _ _ h => h) (Or.inl ⟨by rfl, ?y49⟩) (by assumption) ?r49
          case y49 => (intro w hSw; (try dsimp only at hSw); go_simp; (first | done | with_reducible rfl))
          try simp only [Act.put, List.setIfInBounds_toArray, List.set_cons_zero, List.set_cons_succ]
          refine wpAnyH_ready (rs := [9]) (by kernel_rfl) (by simp) ?_
          refine AllReadyH.cons rfl (fun K hK => ?_) AllReadyH.nil
          go_simp
          have hkb := box3_set' HKh018.out (.int .i64 fu) (.int .i64 fl) (.slice ph qs.length kh)
          have hm : Btw w14.heap.size (w14.heap.size + 1) w18 (((w18.setCell ⟨w14.heap.size, 0, none⟩ (.int .i64 fu)).setCell ⟨w14.heap.size, 1, none⟩ (.int .i64 fl)).setCell ⟨w14.heap.size, 2, none⟩ (.slice ph qs.length kh)) := (((Btw.refl w14.heap.size (w14.heap.size + 1) w18).setCell (p := ⟨w14.heap.size, 0, none⟩) (Nat.le_refl _) (Nat.lt_succ_self _) _).setCell (p := ⟨w14.heap.size, 1, none⟩) (Nat.le_refl _) (Nat.lt_succ_self _) _).setCell (p := ⟨w14.heap.size, 2, none⟩) (Nat.le_refl _) (Nat.lt_succ_self _) _
          generalize ((w18.setCell ⟨w14.heap.size, 0, none⟩ (.int .i64 fu)).setCell ⟨w14.heap.size, 1, none⟩ (.int .i64 fl)).setCell ⟨w14.heap.size, 2, none⟩ (.slice ph qs.length kh) = w19 at hkb hm ⊢
          have HZ19 : Hid (w18.heap.size ≤ w19.heap.size) := Lib.hid hm.size
          have HB19 : Hid (Below w.heap.size w w19) := Lib.hid (HB18.out.trans (hm.below.mono (by have := HZ1.out; have := HZ2.out; have := HZ3.out; have := HZ4.out; have := HZ5.out; have := HZ6.out; have := HZ7.out; have := HZ8.out; have := HZ9.out; have := HZ10.out; have := HZ11.out; have := HZ12.out; have := HZ13.out; have := HZ14.out; have := HZ15.out; have := HZ16.out; have := HZ17.out; have := HZ18.out; have := HB0.out.size; omega)))
          have HRf019 := Lib.hid (HRf00.out.below HB19.out (Nat.le_refl _))
          have HKa019 := Lib.hid ((hm.block _ (by have := lt_of_block HKa018.out; have := HZ1.out; have := HZ2.out; have := HZ3.out; have := HZ4.out; have := HZ5.out; have := HZ6.out; have := HZ7.out; have := HZ8.out; have := HZ9.out; have := HZ10.out; have := HZ11.out; have := HZ12.out; have := HZ13.out; have := HZ14.out; have := HZ15.out; have := HZ16.out; have := HZ17.out; have := HZ18.out; omega)).trans HKa018.out)
          have HKa119 := Lib.hid ((hm.block _ (by have := lt_of_block HKa118.out; have := HZ1.out; have := HZ2.out; have := HZ3.out; have := HZ4.out; have := HZ5.out; have := HZ6.out; have := HZ7.out; have := HZ8.out; have := HZ9.out; have := HZ10.out; have := HZ11.out; have := HZ12.out; have := HZ13.out; have := HZ14.out; have := HZ15.out; have := HZ16.out; have := HZ17.out; have := HZ18.out; omega)).trans HKa118.out)
          have HKw019 := Lib.hid ((hm.block _ (by have := lt_of_block HKw018.out; have := HZ1.out; have := HZ2.out; have := HZ3.out; have := HZ4.out; have := HZ5.out; have := HZ6.out; have := HZ7.out; have := HZ8.out; have := HZ9.out; have := HZ10.out; have := HZ11.out; have := HZ12.out; have := HZ13.out; have := HZ14.out; have := HZ15.out; have := HZ16.out; have := HZ17.out; have := HZ18.out; omega)).trans HKw018.out)
          have HOw19 := Lib.hid (HOw18.out.btw hm (by have := HZ1.out; have := HZ2.out; have := HZ3.out; have := HZ4.out; have := HZ5.out; have := HZ6.out; have := HZ7.out; have := HZ8.out; have := HZ9.out; have := HZ10.out; have := HZ11.out; have := HZ12.out; have := HZ13.out; have := HZ14.out; have := HZ15.out; have := HZ16.out; have := HZ17.out; have := HZ18.out; omega))
          have HKg019 := Lib.hid ((hm.block _ (by have := lt_of_block HKg018.out; have := HZ1.out; have := HZ2.out; have := HZ3.out; have := HZ4.out; have := HZ5.out; have := HZ6.out; have := HZ7.out; have := HZ8.out; have := HZ9.out; have := HZ10.out; have := HZ11.out; have := HZ12.out; have := HZ13.out; have := HZ14.out; have := HZ15.out; have := HZ16.out; have := HZ17.out; have := HZ18.out; omega)).trans HKg018.out)
          have HOg19 := Lib.hid (HOg18.out.btw hm (by have := HZ1.out; have := HZ2.out; have := HZ3.out; have := HZ4.out; have := HZ5.out; have := HZ6.out; have := HZ7.out; have := HZ8.out; have := HZ9.out; have := HZ10.out; have := HZ11.out; have := HZ12.out; have := HZ13.out; have := HZ14.out; have := HZ15.out; have := HZ16.out; have := HZ17.out; have := HZ18.out; omega))
          have HOh19 := Lib.hid (HOh18.out.btw hm (by have := HZ1.out; have := HZ2.out; have := HZ3.out; have := HZ4.out; have := HZ5.out; have := HZ6.out; have := HZ7.out; have := HZ8.out; have := HZ9.out; have := HZ10.out; have := HZ11.out; have := HZ12.out; have := HZ13.out; have := HZ14.out; have := HZ15.out; have := HZ16.out; have := HZ17.out; have := HZ18.out; omega))
          have HBs13_19 : Hid (Below w13.heap.size w13 w19) := Lib.hid (HBs13_18.out.trans (hm.below.mono (by have := HZ1.out; have := HZ2.out; have := HZ3.out; have := HZ4.out; have := HZ5.out; have := HZ6.out; have := HZ7.out; have := HZ8.out; have := HZ9.out; have := HZ10.out; have := HZ11.out; have := HZ12.out; have := HZ13.out; have := HZ14.out; have := HZ15.out; have := HZ16.out; have := HZ17.out; have := HZ18.out; omega)))
          clear hm
          have HKh019 := Lib.hid (hkb)
          clear hkb
          clear ca00 ca01 ca02 fa00 fa01 fa02 lta0 ca10 ca11 ca12 fa10 fa11 fa12 lta1 cw00 cw01 cw02 fw00 fw01 fw02 ltw0 cg00 cg01 cg02 fg00 fg01 fg02 ltg0 ch00 ch01 ch02 fh00 fh01 fh02 lth0
          have lta0 := lt_of_block HKa019.out
          obtain ⟨ca00, ca01, ca02, fa00, fa01, fa02⟩ := cell3 HKa019.out
          have lta1 := lt_of_block HKa119.out
          obtain ⟨ca10, ca11, ca12, fa10, fa11, fa12⟩ := cell3 HKa119.out
          have ltw0 := lt_of_block HKw019.out
          obtain ⟨cw00, cw01, cw02, fw00, fw01, fw02⟩ := cell3 HKw019.out
          have ltg0 := lt_of_block HKg019.out
          obtain ⟨cg00, cg01, cg02, fg00, fg01, fg02⟩ := cell3 HKg019.out
          have lth0 := lt_of_block HKh019.out
          obtain ⟨ch00, ch01, ch02, fh00, fh01, fh02⟩ := cell3 HKh019.out
          refine hK.out _ _ (⟨ca00, ca01, ca02, ca10, ca11, ca12⟩) (fun hHeld => ?_)
          clear hK K
          try simp only [Act.put]
          refine take1 (i := 10) (v := ?v50) (some 15) rfl rfl (by kernel_rfl) (by kernel_rfl) (by kernel_rfl) (fun _ _ _ h => h) (Or.inl ⟨by rfl, ?y50⟩) (by assumption) ?r50
          case y50 => (intro w hSw; (try dsimp only at hSw); go_simp; (first | done | with_reducible rfl))
          try simp only [Act.put, List.setIfInBounds_toArray, List.set_cons_zero, List.set_cons_succ]
          refine wpAnyH_done (by kernel_rfl) ?_ _
          go_wp2_with fail
          go_meet
          exact ⟨w14.heap.size, ph, kh, _, _, rfl, rfl, HKh019.out, HOh19.out, by have := HZ1.out; have := HZ2.out; have := HZ3.out; have := HZ4.out; have := HZ5.out; have := HZ6.out; have := HZ7.out; have := HZ8.out; have := HZ9.out; have := HZ10.out; have := HZ11.out; have := HZ12.out; have := HZ13.out; have := HZ14.out; have := HZ15.out; have := HZ16.out; have := HZ17.out; have := HZ18.out; have := HZ19.out;  omega, by have := HZ1.out; have := HZ2.out; have := HZ3.out; have := HZ4.out; have := HZ5.out; have := HZ6.out; have := HZ7.out; have := HZ8.out; have := HZ9.out; have := HZ10.out; have := HZ11.out; have := HZ12.out; have := HZ13.out; have := HZ14.out; have := HZ15.out; have := HZ16.out; have := HZ17.out; have := HZ18.out; have := HZ19.out;  omega, by have := HZ1.out; have := HZ2.out; have := HZ3.out; have := HZ4.out; have := HZ5.out; have := HZ6.out; have := HZ7.out; have := HZ8.out; have := HZ9.out; have := HZ10.out; have := HZ11.out; have := HZ12.out; have := HZ13.out; have := HZ14.out; have := HZ15.out; have := HZ16.out; have := HZ17.out; have := HZ18.out; have := HZ19.out;  omega, by have := HZ1.out; have := HZ2.out; have := HZ3.out; have := HZ4.out; have := HZ5.out; have := HZ6.out; have := HZ7.out; have := HZ8.out; have := HZ9.out; have := HZ10.out; have := HZ11.out; have := HZ12.out; have := HZ13.out; have := HZ14.out; have := HZ15.out; have := HZ16.out; have := HZ17.out; have := HZ18.out; have := HZ19.out;  omega, by have := HZ1.out; have := HZ2.out; have := HZ3.out; have := HZ4.out; have := HZ5.out; have := HZ6.out; have := HZ7.out; have := HZ8.out; have := HZ9.out; have := HZ10.out; have := HZ11.out; have := HZ12.out; have := HZ13.out; have := HZ14.out; have := HZ15.out; have := HZ16.out; have := HZ17.out; have := HZ18.out; have := HZ19.out;  omega, HBs13_19.out⟩
      case rest =>
        obtain ⟨bh, ph, kh, loh, hih, rfl, rfl, hkq, hoq, hl1h, hl2h, hl3h, hl4h, hl5h, hb⟩ := hcut
        rename World => w14
        have HB14 : Hid (Below w.heap.size w w14) := Lib.hid (HB13.out.trans (hb.mono HB13.out.size))
        have HZ14 : Hid (w13.heap.size ≤ w14.heap.size) := Lib.hid hb.size
        have HRf014 := Lib.hid (HRf00.out.below HB14.out (Nat.le_refl _))
        have HKa014 := Lib.hid ((hb.block _ (lt_of_block HKa013.out)).trans HKa013.out)
        have HKa114 := Lib.hid ((hb.block _ (lt_of_block HKa113.out)).trans HKa113.out)
        have HKw014 := Lib.hid ((hb.block _ (lt_of_block HKw013.out)).trans HKw013.out)
        have HOw14 := Lib.hid (HOw13.out.next hb)
        have HKg014 := Lib.hid ((hb.block _ (lt_of_block HKg013.out)).trans HKg013.out)
        have HOg14 := Lib.hid (HOg13.out.next hb)
        clear hb
        have hlth := lt_of_block hkq
        have HKh014 := Lib.hid (hkq)
        have HOh14 := Lib.hid (hoq)
        clear hkq hoq
        clear ca00 ca01 ca02 fa00 fa01 fa02 lta0 ca10 ca11 ca12 fa10 fa11 fa12 lta1 cw00 cw01 cw02 fw00 fw01 fw02 ltw0 cg00 cg01 cg02 fg00 fg01 fg02 ltg0
        have lta0 := lt_of_block HKa014.out
        obtain ⟨ca00, ca01, ca02, fa00, fa01, fa02⟩ := cell3 HKa014.out
        have lta1 := lt_of_block HKa114.out
        obtain ⟨ca10, ca11, ca12, fa10, fa11, fa12⟩ := cell3 HKa114.out
        have ltw0 := lt_of_block HKw014.out
        obtain ⟨cw00, cw01, cw02, fw00, fw01, fw02⟩ := cell3 HKw014.out
        have ltg0 := lt_of_block HKg014.out
        obtain ⟨cg00, cg01, cg02, fg00, fg01, fg02⟩ := cell3 HKg014.out
        have lth0 := lt_of_block HKh014.out
        obtain ⟨ch00, ch01, ch02, fh00, fh01, fh02⟩ := cell3 HKh014.out
        go_wp2_with fail
        refine (eqFrame_yes fu fl _ _ qs _ (RodsR.of_own HOh14.out.1) (RodsR.of_own HOw14.out.1)).mono ?_
        rintro e w15 ⟨rfl, hb⟩
        have HB15 : Hid (Below w.heap.size w w15) := Lib.hid (HB14.out.trans (hb.mono HB14.out.size))
        have HZ15 : Hid (w14.heap.size ≤ w15.heap.size) := Lib.hid hb.size
        have HRf015 := Lib.hid (HRf00.out.below HB15.out (Nat.le_refl _))
        have HKa015 := Lib.hid ((hb.block _ (lt_of_block HKa014.out)).trans HKa014.out)
        have HKa115 := Lib.hid ((hb.block _ (lt_of_block HKa114.out)).trans HKa114.out)
        have HKw015 := Lib.hid ((hb.block _ (lt_of_block HKw014.out)).trans HKw014.out)
        have HOw15 := Lib.hid (HOw14.out.next hb)
        have HKg015 := Lib.hid ((hb.block _ (lt_of_block HKg014.out)).trans HKg014.out)
        have HOg15 := Lib.hid (HOg14.out.next hb)
        have HKh015 := Lib.hid ((hb.block _ (lt_of_block HKh014.out)).trans HKh014.out)
        have HOh15 := Lib.hid (HOh14.out.next hb)
        clear hb
        clear ca00 ca01 ca02 fa00 fa01 fa02 lta0 ca10 ca11 ca12 fa10 fa11 fa12 lta1 cw00 cw01 cw02 fw00 fw01 fw02 ltw0 cg00 cg01 cg02 fg00 fg01 fg02 ltg0 ch00 ch01 ch02 fh00 fh01 fh02 lth0
        have lta0 := lt_of_block HKa015.out
        obtain ⟨ca00, ca01, ca02, fa00, fa01, fa02⟩ := cell3 HKa015.out
        have lta1 := lt_of_block HKa115.out
        obtain ⟨ca10, ca11, ca12, fa10, fa11, fa12⟩ := cell3 HKa115.out
        have ltw0 := lt_of_block HKw015.out
        obtain ⟨cw00, cw01, cw02, fw00, fw01, fw02⟩ := cell3 HKw015.out
        have ltg0 := lt_of_block HKg015.out
        obtain ⟨cg00, cg01, cg02, fg00, fg01, fg02⟩ := cell3 HKg015.out
        have lth0 := lt_of_block HKh015.out
        obtain ⟨ch00, ch01, ch02, fh00, fh01, fh02⟩ := cell3 HKh015.out
        go_wp2_with fail
        refine (heldFrame_any fu fl _ qs.length _ (RowR.of_own HOg15.out.1) (by omega)).mono ?_
        rintro e w16 ⟨rfl, hb⟩
        have HB16 : Hid (Below w.heap.size w w16) := Lib.hid (HB15.out.trans (hb.mono HB15.out.size))
        have HZ16 : Hid (w15.heap.size ≤ w16.heap.size) := Lib.hid hb.size
        have HRf016 := Lib.hid (HRf00.out.below HB16.out (Nat.le_refl _))
        have HKa016 := Lib.hid ((hb.block _ (lt_of_block HKa015.out)).trans HKa015.out)
        have HKa116 := Lib.hid ((hb.block _ (lt_of_block HKa115.out)).trans HKa115.out)
        have HKw016 := Lib.hid ((hb.block _ (lt_of_block HKw015.out)).trans HKw015.out)
        have HOw16 := Lib.hid (HOw15.out.next hb)
        have HKg016 := Lib.hid ((hb.block _ (lt_of_block HKg015.out)).trans HKg015.out)
        have HOg16 := Lib.hid (HOg15.out.next hb)
        have HKh016 := Lib.hid ((hb.block _ (lt_of_block HKh015.out)).trans HKh015.out)
        have HOh16 := Lib.hid (HOh15.out.next hb)
        clear hb
        clear ca00 ca01 ca02 fa00 fa01 fa02 lta0 ca10 ca11 ca12 fa10 fa11 fa12 lta1 cw00 cw01 cw02 fw00 fw01 fw02 ltw0 cg00 cg01 cg02 fg00 fg01 fg02 ltg0 ch00 ch01 ch02 fh00 fh01 fh02 lth0
        have lta0 := lt_of_block HKa016.out
        obtain ⟨ca00, ca01, ca02, fa00, fa01, fa02⟩ := cell3 HKa016.out
        have lta1 := lt_of_block HKa116.out
        obtain ⟨ca10, ca11, ca12, fa10, fa11, fa12⟩ := cell3 HKa116.out
        have ltw0 := lt_of_block HKw016.out
        obtain ⟨cw00, cw01, cw02, fw00, fw01, fw02⟩ := cell3 HKw016.out
        have ltg0 := lt_of_block HKg016.out
        obtain ⟨cg00, cg01, cg02, fg00, fg01, fg02⟩ := cell3 HKg016.out
        have lth0 := lt_of_block HKh016.out
        obtain ⟨ch00, ch01, ch02, fh00, fh01, fh02⟩ := cell3 HKh016.out
        go_wp2_with fail
        go_ret
        exact ⟨rfl, HB16.out⟩
end Go.Proofs.Ytpdckmhhmgkaaaa
