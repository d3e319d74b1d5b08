/- The law on TakeAway: it returns true where the model and the program give one answer. -/
import Derived.Test.YtgmaelgihlcaeaaBoards
import Derived.Test.YtgmaelgihlcaeaaReg
import Derived.Deep.RegionHeld3
import Derived.Deep.Cut
namespace Go.Proofs.Ytgmaelgihlcaeaa
set_option linter.unusedVariables false
open Go.RowKit

set_option maxRecDepth 100000 in
set_option maxHeartbeats 3200000 in
theorem lawTakeAway (w : World) (sv0 tv0 : Value) (ls0 ss0 : List Int) (h0 : BrdR w sv0 tv0 ls0 ss0) (sv1 tv1 : Value) (ls1 ss1 : List Int) (h1 : BrdR w sv1 tv1 ls1 ss1) (qs qt : List Int) (hq : qs.length ≤ 1000 ∧ qt.length ≤ 1000) (r1 : Bool) 
    (hS : ls0.length ≤ 1048576 ∧ ss0.length ≤ 1048576 → ls1.length ≤ 1048576 ∧ ss1.length ≤ 1048576 → ∀ s0 t0 s1 t1 w, BrdR w s0 t0 ls0 ss0 → BrdR w s1 t1 ls1 ss1 → Calls Try.prog 34 #[.agg #[s0, t0], .agg #[s1, t1]] w fun e w' => (∃ s1 t1, e = .returned (.tuple #[.agg #[s1, t1], .bool r1]) ∧ OwB w.heap.size w'.heap.size w' s1 t1 qs qt) ∧ Below w.heap.size w w') 
    (hI : ls0.length ≤ 1048576 ∧ ss0.length ≤ 1048576 → ls1.length ≤ 1048576 ∧ ss1.length ≤ 1048576 → ∀ s0 t0 s1 t1 w, BrdR w s0 t0 ls0 ss0 → BrdR w s1 t1 ls1 ss1 → Calls Try.prog 35 #[.agg #[s0, t0], .agg #[s1, t1]] w fun e w' => (∃ s1 t1, e = .returned (.tuple #[.agg #[s1, t1], .bool r1]) ∧ OwB w.heap.size w'.heap.size w' s1 t1 qs qt) ∧ Below w.heap.size w w') :
    Calls Try.prog 11 #[.agg #[sv0, tv0], .agg #[sv1, tv1]] w fun e w' => e = .returned (.bool true) ∧ Below w.heap.size w w' := by
  have HS := Lib.hid hS
  have HI := Lib.hid hI
  obtain ⟨ad0, cp0, ae0, cq0, rfl, rfl⟩ := h0.form
  obtain ⟨ad1, cp1, ae1, cq1, rfl, rfl⟩ := h1.form
  obtain ⟨hq1, hq2⟩ := hq
  have hqk : ¬ (1 + (qs.length : Int) + (qt.length : Int) < 0) := by omega
  have hqk' : ((1 + (qs.length : Int) + (qt.length : Int)) != (1 + (qs.length : Int) + (qt.length : Int))) = false := by simp
  have HB0 : Hid (Below w.heap.size w w) := Lib.hid (Below.refl _ _)
  have HRf00 := Lib.hid (h0)
  have HRf10 := Lib.hid (h1)
  clear hS hI h0 h1
  have hr1 : (r1 != r1) = false := by simp
  go_enter Try.func11, Try.ntmps11
  go_wp2_with fail
  have hb : Below w.heap.size w (w.alloc (.cells #[.slice ad0 ls0.length cp0, .slice ae0 ss0.length cq0] 24)) := (Below.refl _ _).alloc (Nat.le_refl _) _
  have hk : (w.alloc (.cells #[.slice ad0 ls0.length cp0, .slice ae0 ss0.length cq0] 24)).heap[w.heap.size]? = some (.cells #[.slice ad0 ls0.length cp0, .slice ae0 ss0.length cq0] 24 (0, 0)) := alloc_at rfl
  have hz : (w.alloc (.cells #[.slice ad0 ls0.length cp0, .slice ae0 ss0.length cq0] 24)).heap.size = w.heap.size + 1 := by simp
  generalize w.alloc (.cells #[.slice ad0 ls0.length cp0, .slice ae0 ss0.length cq0] 24) = w1 at hb hk hz ⊢
  have HB1 : Hid (Below w.heap.size w w1) := Lib.hid (HB0.out.trans (hb.mono HB0.out.size))
  have HZ1 : Hid (w.heap.size ≤ w1.heap.size) := Lib.hid hb.size
  have HRf01 := Lib.hid (HRf00.out.below HB1.out (Nat.le_refl _))
  have HRf11 := Lib.hid (HRf10.out.below HB1.out (Nat.le_refl _))
  have HKa01 := Lib.hid hk
  replace HZ1 : Hid (w.heap.size < w1.heap.size) := Lib.hid (by omega)
  have HE1 := Lib.hid hz
  clear hb hk hz
  have hb : Below w1.heap.size w1 (w1.alloc (.cells #[.slice ad1 ls1.length cp1, .slice ae1 ss1.length cq1] 24)) := (Below.refl _ _).alloc (Nat.le_refl _) _
  have hk : (w1.alloc (.cells #[.slice ad1 ls1.length cp1, .slice ae1 ss1.length cq1] 24)).heap[w.heap.size + 1]? = some (.cells #[.slice ad1 ls1.length cp1, .slice ae1 ss1.length cq1] 24 (0, 0)) := alloc_at (by have := HE1.out; omega)
  have hz : (w1.alloc (.cells #[.slice ad1 ls1.length cp1, .slice ae1 ss1.length cq1] 24)).heap.size = w1.heap.size + 1 := by simp
  generalize w1.alloc (.cells #[.slice ad1 ls1.length cp1, .slice ae1 ss1.length cq1] 24) = w2 at hb hk hz ⊢
  have HB2 : Hid (Below w.heap.size w w2) := Lib.hid (HB1.out.trans (hb.mono HB1.out.size))
  have HZ2 : Hid (w1.heap.size ≤ w2.heap.size) := Lib.hid hb.size
  have HRf02 := Lib.hid (HRf00.out.below HB2.out (Nat.le_refl _))
  have HRf12 := Lib.hid (HRf10.out.below HB2.out (Nat.le_refl _))
  have HKa02 := Lib.hid ((hb.block _ (lt_of_block HKa01.out)).trans HKa01.out)
  have HKa12 := Lib.hid hk
  replace HZ2 : Hid (w1.heap.size < w2.heap.size) := Lib.hid (by omega)
  have HE2 := Lib.hid hz
  clear hb hk hz
  refine (szBoard_any _ _ ls0 ss0 1048576 _ HRf02.out (by omega) (by omega)).mono ?_
  rintro e w3 ⟨⟨l0, rfl, hl0, hk0⟩, hb⟩
  have HB3 : Hid (Below w.heap.size w w3) := Lib.hid (HB2.out.trans (hb.mono HB2.out.size))
  have HZ3 : Hid (w2.heap.size ≤ w3.heap.size) := Lib.hid hb.size
  have HRf03 := Lib.hid (HRf00.out.below HB3.out (Nat.le_refl _))
  have HRf13 := Lib.hid (HRf10.out.below HB3.out (Nat.le_refl _))
  have HKa03 := Lib.hid ((hb.block _ (lt_of_block HKa02.out)).trans HKa02.out)
  have HKa13 := Lib.hid ((hb.block _ (lt_of_block HKa12.out)).trans HKa12.out)
  clear hb
  by_cases hr : l0 < 0
  · clear hk0
    have lta0 := lt_of_block HKa03.out
    obtain ⟨ca00, ca01, fa00, fa01⟩ := cell2 HKa03.out
    have lta1 := lt_of_block HKa13.out
    obtain ⟨ca10, ca11, fa10, fa11⟩ := cell2 HKa13.out
    go_wp2_with fail
    go_ret
    exact ⟨rfl, HB3.out⟩
  have hn0 := hk0 (by omega)
  clear hk0
  have lta0 := lt_of_block HKa03.out
  obtain ⟨ca00, ca01, fa00, fa01⟩ := cell2 HKa03.out
  have lta1 := lt_of_block HKa13.out
  obtain ⟨ca10, ca11, fa10, fa11⟩ := cell2 HKa13.out
  go_wp2_with fail
  refine (szBoard_any _ _ ls1 ss1 l0 _ HRf13.out (by omega) (by omega)).mono ?_
  rintro e w4 ⟨⟨l1, rfl, hl1, hk1⟩, hb⟩
  have HB4 : Hid (Below w.heap.size w w4) := Lib.hid (HB3.out.trans (hb.mono HB3.out.size))
  have HZ4 : Hid (w3.heap.size ≤ w4.heap.size) := Lib.hid hb.size
  have HRf04 := Lib.hid (HRf00.out.below HB4.out (Nat.le_refl _))
  have HRf14 := Lib.hid (HRf10.out.below HB4.out (Nat.le_refl _))
  have HKa04 := Lib.hid ((hb.block _ (lt_of_block HKa03.out)).trans HKa03.out)
  have HKa14 := Lib.hid ((hb.block _ (lt_of_block HKa13.out)).trans HKa13.out)
  clear hb
  by_cases hr : l1 < 0
  · clear hk1
    clear ca00 ca01 fa00 fa01 lta0 ca10 ca11 fa10 fa11 lta1
    have lta0 := lt_of_block HKa04.out
    obtain ⟨ca00, ca01, fa00, fa01⟩ := cell2 HKa04.out
    have lta1 := lt_of_block HKa14.out
    obtain ⟨ca10, ca11, fa10, fa11⟩ := cell2 HKa14.out
    go_wp2_with fail
    go_ret
    exact ⟨rfl, HB4.out⟩
  have hn1 := hk1 (by omega)
  clear hk1
  clear ca00 ca01 fa00 fa01 lta0 ca10 ca11 fa10 fa11 lta1
  have lta0 := lt_of_block HKa04.out
  obtain ⟨ca00, ca01, fa00, fa01⟩ := cell2 HKa04.out
  have lta1 := lt_of_block HKa14.out
  obtain ⟨ca10, ca11, fa10, fa11⟩ := cell2 HKa14.out
  go_wp2_with fail
  clear ca00 ca01 fa00 fa01 lta0 ca10 ca11 fa10 fa11 lta1
  have lta0 := lt_of_block HKa04.out
  obtain ⟨ca00, ca01, fa00, fa01⟩ := cell2 HKa04.out
  have lta1 := lt_of_block HKa14.out
  obtain ⟨ca10, ca11, fa10, fa11⟩ := cell2 HKa14.out
  go_cut [6, 7] from 27 (fun p q wc => ∃ (b : Nat) (pa : Option Addr) (ka : Nat) (pb : Option Addr) (kb lo hi : Nat), p = .pointer (some ⟨b, 0, none⟩) ∧ q = .bool r1 ∧ wc.heap[b]? = some (.cells #[.slice pa qs.length ka, .slice pb qt.length kb] 27 (0, 0)) ∧ OwB lo hi wc (.slice pa qs.length ka) (.slice pb qt.length kb) qs qt ∧ w4.heap.size ≤ lo ∧ lo ≤ wc.heap.size ∧ lo ≤ hi ∧ hi ≤ wc.heap.size ∧ (b < lo ∨ hi ≤ b) ∧ w4.heap.size ≤ b ∧ Below w4.heap.size w4 wc)
  case first =>
    have HBs4_4 : Hid (Below w4.heap.size w4 w4) := Lib.hid (Below.refl _ _)
    refine wp_region_held_drew (S := (fun w' => w'.cell? ⟨w.heap.size, 0, none⟩ = some (.slice ad0 ls0.length cp0) ∧ w'.cell? ⟨w.heap.size, 1, none⟩ = some (.slice ae0 ss0.length cq0) ∧ w'.cell? ⟨w.heap.size + 1, 0, none⟩ = some (.slice ad1 ls1.length cp1) ∧ w'.cell? ⟨w.heap.size + 1, 1, none⟩ = some (.slice ae1 ss1.length cq1))) (by kernel_rfl) (⟨ca00, ca01, ca10, ca11⟩) (fun hHeld => ?_)
    have hb : Below w4.heap.size w4 w4.drew := (Below.refl _ _).drew
    generalize w4.drew = w5 at hb hHeld ⊢
    have HB5 : Hid (Below w.heap.size w w5) := Lib.hid (HB4.out.trans (hb.mono HB4.out.size))
    have HZ5 : Hid (w4.heap.size ≤ w5.heap.size) := Lib.hid hb.size
    have HRf05 := Lib.hid (HRf00.out.below HB5.out (Nat.le_refl _))
    have HRf15 := Lib.hid (HRf10.out.below HB5.out (Nat.le_refl _))
    have HKa05 := Lib.hid ((hb.block _ (lt_of_block HKa04.out)).trans HKa04.out)
    have HKa15 := Lib.hid ((hb.block _ (lt_of_block HKa14.out)).trans HKa14.out)
    have HBs4_5 : Hid (Below w4.heap.size w4 w5) := Lib.hid (HBs4_4.out.trans (hb.mono HBs4_4.out.size))
    clear hb
    clear ca00 ca01 fa00 fa01 lta0 ca10 ca11 fa10 fa11 lta1
    have lta0 := lt_of_block HKa05.out
    obtain ⟨ca00, ca01, fa00, fa01⟩ := cell2 HKa05.out
    have lta1 := lt_of_block HKa15.out
    obtain ⟨ca10, ca11, fa10, fa11⟩ := cell2 HKa15.out
    refine take1 (i := 0) (v := ?v1) (some 28) rfl rfl (by kernel_rfl) (by kernel_rfl) (by kernel_rfl) (fun _ _ _ h => h) (Or.inl ⟨by rfl, ?y1⟩) (by assumption) ?r1
    case y1 => (intro w hSw; (try dsimp only at hSw); go_simp; (first | done | with_reducible rfl))
    try simp only [Act.put, List.setIfInBounds_toArray, List.set_cons_zero, List.set_cons_succ]
    refine take1 (i := 2) (v := ?v2) (some 30) rfl rfl (by kernel_rfl) (by kernel_rfl) (by kernel_rfl) (fun _ _ _ h => h) (Or.inl ⟨by rfl, ?y2⟩) (by assumption) ?r2
    case y2 => (intro w hSw; (try dsimp only at hSw); go_simp; (first | done | with_reducible rfl))
    try simp only [Act.put, List.setIfInBounds_toArray, List.set_cons_zero, List.set_cons_succ]
    refine wpAnyH_ready (rs := [1, 8]) (by kernel_rfl) (by simp) ?_
    refine AllReadyH.cons rfl (fun K hK => ?_) (AllReadyH.cons rfl (fun K hK => ?_) AllReadyH.nil)
    · go_simp
      go_at_call 15
      refine (toBoard_any _ _ ls0 ss0 _ HRf05.out hn0.1 hn0.2).mono ?_
      rintro e w6 ⟨⟨swc0, twc0, rfl, ho⟩, hb⟩
      have HB6 : Hid (Below w.heap.size w w6) := Lib.hid (HB5.out.trans (hb.mono HB5.out.size))
      have HZ6 : Hid (w5.heap.size ≤ w6.heap.size) := Lib.hid hb.size
      have HRf06 := Lib.hid (HRf00.out.below HB6.out (Nat.le_refl _))
      have HRf16 := Lib.hid (HRf10.out.below HB6.out (Nat.le_refl _))
      have HKa06 := Lib.hid ((hb.block _ (lt_of_block HKa05.out)).trans HKa05.out)
      have HKa16 := Lib.hid ((hb.block _ (lt_of_block HKa15.out)).trans HKa15.out)
      have HBs4_6 : Hid (Below w4.heap.size w4 w6) := Lib.hid (HBs4_5.out.trans (hb.mono HBs4_5.out.size))
      clear hb
      obtain ⟨pwc0, kwc0, ppwc0, kkwc0, rfl, rfl⟩ := ho.form
      have HRwc06 := Lib.hid (ho.reads)
      have HBs6_6 : Hid (Below w6.heap.size w6 w6) := Lib.hid (Below.refl _ _)
      clear ho
      clear ca00 ca01 fa00 fa01 lta0 ca10 ca11 fa10 fa11 lta1
      have lta0 := lt_of_block HKa06.out
      obtain ⟨ca00, ca01, fa00, fa01⟩ := cell2 HKa06.out
      have lta1 := lt_of_block HKa16.out
      obtain ⟨ca10, ca11, fa10, fa11⟩ := cell2 HKa16.out
      try go_simp
      refine hK.out _ _ (⟨ca00, ca01, ca10, ca11⟩) (fun hHeld => ?_)
      clear hK K
      try simp only [Act.put, List.setIfInBounds_toArray, List.set_cons_zero, List.set_cons_succ]
      refine wpAnyH_ready (rs := [3, 8]) (by kernel_rfl) (by simp) ?_
      refine AllReadyH.cons rfl (fun K hK => ?_) (AllReadyH.cons rfl (fun K hK => ?_) AllReadyH.nil)
      · go_simp
        go_at_call 15
        refine (toBoard_any _ _ ls1 ss1 _ HRf16.out hn1.1 hn1.2).mono ?_
        rintro e w7 ⟨⟨swc1, twc1, rfl, ho⟩, hb⟩
        have HB7 : Hid (Below w.heap.size w w7) := Lib.hid (HB6.out.trans (hb.mono HB6.out.size))
        have HZ7 : Hid (w6.heap.size ≤ w7.heap.size) := Lib.hid hb.size
        have HRf07 := Lib.hid (HRf00.out.below HB7.out (Nat.le_refl _))
        have HRf17 := Lib.hid (HRf10.out.below HB7.out (Nat.le_refl _))
        have HKa07 := Lib.hid ((hb.block _ (lt_of_block HKa06.out)).trans HKa06.out)
        have HKa17 := Lib.hid ((hb.block _ (lt_of_block HKa16.out)).trans HKa16.out)
        have HRwc07 := Lib.hid (HRwc06.out.below hb (Nat.le_refl _))
        have HBs4_7 : Hid (Below w4.heap.size w4 w7) := Lib.hid (HBs4_6.out.trans (hb.mono HBs4_6.out.size))
        have HBs6_7 : Hid (Below w6.heap.size w6 w7) := Lib.hid (HBs6_6.out.trans (hb.mono HBs6_6.out.size))
        clear hb
        obtain ⟨pwc1, kwc1, ppwc1, kkwc1, rfl, rfl⟩ := ho.form
        have HRwc17 := Lib.hid (ho.reads)
        have HBs7_7 : Hid (Below w7.heap.size w7 w7) := Lib.hid (Below.refl _ _)
        clear ho
        clear ca00 ca01 fa00 fa01 lta0 ca10 ca11 fa10 fa11 lta1
        have lta0 := lt_of_block HKa07.out
        obtain ⟨ca00, ca01, fa00, fa01⟩ := cell2 HKa07.out
        have lta1 := lt_of_block HKa17.out
        obtain ⟨ca10, ca11, fa10, fa11⟩ := cell2 HKa17.out
        try go_simp
        refine hK.out _ _ (⟨ca00, ca01, ca10, ca11⟩) (fun hHeld => ?_)
        clear hK K
        try simp only [Act.put, List.setIfInBounds_toArray, List.set_cons_zero, List.set_cons_succ]
        refine wpAnyH_ready (rs := [4, 8]) (by kernel_rfl) (by simp) ?_
        refine AllReadyH.cons rfl (fun K hK => ?_) (AllReadyH.cons rfl (fun K hK => ?_) AllReadyH.nil)
        · go_simp
          go_at_call 34
          refine (HS.out hn0 hn1 _ _ _ _ _ HRwc07.out HRwc17.out).mono ?_
          rintro e w8 ⟨⟨sw, tw, rfl, ho⟩, hb⟩
          have HB8 : Hid (Below w.heap.size w w8) := Lib.hid (HB7.out.trans (hb.mono HB7.out.size))
          have HZ8 : Hid (w7.heap.size ≤ w8.heap.size) := Lib.hid hb.size
          have HRf08 := Lib.hid (HRf00.out.below HB8.out (Nat.le_refl _))
          have HRf18 := Lib.hid (HRf10.out.below HB8.out (Nat.le_refl _))
          have HKa08 := Lib.hid ((hb.block _ (lt_of_block HKa07.out)).trans HKa07.out)
          have HKa18 := Lib.hid ((hb.block _ (lt_of_block HKa17.out)).trans HKa17.out)
          have HRwc08 := Lib.hid (HRwc07.out.below hb (Nat.le_refl _))
          have HRwc18 := Lib.hid (HRwc17.out.below hb (Nat.le_refl _))
          have HBs4_8 : Hid (Below w4.heap.size w4 w8) := Lib.hid (HBs4_7.out.trans (hb.mono HBs4_7.out.size))
          have HBs6_8 : Hid (Below w6.heap.size w6 w8) := Lib.hid (HBs6_7.out.trans (hb.mono HBs6_7.out.size))
          have HBs7_8 : Hid (Below w7.heap.size w7 w8) := Lib.hid (HBs7_7.out.trans (hb.mono HBs7_7.out.size))
          clear hb
          obtain ⟨pw, kw, ppw, kkw, rfl, rfl⟩ := ho.form
          have HOw8 := Lib.hid (ho)
          clear ho
          clear ca00 ca01 fa00 fa01 lta0 ca10 ca11 fa10 fa11 lta1
          have lta0 := lt_of_block HKa08.out
          obtain ⟨ca00, ca01, fa00, fa01⟩ := cell2 HKa08.out
          have lta1 := lt_of_block HKa18.out
          obtain ⟨ca10, ca11, fa10, fa11⟩ := cell2 HKa18.out
          try go_simp
          refine hK.out _ _ (⟨ca00, ca01, ca10, ca11⟩) (fun hHeld => ?_)
          clear hK K
          try simp only [Act.put, List.setIfInBounds_toArray, List.set_cons_zero, List.set_cons_succ]
          refine take1 (i := 5) (v := ?v3) (some 27) rfl rfl (by kernel_rfl) (by kernel_rfl) (by kernel_rfl) (fun _ _ _ h => h) (Or.inl ⟨by rfl, ?y3⟩) (by assumption) ?r3
          case y3 => (intro w hSw; (try dsimp only at hSw); go_simp; (first | done | with_reducible rfl))
          try simp only [Act.put, List.setIfInBounds_toArray, List.set_cons_zero, List.set_cons_succ]
          refine take1 (i := 6) (v := ?v4) (some 33) rfl rfl (by kernel_rfl) (by kernel_rfl) (by kernel_rfl) (fun _ _ _ h => h) (Or.inl ⟨by rfl, ?y4⟩) (by assumption) ?r4
          case y4 => (intro w hSw; (try dsimp only at hSw); go_simp; (first | done | with_reducible rfl))
          try simp only [Act.put, List.setIfInBounds_toArray, List.set_cons_zero, List.set_cons_succ]
          refine take1 (i := 7) (v := ?v5) (some 34) rfl rfl (by kernel_rfl) (by kernel_rfl) (by kernel_rfl) (fun _ _ _ h => h) (Or.inl ⟨by rfl, ?y5⟩) (by assumption) ?r5
          case y5 => (intro w hSw; (try dsimp only at hSw); go_simp; (first | done | with_reducible rfl))
          try simp only [Act.put, List.setIfInBounds_toArray, List.set_cons_zero, List.set_cons_succ]
          refine wpAnyH_ready (rs := [8]) (by kernel_rfl) (by simp) ?_
          refine AllReadyH.cons rfl (fun K hK => ?_) AllReadyH.nil
          go_simp
          have hb : Below w8.heap.size w8 (w8.alloc (.cells #[.slice none 0 0, .slice none 0 0] 27)) := (Below.refl _ _).alloc (Nat.le_refl _) _
          have hk : (w8.alloc (.cells #[.slice none 0 0, .slice none 0 0] 27)).heap[w8.heap.size]? = some (.cells #[.slice none 0 0, .slice none 0 0] 27 (0, 0)) := alloc_at rfl
          have hz : (w8.alloc (.cells #[.slice none 0 0, .slice none 0 0] 27)).heap.size = w8.heap.size + 1 := by simp
          generalize w8.alloc (.cells #[.slice none 0 0, .slice none 0 0] 27) = w9 at hb hk hz ⊢
          have HB9 : Hid (Below w.heap.size w w9) := Lib.hid (HB8.out.trans (hb.mono HB8.out.size))
          have HZ9 : Hid (w8.heap.size ≤ w9.heap.size) := Lib.hid hb.size
          have HRf09 := Lib.hid (HRf00.out.below HB9.out (Nat.le_refl _))
          have HRf19 := Lib.hid (HRf10.out.below HB9.out (Nat.le_refl _))
          have HKa09 := Lib.hid ((hb.block _ (lt_of_block HKa08.out)).trans HKa08.out)
          have HKa19 := Lib.hid ((hb.block _ (lt_of_block HKa18.out)).trans HKa18.out)
          have HRwc09 := Lib.hid (HRwc08.out.below hb (Nat.le_refl _))
          have HRwc19 := Lib.hid (HRwc18.out.below hb (Nat.le_refl _))
          have HOw9 := Lib.hid (HOw8.out.next hb)
          have HBs4_9 : Hid (Below w4.heap.size w4 w9) := Lib.hid (HBs4_8.out.trans (hb.mono HBs4_8.out.size))
          have HBs6_9 : Hid (Below w6.heap.size w6 w9) := Lib.hid (HBs6_8.out.trans (hb.mono HBs6_8.out.size))
          have HBs7_9 : Hid (Below w7.heap.size w7 w9) := Lib.hid (HBs7_8.out.trans (hb.mono HBs7_8.out.size))
          have HKw09 := Lib.hid hk
          replace HZ9 : Hid (w8.heap.size < w9.heap.size) := Lib.hid (by omega)
          have HE9 := Lib.hid hz
          clear hb hk hz
          clear ca00 ca01 fa00 fa01 lta0 ca10 ca11 fa10 fa11 lta1
          have lta0 := lt_of_block HKa09.out
          obtain ⟨ca00, ca01, fa00, fa01⟩ := cell2 HKa09.out
          have lta1 := lt_of_block HKa19.out
          obtain ⟨ca10, ca11, fa10, fa11⟩ := cell2 HKa19.out
          have ltw0 := lt_of_block HKw09.out
          obtain ⟨cw00, cw01, fw00, fw01⟩ := cell2 HKw09.out
          refine hK.out _ _ (⟨ca00, ca01, ca10, ca11⟩) (fun hHeld => ?_)
          clear hK K
          try simp only [Act.put, List.setIfInBounds_toArray, List.set_cons_zero, List.set_cons_succ]
          refine wpAnyH_ready (rs := [9]) (by kernel_rfl) (by simp) ?_
          refine AllReadyH.cons rfl (fun K hK => ?_) AllReadyH.nil
          go_simp
          have hkb := box2_set HKw09.out (.slice pw qs.length kw) (.slice ppw qt.length kkw)
          have hm : Btw w8.heap.size (w8.heap.size + 1) w9 ((w9.setCell ⟨w8.heap.size, 0, none⟩ (.slice pw qs.length kw)).setCell ⟨w8.heap.size, 1, none⟩ (.slice ppw qt.length kkw)) := ((Btw.refl w8.heap.size (w8.heap.size + 1) w9).setCell (p := ⟨w8.heap.size, 0, none⟩) (Nat.le_refl _) (Nat.lt_succ_self _) _).setCell (p := ⟨w8.heap.size, 1, none⟩) (Nat.le_refl _) (Nat.lt_succ_self _) _
          generalize (w9.setCell ⟨w8.heap.size, 0, none⟩ (.slice pw qs.length kw)).setCell ⟨w8.heap.size, 1, none⟩ (.slice ppw qt.length kkw) = w10 at hkb hm ⊢
          have HZ10 : Hid (w9.heap.size ≤ w10.heap.size) := Lib.hid hm.size
          have HB10 : Hid (Below w.heap.size w w10) := Lib.hid (HB9.out.trans (hm.below.mono (by have := HZ1.out; have := HZ2.out; have := HZ3.out; have := HZ4.out; have := HZ5.out; have := HZ6.out; have := HZ7.out; have := HZ8.out; have := HZ9.out; have := HB0.out.size; omega)))
          have HRf010 := Lib.hid (HRf00.out.below HB10.out (Nat.le_refl _))
          have HRf110 := Lib.hid (HRf10.out.below HB10.out (Nat.le_refl _))
          have HKa010 := Lib.hid ((hm.block _ (by have := lt_of_block HKa09.out; have := HZ1.out; have := HZ2.out; have := HZ3.out; have := HZ4.out; have := HZ5.out; have := HZ6.out; have := HZ7.out; have := HZ8.out; have := HZ9.out; omega)).trans HKa09.out)
          have HKa110 := Lib.hid ((hm.block _ (by have := lt_of_block HKa19.out; have := HZ1.out; have := HZ2.out; have := HZ3.out; have := HZ4.out; have := HZ5.out; have := HZ6.out; have := HZ7.out; have := HZ8.out; have := HZ9.out; omega)).trans HKa19.out)
          have HOw10 := Lib.hid (HOw9.out.btw hm (by have := HZ1.out; have := HZ2.out; have := HZ3.out; have := HZ4.out; have := HZ5.out; have := HZ6.out; have := HZ7.out; have := HZ8.out; have := HZ9.out; omega))
          have HBs4_10 : Hid (Below w4.heap.size w4 w10) := Lib.hid (HBs4_9.out.trans (hm.below.mono (by have := HZ1.out; have := HZ2.out; have := HZ3.out; have := HZ4.out; have := HZ5.out; have := HZ6.out; have := HZ7.out; have := HZ8.out; have := HZ9.out; omega)))
          clear hm
          have HKw010 := Lib.hid (hkb)
          clear hkb
          clear ca00 ca01 fa00 fa01 lta0 ca10 ca11 fa10 fa11 lta1 cw00 cw01 fw00 fw01 ltw0
          have lta0 := lt_of_block HKa010.out
          obtain ⟨ca00, ca01, fa00, fa01⟩ := cell2 HKa010.out
          have lta1 := lt_of_block HKa110.out
          obtain ⟨ca10, ca11, fa10, fa11⟩ := cell2 HKa110.out
          have ltw0 := lt_of_block HKw010.out
          obtain ⟨cw00, cw01, fw00, fw01⟩ := cell2 HKw010.out
          refine hK.out _ _ (⟨ca00, ca01, ca10, ca11⟩) (fun hHeld => ?_)
          clear hK K
          try simp only [Act.put]
          refine take1 (i := 10) (v := ?v6) (some 7) rfl rfl (by kernel_rfl) (by kernel_rfl) (by kernel_rfl) (fun _ _ _ h => h) (Or.inl ⟨by rfl, ?y6⟩) (by assumption) ?r6
          case y6 => (intro w hSw; (try dsimp only at hSw); go_simp; (first | done | with_reducible rfl))
          try simp only [Act.put, List.setIfInBounds_toArray, List.set_cons_zero, List.set_cons_succ]
          refine wpAnyH_done (by kernel_rfl) ?_ _
          go_wp2_with fail
          go_meet
          exact ⟨w8.heap.size, pw, kw, ppw, kkw, _, _, rfl, rfl, HKw010.out, HOw10.out, by have := HZ1.out; have := HZ2.out; have := HZ3.out; have := HZ4.out; have := HZ5.out; have := HZ6.out; have := HZ7.out; have := HZ8.out; have := HZ9.out; have := HZ10.out;  omega, by have := HZ1.out; have := HZ2.out; have := HZ3.out; have := HZ4.out; have := HZ5.out; have := HZ6.out; have := HZ7.out; have := HZ8.out; have := HZ9.out; have := HZ10.out;  omega, by have := HZ1.out; have := HZ2.out; have := HZ3.out; have := HZ4.out; have := HZ5.out; have := HZ6.out; have := HZ7.out; have := HZ8.out; have := HZ9.out; have := HZ10.out;  omega, by have := HZ1.out; have := HZ2.out; have := HZ3.out; have := HZ4.out; have := HZ5.out; have := HZ6.out; have := HZ7.out; have := HZ8.out; have := HZ9.out; have := HZ10.out;  omega, by have := HZ1.out; have := HZ2.out; have := HZ3.out; have := HZ4.out; have := HZ5.out; have := HZ6.out; have := HZ7.out; have := HZ8.out; have := HZ9.out; have := HZ10.out;  omega, by have := HZ1.out; have := HZ2.out; have := HZ3.out; have := HZ4.out; have := HZ5.out; have := HZ6.out; have := HZ7.out; have := HZ8.out; have := HZ9.out; have := HZ10.out;  omega, HBs4_10.out⟩
        · go_simp
          have hb : Below w7.heap.size w7 (w7.alloc (.cells #[.slice none 0 0, .slice none 0 0] 27)) := (Below.refl _ _).alloc (Nat.le_refl _) _
          have hk : (w7.alloc (.cells #[.slice none 0 0, .slice none 0 0] 27)).heap[w7.heap.size]? = some (.cells #[.slice none 0 0, .slice none 0 0] 27 (0, 0)) := alloc_at rfl
          have hz : (w7.alloc (.cells #[.slice none 0 0, .slice none 0 0] 27)).heap.size = w7.heap.size + 1 := by simp
          generalize w7.alloc (.cells #[.slice none 0 0, .slice none 0 0] 27) = w8 at hb hk hz ⊢
          have HB8 : Hid (Below w.heap.size w w8) := Lib.hid (HB7.out.trans (hb.mono HB7.out.size))
          have HZ8 : Hid (w7.heap.size ≤ w8.heap.size) := Lib.hid hb.size
          have HRf08 := Lib.hid (HRf00.out.below HB8.out (Nat.le_refl _))
          have HRf18 := Lib.hid (HRf10.out.below HB8.out (Nat.le_refl _))
          have HKa08 := Lib.hid ((hb.block _ (lt_of_block HKa07.out)).trans HKa07.out)
          have HKa18 := Lib.hid ((hb.block _ (lt_of_block HKa17.out)).trans HKa17.out)
          have HRwc08 := Lib.hid (HRwc07.out.below hb (Nat.le_refl _))
          have HRwc18 := Lib.hid (HRwc17.out.below hb (Nat.le_refl _))
          have HBs4_8 : Hid (Below w4.heap.size w4 w8) := Lib.hid (HBs4_7.out.trans (hb.mono HBs4_7.out.size))
          have HBs6_8 : Hid (Below w6.heap.size w6 w8) := Lib.hid (HBs6_7.out.trans (hb.mono HBs6_7.out.size))
          have HBs7_8 : Hid (Below w7.heap.size w7 w8) := Lib.hid (HBs7_7.out.trans (hb.mono HBs7_7.out.size))
          have HKw08 := Lib.hid hk
          replace HZ8 : Hid (w7.heap.size < w8.heap.size) := Lib.hid (by omega)
          have HE8 := Lib.hid hz
          clear hb hk hz
          clear ca00 ca01 fa00 fa01 lta0 ca10 ca11 fa10 fa11 lta1
          have lta0 := lt_of_block HKa08.out
          obtain ⟨ca00, ca01, fa00, fa01⟩ := cell2 HKa08.out
          have lta1 := lt_of_block HKa18.out
          obtain ⟨ca10, ca11, fa10, fa11⟩ := cell2 HKa18.out
          have ltw0 := lt_of_block HKw08.out
          obtain ⟨cw00, cw01, fw00, fw01⟩ := cell2 HKw08.out
          refine hK.out _ _ (⟨ca00, ca01, ca10, ca11⟩) (fun hHeld => ?_)
          clear hK K
          try simp only [Act.put, List.setIfInBounds_toArray, List.set_cons_zero, List.set_cons_succ]
          refine wpAnyH_ready (rs := [4]) (by kernel_rfl) (by simp) ?_
          refine AllReadyH.cons rfl (fun K hK => ?_) AllReadyH.nil
          go_simp
          go_at_call 34
          refine (HS.out hn0 hn1 _ _ _ _ _ HRwc08.out HRwc18.out).mono ?_
          rintro e w9 ⟨⟨sw, tw, rfl, ho⟩, hb⟩
          have HB9 : Hid (Below w.heap.size w w9) := Lib.hid (HB8.out.trans (hb.mono HB8.out.size))
          have HZ9 : Hid (w8.heap.size ≤ w9.heap.size) := Lib.hid hb.size
          have HRf09 := Lib.hid (HRf00.out.below HB9.out (Nat.le_refl _))
          have HRf19 := Lib.hid (HRf10.out.below HB9.out (Nat.le_refl _))
          have HKa09 := Lib.hid ((hb.block _ (lt_of_block HKa08.out)).trans HKa08.out)
          have HKa19 := Lib.hid ((hb.block _ (lt_of_block HKa18.out)).trans HKa18.out)
          have HRwc09 := Lib.hid (HRwc08.out.below hb (Nat.le_refl _))
          have HRwc19 := Lib.hid (HRwc18.out.below hb (Nat.le_refl _))
          have HKw09 := Lib.hid ((hb.block _ (lt_of_block HKw08.out)).trans HKw08.out)
          have HBs4_9 : Hid (Below w4.heap.size w4 w9) := Lib.hid (HBs4_8.out.trans (hb.mono HBs4_8.out.size))
          have HBs6_9 : Hid (Below w6.heap.size w6 w9) := Lib.hid (HBs6_8.out.trans (hb.mono HBs6_8.out.size))
          have HBs7_9 : Hid (Below w7.heap.size w7 w9) := Lib.hid (HBs7_8.out.trans (hb.mono HBs7_8.out.size))
          clear hb
          obtain ⟨pw, kw, ppw, kkw, rfl, rfl⟩ := ho.form
          have HOw9 := Lib.hid (ho)
          clear ho
          clear ca00 ca01 fa00 fa01 lta0 ca10 ca11 fa10 fa11 lta1 cw00 cw01 fw00 fw01 ltw0
          have lta0 := lt_of_block HKa09.out
          obtain ⟨ca00, ca01, fa00, fa01⟩ := cell2 HKa09.out
          have lta1 := lt_of_block HKa19.out
          obtain ⟨ca10, ca11, fa10, fa11⟩ := cell2 HKa19.out
          have ltw0 := lt_of_block HKw09.out
          obtain ⟨cw00, cw01, fw00, fw01⟩ := cell2 HKw09.out
          try go_simp
          refine hK.out _ _ (⟨ca00, ca01, ca10, ca11⟩) (fun hHeld => ?_)
          clear hK K
          try simp only [Act.put, List.setIfInBounds_toArray, List.set_cons_zero, List.set_cons_succ]
          refine take1 (i := 5) (v := ?v7) (some 27) rfl rfl (by kernel_rfl) (by kernel_rfl) (by kernel_rfl) (fun _ _ _ h => h) (Or.inl ⟨by rfl, ?y7⟩) (by assumption) ?r7
          case y7 => (intro w hSw; (try dsimp only at hSw); go_simp; (first | done | with_reducible rfl))
          try simp only [Act.put, List.setIfInBounds_toArray, List.set_cons_zero, List.set_cons_succ]
          refine take1 (i := 6) (v := ?v8) (some 33) rfl rfl (by kernel_rfl) (by kernel_rfl) (by kernel_rfl) (fun _ _ _ h => h) (Or.inl ⟨by rfl, ?y8⟩) (by assumption) ?r8
          case y8 => (intro w hSw; (try dsimp only at hSw); go_simp; (first | done | with_reducible rfl))
          try simp only [Act.put, List.setIfInBounds_toArray, List.set_cons_zero, List.set_cons_succ]
          refine take1 (i := 7) (v := ?v9) (some 34) rfl rfl (by kernel_rfl) (by kernel_rfl) (by kernel_rfl) (fun _ _ _ h => h) (Or.inl ⟨by rfl, ?y9⟩) (by assumption) ?r9
          case y9 => (intro w hSw; (try dsimp only at hSw); go_simp; (first | done | with_reducible rfl))
          try simp only [Act.put, List.setIfInBounds_toArray, List.set_cons_zero, List.set_cons_succ]
          refine wpAnyH_ready (rs := [9]) (by kernel_rfl) (by simp) ?_
          refine AllReadyH.cons rfl (fun K hK => ?_) AllReadyH.nil
          go_simp
          have hkb := box2_set HKw09.out (.slice pw qs.length kw) (.slice ppw qt.length kkw)
          have hm : Btw w7.heap.size (w7.heap.size + 1) w9 ((w9.setCell ⟨w7.heap.size, 0, none⟩ (.slice pw qs.length kw)).setCell ⟨w7.heap.size, 1, none⟩ (.slice ppw qt.length kkw)) := ((Btw.refl w7.heap.size (w7.heap.size + 1) w9).setCell (p := ⟨w7.heap.size, 0, none⟩) (Nat.le_refl _) (Nat.lt_succ_self _) _).setCell (p := ⟨w7.heap.size, 1, none⟩) (Nat.le_refl _) (Nat.lt_succ_self _) _
          generalize (w9.setCell ⟨w7.heap.size, 0, none⟩ (.slice pw qs.length kw)).setCell ⟨w7.heap.size, 1, none⟩ (.slice ppw qt.length kkw) = w10 at hkb hm ⊢
          have HZ10 : Hid (w9.heap.size ≤ w10.heap.size) := Lib.hid hm.size
          have HB10 : Hid (Below w.heap.size w w10) := Lib.hid (HB9.out.trans (hm.below.mono (by have := HZ1.out; have := HZ2.out; have := HZ3.out; have := HZ4.out; have := HZ5.out; have := HZ6.out; have := HZ7.out; have := HZ8.out; have := HZ9.out; have := HB0.out.size; omega)))
          have HRf010 := Lib.hid (HRf00.out.below HB10.out (Nat.le_refl _))
          have HRf110 := Lib.hid (HRf10.out.below HB10.out (Nat.le_refl _))
          have HKa010 := Lib.hid ((hm.block _ (by have := lt_of_block HKa09.out; have := HZ1.out; have := HZ2.out; have := HZ3.out; have := HZ4.out; have := HZ5.out; have := HZ6.out; have := HZ7.out; have := HZ8.out; have := HZ9.out; omega)).trans HKa09.out)
          have HKa110 := Lib.hid ((hm.block _ (by have := lt_of_block HKa19.out; have := HZ1.out; have := HZ2.out; have := HZ3.out; have := HZ4.out; have := HZ5.out; have := HZ6.out; have := HZ7.out; have := HZ8.out; have := HZ9.out; omega)).trans HKa19.out)
          have HOw10 := Lib.hid (HOw9.out.btw hm (by have := HZ1.out; have := HZ2.out; have := HZ3.out; have := HZ4.out; have := HZ5.out; have := HZ6.out; have := HZ7.out; have := HZ8.out; have := HZ9.out; omega))
          have HBs4_10 : Hid (Below w4.heap.size w4 w10) := Lib.hid (HBs4_9.out.trans (hm.below.mono (by have := HZ1.out; have := HZ2.out; have := HZ3.out; have := HZ4.out; have := HZ5.out; have := HZ6.out; have := HZ7.out; have := HZ8.out; have := HZ9.out; omega)))
          clear hm
          have HKw010 := Lib.hid (hkb)
          clear hkb
          clear ca00 ca01 fa00 fa01 lta0 ca10 ca11 fa10 fa11 lta1 cw00 cw01 fw00 fw01 ltw0
          have lta0 := lt_of_block HKa010.out
          obtain ⟨ca00, ca01, fa00, fa01⟩ := cell2 HKa010.out
          have lta1 := lt_of_block HKa110.out
          obtain ⟨ca10, ca11, fa10, fa11⟩ := cell2 HKa110.out
          have ltw0 := lt_of_block HKw010.out
          obtain ⟨cw00, cw01, fw00, fw01⟩ := cell2 HKw010.out
          refine hK.out _ _ (⟨ca00, ca01, ca10, ca11⟩) (fun hHeld => ?_)
          clear hK K
          try simp only [Act.put]
          refine take1 (i := 10) (v := ?v10) (some 7) rfl rfl (by kernel_rfl) (by kernel_rfl) (by kernel_rfl) (fun _ _ _ h => h) (Or.inl ⟨by rfl, ?y10⟩) (by assumption) ?r10
          case y10 => (intro w hSw; (try dsimp only at hSw); go_simp; (first | done | with_reducible rfl))
          try simp only [Act.put, List.setIfInBounds_toArray, List.set_cons_zero, List.set_cons_succ]
          refine wpAnyH_done (by kernel_rfl) ?_ _
          go_wp2_with fail
          go_meet
          exact ⟨w7.heap.size, pw, kw, ppw, kkw, _, _, rfl, rfl, HKw010.out, HOw10.out, by have := HZ1.out; have := HZ2.out; have := HZ3.out; have := HZ4.out; have := HZ5.out; have := HZ6.out; have := HZ7.out; have := HZ8.out; have := HZ9.out; have := HZ10.out;  omega, by have := HZ1.out; have := HZ2.out; have := HZ3.out; have := HZ4.out; have := HZ5.out; have := HZ6.out; have := HZ7.out; have := HZ8.out; have := HZ9.out; have := HZ10.out;  omega, by have := HZ1.out; have := HZ2.out; have := HZ3.out; have := HZ4.out; have := HZ5.out; have := HZ6.out; have := HZ7.out; have := HZ8.out; have := HZ9.out; have := HZ10.out;  omega, by have := HZ1.out; have := HZ2.out; have := HZ3.out; have := HZ4.out; have := HZ5.out; have := HZ6.out; have := HZ7.out; have := HZ8.out; have := HZ9.out; have := HZ10.out;  omega, by have := HZ1.out; have := HZ2.out; have := HZ3.out; have := HZ4.out; have := HZ5.out; have := HZ6.out; have := HZ7.out; have := HZ8.out; have := HZ9.out; have := HZ10.out;  omega, by have := HZ1.out; have := HZ2.out; have := HZ3.out; have := HZ4.out; have := HZ5.out; have := HZ6.out; have := HZ7.out; have := HZ8.out; have := HZ9.out; have := HZ10.out;  omega, HBs4_10.out⟩
      · go_simp
        have hb : Below w6.heap.size w6 (w6.alloc (.cells #[.slice none 0 0, .slice none 0 0] 27)) := (Below.refl _ _).alloc (Nat.le_refl _) _
        have hk : (w6.alloc (.cells #[.slice none 0 0, .slice none 0 0] 27)).heap[w6.heap.size]? = some (.cells #[.slice none 0 0, .slice none 0 0] 27 (0, 0)) := alloc_at rfl
        have hz : (w6.alloc (.cells #[.slice none 0 0, .slice none 0 0] 27)).heap.size = w6.heap.size + 1 := by simp
        generalize w6.alloc (.cells #[.slice none 0 0, .slice none 0 0] 27) = w7 at hb hk hz ⊢
        have HB7 : Hid (Below w.heap.size w w7) := Lib.hid (HB6.out.trans (hb.mono HB6.out.size))
        have HZ7 : Hid (w6.heap.size ≤ w7.heap.size) := Lib.hid hb.size
        have HRf07 := Lib.hid (HRf00.out.below HB7.out (Nat.le_refl _))
        have HRf17 := Lib.hid (HRf10.out.below HB7.out (Nat.le_refl _))
        have HKa07 := Lib.hid ((hb.block _ (lt_of_block HKa06.out)).trans HKa06.out)
        have HKa17 := Lib.hid ((hb.block _ (lt_of_block HKa16.out)).trans HKa16.out)
        have HRwc07 := Lib.hid (HRwc06.out.below hb (Nat.le_refl _))
        have HBs4_7 : Hid (Below w4.heap.size w4 w7) := Lib.hid (HBs4_6.out.trans (hb.mono HBs4_6.out.size))
        have HBs6_7 : Hid (Below w6.heap.size w6 w7) := Lib.hid (HBs6_6.out.trans (hb.mono HBs6_6.out.size))
        have HKw07 := Lib.hid hk
        replace HZ7 : Hid (w6.heap.size < w7.heap.size) := Lib.hid (by omega)
        have HE7 := Lib.hid hz
        clear hb hk hz
        clear ca00 ca01 fa00 fa01 lta0 ca10 ca11 fa10 fa11 lta1
        have lta0 := lt_of_block HKa07.out
        obtain ⟨ca00, ca01, fa00, fa01⟩ := cell2 HKa07.out
        have lta1 := lt_of_block HKa17.out
        obtain ⟨ca10, ca11, fa10, fa11⟩ := cell2 HKa17.out
        have ltw0 := lt_of_block HKw07.out
        obtain ⟨cw00, cw01, fw00, fw01⟩ := cell2 HKw07.out
        refine hK.out _ _ (⟨ca00, ca01, ca10, ca11⟩) (fun hHeld => ?_)
        clear hK K
        try simp only [Act.put, List.setIfInBounds_toArray, List.set_cons_zero, List.set_cons_succ]
        refine wpAnyH_ready (rs := [3]) (by kernel_rfl) (by simp) ?_
        refine AllReadyH.cons rfl (fun K hK => ?_) AllReadyH.nil
        go_simp
        go_at_call 15
        refine (toBoard_any _ _ ls1 ss1 _ HRf17.out hn1.1 hn1.2).mono ?_
        rintro e w8 ⟨⟨swc1, twc1, rfl, ho⟩, hb⟩
        have HB8 : Hid (Below w.heap.size w w8) := Lib.hid (HB7.out.trans (hb.mono HB7.out.size))
        have HZ8 : Hid (w7.heap.size ≤ w8.heap.size) := Lib.hid hb.size
        have HRf08 := Lib.hid (HRf00.out.below HB8.out (Nat.le_refl _))
        have HRf18 := Lib.hid (HRf10.out.below HB8.out (Nat.le_refl _))
        have HKa08 := Lib.hid ((hb.block _ (lt_of_block HKa07.out)).trans HKa07.out)
        have HKa18 := Lib.hid ((hb.block _ (lt_of_block HKa17.out)).trans HKa17.out)
        have HRwc08 := Lib.hid (HRwc07.out.below hb (Nat.le_refl _))
        have HKw08 := Lib.hid ((hb.block _ (lt_of_block HKw07.out)).trans HKw07.out)
        have HBs4_8 : Hid (Below w4.heap.size w4 w8) := Lib.hid (HBs4_7.out.trans (hb.mono HBs4_7.out.size))
        have HBs6_8 : Hid (Below w6.heap.size w6 w8) := Lib.hid (HBs6_7.out.trans (hb.mono HBs6_7.out.size))
        clear hb
        obtain ⟨pwc1, kwc1, ppwc1, kkwc1, rfl, rfl⟩ := ho.form
        have HRwc18 := Lib.hid (ho.reads)
        have HBs8_8 : Hid (Below w8.heap.size w8 w8) := Lib.hid (Below.refl _ _)
        clear ho
        clear ca00 ca01 fa00 fa01 lta0 ca10 ca11 fa10 fa11 lta1 cw00 cw01 fw00 fw01 ltw0
        have lta0 := lt_of_block HKa08.out
        obtain ⟨ca00, ca01, fa00, fa01⟩ := cell2 HKa08.out
        have lta1 := lt_of_block HKa18.out
        obtain ⟨ca10, ca11, fa10, fa11⟩ := cell2 HKa18.out
        have ltw0 := lt_of_block HKw08.out
        obtain ⟨cw00, cw01, fw00, fw01⟩ := cell2 HKw08.out
        try go_simp
        refine hK.out _ _ (⟨ca00, ca01, ca10, ca11⟩) (fun hHeld => ?_)
        clear hK K
        try simp only [Act.put, List.setIfInBounds_toArray, List.set_cons_zero, List.set_cons_succ]
        refine wpAnyH_ready (rs := [4]) (by kernel_rfl) (by simp) ?_
        refine AllReadyH.cons rfl (fun K hK => ?_) AllReadyH.nil
        go_simp
        go_at_call 34
        refine (HS.out hn0 hn1 _ _ _ _ _ HRwc08.out HRwc18.out).mono ?_
        rintro e w9 ⟨⟨sw, tw, rfl, ho⟩, hb⟩
        have HB9 : Hid (Below w.heap.size w w9) := Lib.hid (HB8.out.trans (hb.mono HB8.out.size))
        have HZ9 : Hid (w8.heap.size ≤ w9.heap.size) := Lib.hid hb.size
        have HRf09 := Lib.hid (HRf00.out.below HB9.out (Nat.le_refl _))
        have HRf19 := Lib.hid (HRf10.out.below HB9.out (Nat.le_refl _))
        have HKa09 := Lib.hid ((hb.block _ (lt_of_block HKa08.out)).trans HKa08.out)
        have HKa19 := Lib.hid ((hb.block _ (lt_of_block HKa18.out)).trans HKa18.out)
        have HRwc09 := Lib.hid (HRwc08.out.below hb (Nat.le_refl _))
        have HKw09 := Lib.hid ((hb.block _ (lt_of_block HKw08.out)).trans HKw08.out)
        have HRwc19 := Lib.hid (HRwc18.out.below hb (Nat.le_refl _))
        have HBs4_9 : Hid (Below w4.heap.size w4 w9) := Lib.hid (HBs4_8.out.trans (hb.mono HBs4_8.out.size))
        have HBs6_9 : Hid (Below w6.heap.size w6 w9) := Lib.hid (HBs6_8.out.trans (hb.mono HBs6_8.out.size))
        have HBs8_9 : Hid (Below w8.heap.size w8 w9) := Lib.hid (HBs8_8.out.trans (hb.mono HBs8_8.out.size))
        clear hb
        obtain ⟨pw, kw, ppw, kkw, rfl, rfl⟩ := ho.form
        have HOw9 := Lib.hid (ho)
        clear ho
        clear ca00 ca01 fa00 fa01 lta0 ca10 ca11 fa10 fa11 lta1 cw00 cw01 fw00 fw01 ltw0
        have lta0 := lt_of_block HKa09.out
        obtain ⟨ca00, ca01, fa00, fa01⟩ := cell2 HKa09.out
        have lta1 := lt_of_block HKa19.out
        obtain ⟨ca10, ca11, fa10, fa11⟩ := cell2 HKa19.out
        have ltw0 := lt_of_block HKw09.out
        obtain ⟨cw00, cw01, fw00, fw01⟩ := cell2 HKw09.out
        try go_simp
        refine hK.out _ _ (⟨ca00, ca01, ca10, ca11⟩) (fun hHeld => ?_)
        clear hK K
        try simp only [Act.put, List.setIfInBounds_toArray, List.set_cons_zero, List.set_cons_succ]
        refine take1 (i := 5) (v := ?v11) (some 27) rfl rfl (by kernel_rfl) (by kernel_rfl) (by kernel_rfl) (fun _ _ _ h => h) (Or.inl ⟨by rfl, ?y11⟩) (by assumption) ?r11
        case y11 => (intro w hSw; (try dsimp only at hSw); go_simp; (first | done | with_reducible rfl))
        try simp only [Act.put, List.setIfInBounds_toArray, List.set_cons_zero, List.set_cons_succ]
        refine take1 (i := 6) (v := ?v12) (some 33) rfl rfl (by kernel_rfl) (by kernel_rfl) (by kernel_rfl) (fun _ _ _ h => h) (Or.inl ⟨by rfl, ?y12⟩) (by assumption) ?r12
        case y12 => (intro w hSw; (try dsimp only at hSw); go_simp; (first | done | with_reducible rfl))
        try simp only [Act.put, List.setIfInBounds_toArray, List.set_cons_zero, List.set_cons_succ]
        refine take1 (i := 7) (v := ?v13) (some 34) rfl rfl (by kernel_rfl) (by kernel_rfl) (by kernel_rfl) (fun _ _ _ h => h) (Or.inl ⟨by rfl, ?y13⟩) (by assumption) ?r13
        case y13 => (intro w hSw; (try dsimp only at hSw); go_simp; (first | done | with_reducible rfl))
        try simp only [Act.put, List.setIfInBounds_toArray, List.set_cons_zero, List.set_cons_succ]
        refine wpAnyH_ready (rs := [9]) (by kernel_rfl) (by simp) ?_
        refine AllReadyH.cons rfl (fun K hK => ?_) AllReadyH.nil
        go_simp
        have hkb := box2_set HKw09.out (.slice pw qs.length kw) (.slice ppw qt.length kkw)
        have hm : Btw w6.heap.size (w6.heap.size + 1) w9 ((w9.setCell ⟨w6.heap.size, 0, none⟩ (.slice pw qs.length kw)).setCell ⟨w6.heap.size, 1, none⟩ (.slice ppw qt.length kkw)) := ((Btw.refl w6.heap.size (w6.heap.size + 1) w9).setCell (p := ⟨w6.heap.size, 0, none⟩) (Nat.le_refl _) (Nat.lt_succ_self _) _).setCell (p := ⟨w6.heap.size, 1, none⟩) (Nat.le_refl _) (Nat.lt_succ_self _) _
        generalize (w9.setCell ⟨w6.heap.size, 0, none⟩ (.slice pw qs.length kw)).setCell ⟨w6.heap.size, 1, none⟩ (.slice ppw qt.length kkw) = w10 at hkb hm ⊢
        have HZ10 : Hid (w9.heap.size ≤ w10.heap.size) := Lib.hid hm.size
        have HB10 : Hid (Below w.heap.size w w10) := Lib.hid (HB9.out.trans (hm.below.mono (by have := HZ1.out; have := HZ2.out; have := HZ3.out; have := HZ4.out; have := HZ5.out; have := HZ6.out; have := HZ7.out; have := HZ8.out; have := HZ9.out; have := HB0.out.size; omega)))
        have HRf010 := Lib.hid (HRf00.out.below HB10.out (Nat.le_refl _))
        have HRf110 := Lib.hid (HRf10.out.below HB10.out (Nat.le_refl _))
        have HKa010 := Lib.hid ((hm.block _ (by have := lt_of_block HKa09.out; have := HZ1.out; have := HZ2.out; have := HZ3.out; have := HZ4.out; have := HZ5.out; have := HZ6.out; have := HZ7.out; have := HZ8.out; have := HZ9.out; omega)).trans HKa09.out)
        have HKa110 := Lib.hid ((hm.block _ (by have := lt_of_block HKa19.out; have := HZ1.out; have := HZ2.out; have := HZ3.out; have := HZ4.out; have := HZ5.out; have := HZ6.out; have := HZ7.out; have := HZ8.out; have := HZ9.out; omega)).trans HKa19.out)
        have HOw10 := Lib.hid (HOw9.out.btw hm (by have := HZ1.out; have := HZ2.out; have := HZ3.out; have := HZ4.out; have := HZ5.out; have := HZ6.out; have := HZ7.out; have := HZ8.out; have := HZ9.out; omega))
        have HBs4_10 : Hid (Below w4.heap.size w4 w10) := Lib.hid (HBs4_9.out.trans (hm.below.mono (by have := HZ1.out; have := HZ2.out; have := HZ3.out; have := HZ4.out; have := HZ5.out; have := HZ6.out; have := HZ7.out; have := HZ8.out; have := HZ9.out; omega)))
        clear hm
        have HKw010 := Lib.hid (hkb)
        clear hkb
        clear ca00 ca01 fa00 fa01 lta0 ca10 ca11 fa10 fa11 lta1 cw00 cw01 fw00 fw01 ltw0
        have lta0 := lt_of_block HKa010.out
        obtain ⟨ca00, ca01, fa00, fa01⟩ := cell2 HKa010.out
        have lta1 := lt_of_block HKa110.out
        obtain ⟨ca10, ca11, fa10, fa11⟩ := cell2 HKa110.out
        have ltw0 := lt_of_block HKw010.out
        obtain ⟨cw00, cw01, fw00, fw01⟩ := cell2 HKw010.out
        refine hK.out _ _ (⟨ca00, ca01, ca10, ca11⟩) (fun hHeld => ?_)
        clear hK K
        try simp only [Act.put]
        refine take1 (i := 10) (v := ?v14) (some 7) rfl rfl (by kernel_rfl) (by kernel_rfl) (by kernel_rfl) (fun _ _ _ h => h) (Or.inl ⟨by rfl, ?y14⟩) (by assumption) ?r14
        case y14 => (intro w hSw; (try dsimp only at hSw); go_simp; (first | done | with_reducible rfl))
        try simp only [Act.put, List.setIfInBounds_toArray, List.set_cons_zero, List.set_cons_succ]
        refine wpAnyH_done (by kernel_rfl) ?_ _
        go_wp2_with fail
        go_meet
        exact ⟨w6.heap.size, pw, kw, ppw, kkw, _, _, rfl, rfl, HKw010.out, HOw10.out, by have := HZ1.out; have := HZ2.out; have := HZ3.out; have := HZ4.out; have := HZ5.out; have := HZ6.out; have := HZ7.out; have := HZ8.out; have := HZ9.out; have := HZ10.out;  omega, by have := HZ1.out; have := HZ2.out; have := HZ3.out; have := HZ4.out; have := HZ5.out; have := HZ6.out; have := HZ7.out; have := HZ8.out; have := HZ9.out; have := HZ10.out;  omega, by have := HZ1.out; have := HZ2.out; have := HZ3.out; have := HZ4.out; have := HZ5.out; have := HZ6.out; have := HZ7.out; have := HZ8.out; have := HZ9.out; have := HZ10.out;  omega, by have := HZ1.out; have := HZ2.out; have := HZ3.out; have := HZ4.out; have := HZ5.out; have := HZ6.out; have := HZ7.out; have := HZ8.out; have := HZ9.out; have := HZ10.out;  omega, by have := HZ1.out; have := HZ2.out; have := HZ3.out; have := HZ4.out; have := HZ5.out; have := HZ6.out; have := HZ7.out; have := HZ8.out; have := HZ9.out; have := HZ10.out;  omega, by have := HZ1.out; have := HZ2.out; have := HZ3.out; have := HZ4.out; have := HZ5.out; have := HZ6.out; have := HZ7.out; have := HZ8.out; have := HZ9.out; have := HZ10.out;  omega, HBs4_10.out⟩
    · go_simp
      have hb : Below w5.heap.size w5 (w5.alloc (.cells #[.slice none 0 0, .slice none 0 0] 27)) := (Below.refl _ _).alloc (Nat.le_refl _) _
      have hk : (w5.alloc (.cells #[.slice none 0 0, .slice none 0 0] 27)).heap[w5.heap.size]? = some (.cells #[.slice none 0 0, .slice none 0 0] 27 (0, 0)) := alloc_at rfl
      have hz : (w5.alloc (.cells #[.slice none 0 0, .slice none 0 0] 27)).heap.size = w5.heap.size + 1 := by simp
      generalize w5.alloc (.cells #[.slice none 0 0, .slice none 0 0] 27) = w6 at hb hk hz ⊢
      have HB6 : Hid (Below w.heap.size w w6) := Lib.hid (HB5.out.trans (hb.mono HB5.out.size))
      have HZ6 : Hid (w5.heap.size ≤ w6.heap.size) := Lib.hid hb.size
      have HRf06 := Lib.hid (HRf00.out.below HB6.out (Nat.le_refl _))
      have HRf16 := Lib.hid (HRf10.out.below HB6.out (Nat.le_refl _))
      have HKa06 := Lib.hid ((hb.block _ (lt_of_block HKa05.out)).trans HKa05.out)
      have HKa16 := Lib.hid ((hb.block _ (lt_of_block HKa15.out)).trans HKa15.out)
      have HBs4_6 : Hid (Below w4.heap.size w4 w6) := Lib.hid (HBs4_5.out.trans (hb.mono HBs4_5.out.size))
      have HKw06 := Lib.hid hk
      replace HZ6 : Hid (w5.heap.size < w6.heap.size) := Lib.hid (by omega)
      have HE6 := Lib.hid hz
      clear hb hk hz
      clear ca00 ca01 fa00 fa01 lta0 ca10 ca11 fa10 fa11 lta1
      have lta0 := lt_of_block HKa06.out
      obtain ⟨ca00, ca01, fa00, fa01⟩ := cell2 HKa06.out
      have lta1 := lt_of_block HKa16.out
      obtain ⟨ca10, ca11, fa10, fa11⟩ := cell2 HKa16.out
      have ltw0 := lt_of_block HKw06.out
      obtain ⟨cw00, cw01, fw00, fw01⟩ := cell2 HKw06.out
      refine hK.out _ _ (⟨ca00, ca01, ca10, ca11⟩) (fun hHeld => ?_)
      clear hK K
      try simp only [Act.put, List.setIfInBounds_toArray, List.set_cons_zero, List.set_cons_succ]
      refine wpAnyH_ready (rs := [1]) (by kernel_rfl) (by simp) ?_
      refine AllReadyH.cons rfl (fun K hK => ?_) AllReadyH.nil
      go_simp
      go_at_call 15
      refine (toBoard_any _ _ ls0 ss0 _ HRf06.out hn0.1 hn0.2).mono ?_
      rintro e w7 ⟨⟨swc0, twc0, rfl, ho⟩, hb⟩
      have HB7 : Hid (Below w.heap.size w w7) := Lib.hid (HB6.out.trans (hb.mono HB6.out.size))
      have HZ7 : Hid (w6.heap.size ≤ w7.heap.size) := Lib.hid hb.size
      have HRf07 := Lib.hid (HRf00.out.below HB7.out (Nat.le_refl _))
      have HRf17 := Lib.hid (HRf10.out.below HB7.out (Nat.le_refl _))
      have HKa07 := Lib.hid ((hb.block _ (lt_of_block HKa06.out)).trans HKa06.out)
      have HKa17 := Lib.hid ((hb.block _ (lt_of_block HKa16.out)).trans HKa16.out)
      have HKw07 := Lib.hid ((hb.block _ (lt_of_block HKw06.out)).trans HKw06.out)
      have HBs4_7 : Hid (Below w4.heap.size w4 w7) := Lib.hid (HBs4_6.out.trans (hb.mono HBs4_6.out.size))
      clear hb
      obtain ⟨pwc0, kwc0, ppwc0, kkwc0, rfl, rfl⟩ := ho.form
      have HRwc07 := Lib.hid (ho.reads)
      have HBs7_7 : Hid (Below w7.heap.size w7 w7) := Lib.hid (Below.refl _ _)
      clear ho
      clear ca00 ca01 fa00 fa01 lta0 ca10 ca11 fa10 fa11 lta1 cw00 cw01 fw00 fw01 ltw0
      have lta0 := lt_of_block HKa07.out
      obtain ⟨ca00, ca01, fa00, fa01⟩ := cell2 HKa07.out
      have lta1 := lt_of_block HKa17.out
      obtain ⟨ca10, ca11, fa10, fa11⟩ := cell2 HKa17.out
      have ltw0 := lt_of_block HKw07.out
      obtain ⟨cw00, cw01, fw00, fw01⟩ := cell2 HKw07.out
      try go_simp
      refine hK.out _ _ (⟨ca00, ca01, ca10, ca11⟩) (fun hHeld => ?_)
      clear hK K
      try simp only [Act.put, List.setIfInBounds_toArray, List.set_cons_zero, List.set_cons_succ]
      refine wpAnyH_ready (rs := [3]) (by kernel_rfl) (by simp) ?_
      refine AllReadyH.cons rfl (fun K hK => ?_) AllReadyH.nil
      go_simp
      go_at_call 15
      refine (toBoard_any _ _ ls1 ss1 _ HRf17.out hn1.1 hn1.2).mono ?_
      rintro e w8 ⟨⟨swc1, twc1, rfl, ho⟩, hb⟩
      have HB8 : Hid (Below w.heap.size w w8) := Lib.hid (HB7.out.trans (hb.mono HB7.out.size))
      have HZ8 : Hid (w7.heap.size ≤ w8.heap.size) := Lib.hid hb.size
      have HRf08 := Lib.hid (HRf00.out.below HB8.out (Nat.le_refl _))
      have HRf18 := Lib.hid (HRf10.out.below HB8.out (Nat.le_refl _))
      have HKa08 := Lib.hid ((hb.block _ (lt_of_block HKa07.out)).trans HKa07.out)
      have HKa18 := Lib.hid ((hb.block _ (lt_of_block HKa17.out)).trans HKa17.out)
      have HKw08 := Lib.hid ((hb.block _ (lt_of_block HKw07.out)).trans HKw07.out)
      have HRwc08 := Lib.hid (HRwc07.out.below hb (Nat.le_refl _))
      have HBs4_8 : Hid (Below w4.heap.size w4 w8) := Lib.hid (HBs4_7.out.trans (hb.mono HBs4_7.out.size))
      have HBs7_8 : Hid (Below w7.heap.size w7 w8) := Lib.hid (HBs7_7.out.trans (hb.mono HBs7_7.out.size))
      clear hb
      obtain ⟨pwc1, kwc1, ppwc1, kkwc1, rfl, rfl⟩ := ho.form
      have HRwc18 := Lib.hid (ho.reads)
      have HBs8_8 : Hid (Below w8.heap.size w8 w8) := Lib.hid (Below.refl _ _)
      clear ho
      clear ca00 ca01 fa00 fa01 lta0 ca10 ca11 fa10 fa11 lta1 cw00 cw01 fw00 fw01 ltw0
      have lta0 := lt_of_block HKa08.out
      obtain ⟨ca00, ca01, fa00, fa01⟩ := cell2 HKa08.out
      have lta1 := lt_of_block HKa18.out
      obtain ⟨ca10, ca11, fa10, fa11⟩ := cell2 HKa18.out
      have ltw0 := lt_of_block HKw08.out
      obtain ⟨cw00, cw01, fw00, fw01⟩ := cell2 HKw08.out
      try go_simp
      refine hK.out _ _ (⟨ca00, ca01, ca10, ca11⟩) (fun hHeld => ?_)
      clear hK K
      try simp only [Act.put, List.setIfInBounds_toArray, List.set_cons_zero, List.set_cons_succ]
      refine wpAnyH_ready (rs := [4]) (by kernel_rfl) (by simp) ?_
      refine AllReadyH.cons rfl (fun K hK => ?_) AllReadyH.nil
      go_simp
      go_at_call 34
      refine (HS.out hn0 hn1 _ _ _ _ _ HRwc08.out HRwc18.out).mono ?_
      rintro e w9 ⟨⟨sw, tw, rfl, ho⟩, hb⟩
      have HB9 : Hid (Below w.heap.size w w9) := Lib.hid (HB8.out.trans (hb.mono HB8.out.size))
      have HZ9 : Hid (w8.heap.size ≤ w9.heap.size) := Lib.hid hb.size
      have HRf09 := Lib.hid (HRf00.out.below HB9.out (Nat.le_refl _))
      have HRf19 := Lib.hid (HRf10.out.below HB9.out (Nat.le_refl _))
      have HKa09 := Lib.hid ((hb.block _ (lt_of_block HKa08.out)).trans HKa08.out)
      have HKa19 := Lib.hid ((hb.block _ (lt_of_block HKa18.out)).trans HKa18.out)
      have HKw09 := Lib.hid ((hb.block _ (lt_of_block HKw08.out)).trans HKw08.out)
      have HRwc09 := Lib.hid (HRwc08.out.below hb (Nat.le_refl _))
      have HRwc19 := Lib.hid (HRwc18.out.below hb (Nat.le_refl _))
      have HBs4_9 : Hid (Below w4.heap.size w4 w9) := Lib.hid (HBs4_8.out.trans (hb.mono HBs4_8.out.size))
      have HBs7_9 : Hid (Below w7.heap.size w7 w9) := Lib.hid (HBs7_8.out.trans (hb.mono HBs7_8.out.size))
      have HBs8_9 : Hid (Below w8.heap.size w8 w9) := Lib.hid (HBs8_8.out.trans (hb.mono HBs8_8.out.size))
      clear hb
      obtain ⟨pw, kw, ppw, kkw, rfl, rfl⟩ := ho.form
      have HOw9 := Lib.hid (ho)
      clear ho
      clear ca00 ca01 fa00 fa01 lta0 ca10 ca11 fa10 fa11 lta1 cw00 cw01 fw00 fw01 ltw0
      have lta0 := lt_of_block HKa09.out
      obtain ⟨ca00, ca01, fa00, fa01⟩ := cell2 HKa09.out
      have lta1 := lt_of_block HKa19.out
      obtain ⟨ca10, ca11, fa10, fa11⟩ := cell2 HKa19.out
      have ltw0 := lt_of_block HKw09.out
      obtain ⟨cw00, cw01, fw00, fw01⟩ := cell2 HKw09.out
      try go_simp
      refine hK.out _ _ (⟨ca00, ca01, ca10, ca11⟩) (fun hHeld => ?_)
      clear hK K
      try simp only [Act.put, List.setIfInBounds_toArray, List.set_cons_zero, List.set_cons_succ]
      refine take1 (i := 5) (v := ?v15) (some 27) rfl rfl (by kernel_rfl) (by kernel_rfl) (by kernel_rfl) (fun _ _ _ h => h) (Or.inl ⟨by rfl, ?y15⟩) (by assumption) ?r15
      case y15 => (intro w hSw; (try dsimp only at hSw); go_simp; (first | done | with_reducible rfl))
      try simp only [Act.put, List.setIfInBounds_toArray, List.set_cons_zero, List.set_cons_succ]
      refine take1 (i := 6) (v := ?v16) (some 33) rfl rfl (by kernel_rfl) (by kernel_rfl) (by kernel_rfl) (fun _ _ _ h => h) (Or.inl ⟨by rfl, ?y16⟩) (by assumption) ?r16
      case y16 => (intro w hSw; (try dsimp only at hSw); go_simp; (first | done | with_reducible rfl))
      try simp only [Act.put, List.setIfInBounds_toArray, List.set_cons_zero, List.set_cons_succ]
      refine take1 (i := 7) (v := ?v17) (some 34) rfl rfl (by kernel_rfl) (by kernel_rfl) (by kernel_rfl) (fun _ _ _ h => h) (Or.inl ⟨by rfl, ?y17⟩) (by assumption) ?r17
      case y17 => (intro w hSw; (try dsimp only at hSw); go_simp; (first | done | with_reducible rfl))
      try simp only [Act.put, List.setIfInBounds_toArray, List.set_cons_zero, List.set_cons_succ]
      refine wpAnyH_ready (rs := [9]) (by kernel_rfl) (by simp) ?_
      refine AllReadyH.cons rfl (fun K hK => ?_) AllReadyH.nil
      go_simp
      have hkb := box2_set HKw09.out (.slice pw qs.length kw) (.slice ppw qt.length kkw)
      have hm : Btw w5.heap.size (w5.heap.size + 1) w9 ((w9.setCell ⟨w5.heap.size, 0, none⟩ (.slice pw qs.length kw)).setCell ⟨w5.heap.size, 1, none⟩ (.slice ppw qt.length kkw)) := ((Btw.refl w5.heap.size (w5.heap.size + 1) w9).setCell (p := ⟨w5.heap.size, 0, none⟩) (Nat.le_refl _) (Nat.lt_succ_self _) _).setCell (p := ⟨w5.heap.size, 1, none⟩) (Nat.le_refl _) (Nat.lt_succ_self _) _
      generalize (w9.setCell ⟨w5.heap.size, 0, none⟩ (.slice pw qs.length kw)).setCell ⟨w5.heap.size, 1, none⟩ (.slice ppw qt.length kkw) = w10 at hkb hm ⊢
      have HZ10 : Hid (w9.heap.size ≤ w10.heap.size) := Lib.hid hm.size
      have HB10 : Hid (Below w.heap.size w w10) := Lib.hid (HB9.out.trans (hm.below.mono (by have := HZ1.out; have := HZ2.out; have := HZ3.out; have := HZ4.out; have := HZ5.out; have := HZ6.out; have := HZ7.out; have := HZ8.out; have := HZ9.out; have := HB0.out.size; omega)))
      have HRf010 := Lib.hid (HRf00.out.below HB10.out (Nat.le_refl _))
      have HRf110 := Lib.hid (HRf10.out.below HB10.out (Nat.le_refl _))
      have HKa010 := Lib.hid ((hm.block _ (by have := lt_of_block HKa09.out; have := HZ1.out; have := HZ2.out; have := HZ3.out; have := HZ4.out; have := HZ5.out; have := HZ6.out; have := HZ7.out; have := HZ8.out; have := HZ9.out; omega)).trans HKa09.out)
      have HKa110 := Lib.hid ((hm.block _ (by have := lt_of_block HKa19.out; have := HZ1.out; have := HZ2.out; have := HZ3.out; have := HZ4.out; have := HZ5.out; have := HZ6.out; have := HZ7.out; have := HZ8.out; have := HZ9.out; omega)).trans HKa19.out)
      have HOw10 := Lib.hid (HOw9.out.btw hm (by have := HZ1.out; have := HZ2.out; have := HZ3.out; have := HZ4.out; have := HZ5.out; have := HZ6.out; have := HZ7.out; have := HZ8.out; have := HZ9.out; omega))
      have HBs4_10 : Hid (Below w4.heap.size w4 w10) := Lib.hid (HBs4_9.out.trans (hm.below.mono (by have := HZ1.out; have := HZ2.out; have := HZ3.out; have := HZ4.out; have := HZ5.out; have := HZ6.out; have := HZ7.out; have := HZ8.out; have := HZ9.out; omega)))
      clear hm
      have HKw010 := Lib.hid (hkb)
      clear hkb
      clear ca00 ca01 fa00 fa01 lta0 ca10 ca11 fa10 fa11 lta1 cw00 cw01 fw00 fw01 ltw0
      have lta0 := lt_of_block HKa010.out
      obtain ⟨ca00, ca01, fa00, fa01⟩ := cell2 HKa010.out
      have lta1 := lt_of_block HKa110.out
      obtain ⟨ca10, ca11, fa10, fa11⟩ := cell2 HKa110.out
      have ltw0 := lt_of_block HKw010.out
      obtain ⟨cw00, cw01, fw00, fw01⟩ := cell2 HKw010.out
      refine hK.out _ _ (⟨ca00, ca01, ca10, ca11⟩) (fun hHeld => ?_)
      clear hK K
      try simp only [Act.put]
      refine take1 (i := 10) (v := ?v18) (some 7) rfl rfl (by kernel_rfl) (by kernel_rfl) (by kernel_rfl) (fun _ _ _ h => h) (Or.inl ⟨by rfl, ?y18⟩) (by assumption) ?r18
      case y18 => (intro w hSw; (try dsimp only at hSw); go_simp; (first | done | with_reducible rfl))
      try simp only [Act.put, List.setIfInBounds_toArray, List.set_cons_zero, List.set_cons_succ]
      refine wpAnyH_done (by kernel_rfl) ?_ _
      go_wp2_with fail
      go_meet
      exact ⟨w5.heap.size, pw, kw, ppw, kkw, _, _, rfl, rfl, HKw010.out, HOw10.out, by have := HZ1.out; have := HZ2.out; have := HZ3.out; have := HZ4.out; have := HZ5.out; have := HZ6.out; have := HZ7.out; have := HZ8.out; have := HZ9.out; have := HZ10.out;  omega, by have := HZ1.out; have := HZ2.out; have := HZ3.out; have := HZ4.out; have := HZ5.out; have := HZ6.out; have := HZ7.out; have := HZ8.out; have := HZ9.out; have := HZ10.out;  omega, by have := HZ1.out; have := HZ2.out; have := HZ3.out; have := HZ4.out; have := HZ5.out; have := HZ6.out; have := HZ7.out; have := HZ8.out; have := HZ9.out; have := HZ10.out;  omega, by have := HZ1.out; have := HZ2.out; have := HZ3.out; have := HZ4.out; have := HZ5.out; have := HZ6.out; have := HZ7.out; have := HZ8.out; have := HZ9.out; have := HZ10.out;  omega, by have := HZ1.out; have := HZ2.out; have := HZ3.out; have := HZ4.out; have := HZ5.out; have := HZ6.out; have := HZ7.out; have := HZ8.out; have := HZ9.out; have := HZ10.out;  omega, by have := HZ1.out; have := HZ2.out; have := HZ3.out; have := HZ4.out; have := HZ5.out; have := HZ6.out; have := HZ7.out; have := HZ8.out; have := HZ9.out; have := HZ10.out;  omega, HBs4_10.out⟩
  case rest =>
    obtain ⟨bw, pw, kw, ppw, kkw, low, hiw, rfl, rfl, hkq, hoq, hl1w, hl2w, hl6w, hl3w, hl4w, hl5w, hb⟩ := hcut
    rename World => w5
    have HB5 : Hid (Below w.heap.size w w5) := Lib.hid (HB4.out.trans (hb.mono HB4.out.size))
    have HZ5 : Hid (w4.heap.size ≤ w5.heap.size) := Lib.hid hb.size
    have HRf05 := Lib.hid (HRf00.out.below HB5.out (Nat.le_refl _))
    have HRf15 := Lib.hid (HRf10.out.below HB5.out (Nat.le_refl _))
    have HKa05 := Lib.hid ((hb.block _ (lt_of_block HKa04.out)).trans HKa04.out)
    have HKa15 := Lib.hid ((hb.block _ (lt_of_block HKa14.out)).trans HKa14.out)
    clear hb
    have hltw := lt_of_block hkq
    have HKw05 := Lib.hid (hkq)
    have HOw5 := Lib.hid (hoq)
    clear hkq hoq
    clear ca00 ca01 fa00 fa01 lta0 ca10 ca11 fa10 fa11 lta1
    have lta0 := lt_of_block HKa05.out
    obtain ⟨ca00, ca01, fa00, fa01⟩ := cell2 HKa05.out
    have lta1 := lt_of_block HKa15.out
    obtain ⟨ca10, ca11, fa10, fa11⟩ := cell2 HKa15.out
    have ltw0 := lt_of_block HKw05.out
    obtain ⟨cw00, cw01, fw00, fw01⟩ := cell2 HKw05.out
    go_wp2_with fail
    refine (toBoard_any _ _ ls0 ss0 _ HRf05.out hn0.1 hn0.2).mono ?_
    rintro e w6 ⟨⟨sx0, tx0, rfl, ho⟩, hb⟩
    have HB6 : Hid (Below w.heap.size w w6) := Lib.hid (HB5.out.trans (hb.mono HB5.out.size))
    have HZ6 : Hid (w5.heap.size ≤ w6.heap.size) := Lib.hid hb.size
    have HRf06 := Lib.hid (HRf00.out.below HB6.out (Nat.le_refl _))
    have HRf16 := Lib.hid (HRf10.out.below HB6.out (Nat.le_refl _))
    have HKa06 := Lib.hid ((hb.block _ (lt_of_block HKa05.out)).trans HKa05.out)
    have HKa16 := Lib.hid ((hb.block _ (lt_of_block HKa15.out)).trans HKa15.out)
    have HKw06 := Lib.hid ((hb.block _ (lt_of_block HKw05.out)).trans HKw05.out)
    have HOw6 := Lib.hid (HOw5.out.next hb)
    clear hb
    obtain ⟨px0, kx0, ppx0, kkx0, rfl, rfl⟩ := ho.form
    have HOx06 := Lib.hid (ho)
    clear ho
    clear ca00 ca01 fa00 fa01 lta0 ca10 ca11 fa10 fa11 lta1 cw00 cw01 fw00 fw01 ltw0
    have lta0 := lt_of_block HKa06.out
    obtain ⟨ca00, ca01, fa00, fa01⟩ := cell2 HKa06.out
    have lta1 := lt_of_block HKa16.out
    obtain ⟨ca10, ca11, fa10, fa11⟩ := cell2 HKa16.out
    have ltw0 := lt_of_block HKw06.out
    obtain ⟨cw00, cw01, fw00, fw01⟩ := cell2 HKw06.out
    go_wp2_with fail
    have hb : Below w6.heap.size w6 (w6.alloc (.cells #[.slice px0 ls0.length kx0, .slice ppx0 ss0.length kkx0] 27)) := (Below.refl _ _).alloc (Nat.le_refl _) _
    have hk : (w6.alloc (.cells #[.slice px0 ls0.length kx0, .slice ppx0 ss0.length kkx0] 27)).heap[w6.heap.size]? = some (.cells #[.slice px0 ls0.length kx0, .slice ppx0 ss0.length kkx0] 27 (0, 0)) := alloc_at rfl
    have hz : (w6.alloc (.cells #[.slice px0 ls0.length kx0, .slice ppx0 ss0.length kkx0] 27)).heap.size = w6.heap.size + 1 := by simp
    generalize w6.alloc (.cells #[.slice px0 ls0.length kx0, .slice ppx0 ss0.length kkx0] 27) = w7 at hb hk hz ⊢
    have HB7 : Hid (Below w.heap.size w w7) := Lib.hid (HB6.out.trans (hb.mono HB6.out.size))
    have HZ7 : Hid (w6.heap.size ≤ w7.heap.size) := Lib.hid hb.size
    have HRf07 := Lib.hid (HRf00.out.below HB7.out (Nat.le_refl _))
    have HRf17 := Lib.hid (HRf10.out.below HB7.out (Nat.le_refl _))
    have HKa07 := Lib.hid ((hb.block _ (lt_of_block HKa06.out)).trans HKa06.out)
    have HKa17 := Lib.hid ((hb.block _ (lt_of_block HKa16.out)).trans HKa16.out)
    have HKw07 := Lib.hid ((hb.block _ (lt_of_block HKw06.out)).trans HKw06.out)
    have HOw7 := Lib.hid (HOw6.out.next hb)
    have HOx07 := Lib.hid (HOx06.out.next hb)
    have HKx07 := Lib.hid hk
    replace HZ7 : Hid (w6.heap.size < w7.heap.size) := Lib.hid (by omega)
    have HE7 := Lib.hid hz
    clear hb hk hz
    refine (toBoard_any _ _ ls1 ss1 _ HRf17.out hn1.1 hn1.2).mono ?_
    rintro e w8 ⟨⟨sx1, tx1, rfl, ho⟩, hb⟩
    have HB8 : Hid (Below w.heap.size w w8) := Lib.hid (HB7.out.trans (hb.mono HB7.out.size))
    have HZ8 : Hid (w7.heap.size ≤ w8.heap.size) := Lib.hid hb.size
    have HRf08 := Lib.hid (HRf00.out.below HB8.out (Nat.le_refl _))
    have HRf18 := Lib.hid (HRf10.out.below HB8.out (Nat.le_refl _))
    have HKa08 := Lib.hid ((hb.block _ (lt_of_block HKa07.out)).trans HKa07.out)
    have HKa18 := Lib.hid ((hb.block _ (lt_of_block HKa17.out)).trans HKa17.out)
    have HKw08 := Lib.hid ((hb.block _ (lt_of_block HKw07.out)).trans HKw07.out)
    have HOw8 := Lib.hid (HOw7.out.next hb)
    have HOx08 := Lib.hid (HOx07.out.next hb)
    have HKx08 := Lib.hid ((hb.block _ (lt_of_block HKx07.out)).trans HKx07.out)
    clear hb
    obtain ⟨px1, kx1, ppx1, kkx1, rfl, rfl⟩ := ho.form
    have HOx18 := Lib.hid (ho)
    clear ho
    clear ca00 ca01 fa00 fa01 lta0 ca10 ca11 fa10 fa11 lta1 cw00 cw01 fw00 fw01 ltw0
    have lta0 := lt_of_block HKa08.out
    obtain ⟨ca00, ca01, fa00, fa01⟩ := cell2 HKa08.out
    have lta1 := lt_of_block HKa18.out
    obtain ⟨ca10, ca11, fa10, fa11⟩ := cell2 HKa18.out
    have ltw0 := lt_of_block HKw08.out
    obtain ⟨cw00, cw01, fw00, fw01⟩ := cell2 HKw08.out
    have ltx0 := lt_of_block HKx08.out
    obtain ⟨cx00, cx01, fx00, fx01⟩ := cell2 HKx08.out
    go_wp2_with fail
    have hb : Below w8.heap.size w8 (w8.alloc (.cells #[.slice px1 ls1.length kx1, .slice ppx1 ss1.length kkx1] 27)) := (Below.refl _ _).alloc (Nat.le_refl _) _
    have hk : (w8.alloc (.cells #[.slice px1 ls1.length kx1, .slice ppx1 ss1.length kkx1] 27)).heap[w8.heap.size]? = some (.cells #[.slice px1 ls1.length kx1, .slice ppx1 ss1.length kkx1] 27 (0, 0)) := alloc_at rfl
    have hz : (w8.alloc (.cells #[.slice px1 ls1.length kx1, .slice ppx1 ss1.length kkx1] 27)).heap.size = w8.heap.size + 1 := by simp
    generalize w8.alloc (.cells #[.slice px1 ls1.length kx1, .slice ppx1 ss1.length kkx1] 27) = w9 at hb hk hz ⊢
    have HB9 : Hid (Below w.heap.size w w9) := Lib.hid (HB8.out.trans (hb.mono HB8.out.size))
    have HZ9 : Hid (w8.heap.size ≤ w9.heap.size) := Lib.hid hb.size
    have HRf09 := Lib.hid (HRf00.out.below HB9.out (Nat.le_refl _))
    have HRf19 := Lib.hid (HRf10.out.below HB9.out (Nat.le_refl _))
    have HKa09 := Lib.hid ((hb.block _ (lt_of_block HKa08.out)).trans HKa08.out)
    have HKa19 := Lib.hid ((hb.block _ (lt_of_block HKa18.out)).trans HKa18.out)
    have HKw09 := Lib.hid ((hb.block _ (lt_of_block HKw08.out)).trans HKw08.out)
    have HOw9 := Lib.hid (HOw8.out.next hb)
    have HOx09 := Lib.hid (HOx08.out.next hb)
    have HKx09 := Lib.hid ((hb.block _ (lt_of_block HKx08.out)).trans HKx08.out)
    have HOx19 := Lib.hid (HOx18.out.next hb)
    have HKx19 := Lib.hid hk
    replace HZ9 : Hid (w8.heap.size < w9.heap.size) := Lib.hid (by omega)
    have HE9 := Lib.hid hz
    clear hb hk hz
    clear ca00 ca01 fa00 fa01 lta0 ca10 ca11 fa10 fa11 lta1 cw00 cw01 fw00 fw01 ltw0 cx00 cx01 fx00 fx01 ltx0
    have lta0 := lt_of_block HKa09.out
    obtain ⟨ca00, ca01, fa00, fa01⟩ := cell2 HKa09.out
    have lta1 := lt_of_block HKa19.out
    obtain ⟨ca10, ca11, fa10, fa11⟩ := cell2 HKa19.out
    have ltw0 := lt_of_block HKw09.out
    obtain ⟨cw00, cw01, fw00, fw01⟩ := cell2 HKw09.out
    have ltx0 := lt_of_block HKx09.out
    obtain ⟨cx00, cx01, fx00, fx01⟩ := cell2 HKx09.out
    have ltx1 := lt_of_block HKx19.out
    obtain ⟨cx10, cx11, fx10, fx11⟩ := cell2 HKx19.out
    refine (HI.out hn0 hn1 _ _ _ _ _ HOx09.out.reads HOx19.out.reads).mono ?_
    rintro e w10 ⟨⟨sg, tg, rfl, ho⟩, hb⟩
    have HB10 : Hid (Below w.heap.size w w10) := Lib.hid (HB9.out.trans (hb.mono HB9.out.size))
    have HZ10 : Hid (w9.heap.size ≤ w10.heap.size) := Lib.hid hb.size
    have HRf010 := Lib.hid (HRf00.out.below HB10.out (Nat.le_refl _))
    have HRf110 := Lib.hid (HRf10.out.below HB10.out (Nat.le_refl _))
    have HKa010 := Lib.hid ((hb.block _ (lt_of_block HKa09.out)).trans HKa09.out)
    have HKa110 := Lib.hid ((hb.block _ (lt_of_block HKa19.out)).trans HKa19.out)
    have HKw010 := Lib.hid ((hb.block _ (lt_of_block HKw09.out)).trans HKw09.out)
    have HOw10 := Lib.hid (HOw9.out.next hb)
    have HOx010 := Lib.hid (HOx09.out.next hb)
    have HKx010 := Lib.hid ((hb.block _ (lt_of_block HKx09.out)).trans HKx09.out)
    have HOx110 := Lib.hid (HOx19.out.next hb)
    have HKx110 := Lib.hid ((hb.block _ (lt_of_block HKx19.out)).trans HKx19.out)
    clear hb
    obtain ⟨pg, kg, ppg, kkg, rfl, rfl⟩ := ho.form
    have HOg10 := Lib.hid (ho)
    clear ho
    clear ca00 ca01 fa00 fa01 lta0 ca10 ca11 fa10 fa11 lta1 cw00 cw01 fw00 fw01 ltw0 cx00 cx01 fx00 fx01 ltx0 cx10 cx11 fx10 fx11 ltx1
    have lta0 := lt_of_block HKa010.out
    obtain ⟨ca00, ca01, fa00, fa01⟩ := cell2 HKa010.out
    have lta1 := lt_of_block HKa110.out
    obtain ⟨ca10, ca11, fa10, fa11⟩ := cell2 HKa110.out
    have ltw0 := lt_of_block HKw010.out
    obtain ⟨cw00, cw01, fw00, fw01⟩ := cell2 HKw010.out
    have ltx0 := lt_of_block HKx010.out
    obtain ⟨cx00, cx01, fx00, fx01⟩ := cell2 HKx010.out
    have ltx1 := lt_of_block HKx110.out
    obtain ⟨cx10, cx11, fx10, fx11⟩ := cell2 HKx110.out
    go_wp2_with fail
    have hb : Below w10.heap.size w10 (w10.alloc (.cells #[.slice pg qs.length kg, .slice ppg qt.length kkg] 27)) := (Below.refl _ _).alloc (Nat.le_refl _) _
    have hk : (w10.alloc (.cells #[.slice pg qs.length kg, .slice ppg qt.length kkg] 27)).heap[w10.heap.size]? = some (.cells #[.slice pg qs.length kg, .slice ppg qt.length kkg] 27 (0, 0)) := alloc_at rfl
    have hz : (w10.alloc (.cells #[.slice pg qs.length kg, .slice ppg qt.length kkg] 27)).heap.size = w10.heap.size + 1 := by simp
    generalize w10.alloc (.cells #[.slice pg qs.length kg, .slice ppg qt.length kkg] 27) = w11 at hb hk hz ⊢
    have HB11 : Hid (Below w.heap.size w w11) := Lib.hid (HB10.out.trans (hb.mono HB10.out.size))
    have HZ11 : Hid (w10.heap.size ≤ w11.heap.size) := Lib.hid hb.size
    have HRf011 := Lib.hid (HRf00.out.below HB11.out (Nat.le_refl _))
    have HRf111 := Lib.hid (HRf10.out.below HB11.out (Nat.le_refl _))
    have HKa011 := Lib.hid ((hb.block _ (lt_of_block HKa010.out)).trans HKa010.out)
    have HKa111 := Lib.hid ((hb.block _ (lt_of_block HKa110.out)).trans HKa110.out)
    have HKw011 := Lib.hid ((hb.block _ (lt_of_block HKw010.out)).trans HKw010.out)
    have HOw11 := Lib.hid (HOw10.out.next hb)
    have HOx011 := Lib.hid (HOx010.out.next hb)
    have HKx011 := Lib.hid ((hb.block _ (lt_of_block HKx010.out)).trans HKx010.out)
    have HOx111 := Lib.hid (HOx110.out.next hb)
    have HKx111 := Lib.hid ((hb.block _ (lt_of_block HKx110.out)).trans HKx110.out)
    have HOg11 := Lib.hid (HOg10.out.next hb)
    have HKg011 := Lib.hid hk
    replace HZ11 : Hid (w10.heap.size < w11.heap.size) := Lib.hid (by omega)
    have HE11 := Lib.hid hz
    clear hb hk hz
    refine (eqBoard_yes _ _ _ _ qs qt _ HOg11.out.reads HOw11.out.reads).mono ?_
    rintro e w12 ⟨rfl, hb⟩
    have HB12 : Hid (Below w.heap.size w w12) := Lib.hid (HB11.out.trans (hb.mono HB11.out.size))
    have HZ12 : Hid (w11.heap.size ≤ w12.heap.size) := Lib.hid hb.size
    have HRf012 := Lib.hid (HRf00.out.below HB12.out (Nat.le_refl _))
    have HRf112 := Lib.hid (HRf10.out.below HB12.out (Nat.le_refl _))
    have HKa012 := Lib.hid ((hb.block _ (lt_of_block HKa011.out)).trans HKa011.out)
    have HKa112 := Lib.hid ((hb.block _ (lt_of_block HKa111.out)).trans HKa111.out)
    have HKw012 := Lib.hid ((hb.block _ (lt_of_block HKw011.out)).trans HKw011.out)
    have HOw12 := Lib.hid (HOw11.out.next hb)
    have HOx012 := Lib.hid (HOx011.out.next hb)
    have HKx012 := Lib.hid ((hb.block _ (lt_of_block HKx011.out)).trans HKx011.out)
    have HOx112 := Lib.hid (HOx111.out.next hb)
    have HKx112 := Lib.hid ((hb.block _ (lt_of_block HKx111.out)).trans HKx111.out)
    have HOg12 := Lib.hid (HOg11.out.next hb)
    have HKg012 := Lib.hid ((hb.block _ (lt_of_block HKg011.out)).trans HKg011.out)
    clear hb
    clear ca00 ca01 fa00 fa01 lta0 ca10 ca11 fa10 fa11 lta1 cw00 cw01 fw00 fw01 ltw0 cx00 cx01 fx00 fx01 ltx0 cx10 cx11 fx10 fx11 ltx1
    have lta0 := lt_of_block HKa012.out
    obtain ⟨ca00, ca01, fa00, fa01⟩ := cell2 HKa012.out
    have lta1 := lt_of_block HKa112.out
    obtain ⟨ca10, ca11, fa10, fa11⟩ := cell2 HKa112.out
    have ltw0 := lt_of_block HKw012.out
    obtain ⟨cw00, cw01, fw00, fw01⟩ := cell2 HKw012.out
    have ltx0 := lt_of_block HKx012.out
    obtain ⟨cx00, cx01, fx00, fx01⟩ := cell2 HKx012.out
    have ltx1 := lt_of_block HKx112.out
    obtain ⟨cx10, cx11, fx10, fx11⟩ := cell2 HKx112.out
    have ltg0 := lt_of_block HKg012.out
    obtain ⟨cg00, cg01, fg00, fg01⟩ := cell2 HKg012.out
    go_wp2_with fail
    clear ca00 ca01 fa00 fa01 lta0 ca10 ca11 fa10 fa11 lta1 cw00 cw01 fw00 fw01 ltw0 cx00 cx01 fx00 fx01 ltx0 cx10 cx11 fx10 fx11 ltx1 cg00 cg01 fg00 fg01 ltg0
    have lta0 := lt_of_block HKa012.out
    obtain ⟨ca00, ca01, fa00, fa01⟩ := cell2 HKa012.out
    have lta1 := lt_of_block HKa112.out
    obtain ⟨ca10, ca11, fa10, fa11⟩ := cell2 HKa112.out
    have ltw0 := lt_of_block HKw012.out
    obtain ⟨cw00, cw01, fw00, fw01⟩ := cell2 HKw012.out
    have ltx0 := lt_of_block HKx012.out
    obtain ⟨cx00, cx01, fx00, fx01⟩ := cell2 HKx012.out
    have ltx1 := lt_of_block HKx112.out
    obtain ⟨cx10, cx11, fx10, fx11⟩ := cell2 HKx112.out
    have ltg0 := lt_of_block HKg012.out
    obtain ⟨cg00, cg01, fg00, fg01⟩ := cell2 HKg012.out
    go_region_held3 (fun w' => w'.cell? ⟨w6.heap.size, 0, none⟩ = some (.slice px0 ls0.length kx0) ∧ w'.cell? ⟨w6.heap.size, 1, none⟩ = some (.slice ppx0 ss0.length kkx0) ∧ w'.cell? ⟨w.heap.size, 0, none⟩ = some (.slice ad0 ls0.length cp0) ∧ w'.cell? ⟨w.heap.size, 1, none⟩ = some (.slice ae0 ss0.length cq0))
      (first
        | go_keep
        | exact ⟨(hq1.cell (p := ⟨w6.heap.size, 0, none⟩) ltx0).trans cx00, (hq1.cell (p := ⟨w6.heap.size, 1, none⟩) ltx0).trans cx01, (hq1.cell (p := ⟨w.heap.size, 0, none⟩) lta0).trans ca00, (hq1.cell (p := ⟨w.heap.size, 1, none⟩) lta0).trans ca01⟩)
      (first
        | (go_at_call 15; refine (toBoard_any _ _ ls0 ss0 _ (HRf00.out.below HB12.out.drew (Nat.le_refl _)) hn0.1 hn0.2).mono ?_; rintro e w13 ⟨⟨s7, t7, rfl, hown7⟩, hq1⟩; obtain ⟨p7, k7, pp7, kk7, rfl, rfl⟩ := hown7.form)
        | (go_at_call 17; refine (eqBoard_yes _ _ _ _ ls0 ss0 _ (HOx012.out.reads.below ((Below.refl _ w12).drew.trans hq1) (Nat.le_refl _)) hown7.reads).mono ?_; rintro e w13 ⟨rfl, hq2⟩; replace hq1 := hq1.trans (hq2.mono hq1.size); clear hq2))
    have hb := (Below.refl _ w12).drew.trans hq1
    clear hq1 hown7
    have HB13 : Hid (Below w.heap.size w w13) := Lib.hid (HB12.out.trans (hb.mono HB12.out.size))
    have HZ13 : Hid (w12.heap.size ≤ w13.heap.size) := Lib.hid hb.size
    have HRf013 := Lib.hid (HRf00.out.below HB13.out (Nat.le_refl _))
    have HRf113 := Lib.hid (HRf10.out.below HB13.out (Nat.le_refl _))
    have HKa013 := Lib.hid ((hb.block _ (lt_of_block HKa012.out)).trans HKa012.out)
    have HKa113 := Lib.hid ((hb.block _ (lt_of_block HKa112.out)).trans HKa112.out)
    have HKw013 := Lib.hid ((hb.block _ (lt_of_block HKw012.out)).trans HKw012.out)
    have HOw13 := Lib.hid (HOw12.out.next hb)
    have HOx013 := Lib.hid (HOx012.out.next hb)
    have HKx013 := Lib.hid ((hb.block _ (lt_of_block HKx012.out)).trans HKx012.out)
    have HOx113 := Lib.hid (HOx112.out.next hb)
    have HKx113 := Lib.hid ((hb.block _ (lt_of_block HKx112.out)).trans HKx112.out)
    have HOg13 := Lib.hid (HOg12.out.next hb)
    have HKg013 := Lib.hid ((hb.block _ (lt_of_block HKg012.out)).trans HKg012.out)
    clear hb
    clear ca00 ca01 fa00 fa01 lta0 ca10 ca11 fa10 fa11 lta1 cw00 cw01 fw00 fw01 ltw0 cx00 cx01 fx00 fx01 ltx0 cx10 cx11 fx10 fx11 ltx1 cg00 cg01 fg00 fg01 ltg0
    have lta0 := lt_of_block HKa013.out
    obtain ⟨ca00, ca01, fa00, fa01⟩ := cell2 HKa013.out
    have lta1 := lt_of_block HKa113.out
    obtain ⟨ca10, ca11, fa10, fa11⟩ := cell2 HKa113.out
    have ltw0 := lt_of_block HKw013.out
    obtain ⟨cw00, cw01, fw00, fw01⟩ := cell2 HKw013.out
    have ltx0 := lt_of_block HKx013.out
    obtain ⟨cx00, cx01, fx00, fx01⟩ := cell2 HKx013.out
    have ltx1 := lt_of_block HKx113.out
    obtain ⟨cx10, cx11, fx10, fx11⟩ := cell2 HKx113.out
    have ltg0 := lt_of_block HKg013.out
    obtain ⟨cg00, cg01, fg00, fg01⟩ := cell2 HKg013.out
    go_wp2_with fail
    clear ca00 ca01 fa00 fa01 lta0 ca10 ca11 fa10 fa11 lta1 cw00 cw01 fw00 fw01 ltw0 cx00 cx01 fx00 fx01 ltx0 cx10 cx11 fx10 fx11 ltx1 cg00 cg01 fg00 fg01 ltg0
    have lta0 := lt_of_block HKa013.out
    obtain ⟨ca00, ca01, fa00, fa01⟩ := cell2 HKa013.out
    have lta1 := lt_of_block HKa113.out
    obtain ⟨ca10, ca11, fa10, fa11⟩ := cell2 HKa113.out
    have ltw0 := lt_of_block HKw013.out
    obtain ⟨cw00, cw01, fw00, fw01⟩ := cell2 HKw013.out
    have ltx0 := lt_of_block HKx013.out
    obtain ⟨cx00, cx01, fx00, fx01⟩ := cell2 HKx013.out
    have ltx1 := lt_of_block HKx113.out
    obtain ⟨cx10, cx11, fx10, fx11⟩ := cell2 HKx113.out
    have ltg0 := lt_of_block HKg013.out
    obtain ⟨cg00, cg01, fg00, fg01⟩ := cell2 HKg013.out
    go_region_held3 (fun w' => w'.cell? ⟨w8.heap.size, 0, none⟩ = some (.slice px1 ls1.length kx1) ∧ w'.cell? ⟨w8.heap.size, 1, none⟩ = some (.slice ppx1 ss1.length kkx1) ∧ w'.cell? ⟨w.heap.size + 1, 0, none⟩ = some (.slice ad1 ls1.length cp1) ∧ w'.cell? ⟨w.heap.size + 1, 1, none⟩ = some (.slice ae1 ss1.length cq1))
      (first
        | go_keep
        | exact ⟨(hq1.cell (p := ⟨w8.heap.size, 0, none⟩) ltx1).trans cx10, (hq1.cell (p := ⟨w8.heap.size, 1, none⟩) ltx1).trans cx11, (hq1.cell (p := ⟨w.heap.size + 1, 0, none⟩) lta1).trans ca10, (hq1.cell (p := ⟨w.heap.size + 1, 1, none⟩) lta1).trans ca11⟩)
      (first
        | (go_at_call 15; refine (toBoard_any _ _ ls1 ss1 _ (HRf10.out.below HB13.out.drew (Nat.le_refl _)) hn1.1 hn1.2).mono ?_; rintro e w14 ⟨⟨s7, t7, rfl, hown7⟩, hq1⟩; obtain ⟨p7, k7, pp7, kk7, rfl, rfl⟩ := hown7.form)
        | (go_at_call 17; refine (eqBoard_yes _ _ _ _ ls1 ss1 _ (HOx113.out.reads.below ((Below.refl _ w13).drew.trans hq1) (Nat.le_refl _)) hown7.reads).mono ?_; rintro e w14 ⟨rfl, hq2⟩; replace hq1 := hq1.trans (hq2.mono hq1.size); clear hq2))
    have hb := (Below.refl _ w13).drew.trans hq1
    clear hq1 hown7
    have HB14 : Hid (Below w.heap.size w w14) := Lib.hid (HB13.out.trans (hb.mono HB13.out.size))
    have HZ14 : Hid (w13.heap.size ≤ w14.heap.size) := Lib.hid hb.size
    have HRf014 := Lib.hid (HRf00.out.below HB14.out (Nat.le_refl _))
    have HRf114 := Lib.hid (HRf10.out.below HB14.out (Nat.le_refl _))
    have HKa014 := Lib.hid ((hb.block _ (lt_of_block HKa013.out)).trans HKa013.out)
    have HKa114 := Lib.hid ((hb.block _ (lt_of_block HKa113.out)).trans HKa113.out)
    have HKw014 := Lib.hid ((hb.block _ (lt_of_block HKw013.out)).trans HKw013.out)
    have HOw14 := Lib.hid (HOw13.out.next hb)
    have HOx014 := Lib.hid (HOx013.out.next hb)
    have HKx014 := Lib.hid ((hb.block _ (lt_of_block HKx013.out)).trans HKx013.out)
    have HOx114 := Lib.hid (HOx113.out.next hb)
    have HKx114 := Lib.hid ((hb.block _ (lt_of_block HKx113.out)).trans HKx113.out)
    have HOg14 := Lib.hid (HOg13.out.next hb)
    have HKg014 := Lib.hid ((hb.block _ (lt_of_block HKg013.out)).trans HKg013.out)
    clear hb
    clear ca00 ca01 fa00 fa01 lta0 ca10 ca11 fa10 fa11 lta1 cw00 cw01 fw00 fw01 ltw0 cx00 cx01 fx00 fx01 ltx0 cx10 cx11 fx10 fx11 ltx1 cg00 cg01 fg00 fg01 ltg0
    have lta0 := lt_of_block HKa014.out
    obtain ⟨ca00, ca01, fa00, fa01⟩ := cell2 HKa014.out
    have lta1 := lt_of_block HKa114.out
    obtain ⟨ca10, ca11, fa10, fa11⟩ := cell2 HKa114.out
    have ltw0 := lt_of_block HKw014.out
    obtain ⟨cw00, cw01, fw00, fw01⟩ := cell2 HKw014.out
    have ltx0 := lt_of_block HKx014.out
    obtain ⟨cx00, cx01, fx00, fx01⟩ := cell2 HKx014.out
    have ltx1 := lt_of_block HKx114.out
    obtain ⟨cx10, cx11, fx10, fx11⟩ := cell2 HKx114.out
    have ltg0 := lt_of_block HKg014.out
    obtain ⟨cg00, cg01, fg00, fg01⟩ := cell2 HKg014.out
    go_wp2_with fail
    refine (markBoard_at _ _ ls0 ss0 _ _ _ HOx014.out hn0.1 hn0.2 (1) (by omega) (by have := HZ1.out; have := HZ2.out; have := HZ3.out; have := HZ4.out; have := HZ5.out; have := HZ6.out; have := HZ7.out; have := HZ8.out; have := HZ9.out; have := HZ10.out; have := HZ11.out; have := HZ12.out; have := HZ13.out; have := HZ14.out;  omega) (by have := HZ1.out; have := HZ2.out; have := HZ3.out; have := HZ4.out; have := HZ5.out; have := HZ6.out; have := HZ7.out; have := HZ8.out; have := HZ9.out; have := HZ10.out; have := HZ11.out; have := HZ12.out; have := HZ13.out; have := HZ14.out;  omega) (by have := HZ1.out; have := HZ2.out; have := HZ3.out; have := HZ4.out; have := HZ5.out; have := HZ6.out; have := HZ7.out; have := HZ8.out; have := HZ9.out; have := HZ10.out; have := HZ11.out; have := HZ12.out; have := HZ13.out; have := HZ14.out;  omega)).mono ?_
    rintro e w15 ⟨rfl, ho, hm⟩
    have HZ15 : Hid (w14.heap.size ≤ w15.heap.size) := Lib.hid hm.size
    have HB15 : Hid (Below w.heap.size w w15) := Lib.hid (HB14.out.trans (hm.below.mono (by have := HZ1.out; have := HZ2.out; have := HZ3.out; have := HZ4.out; have := HZ5.out; have := HZ6.out; have := HZ7.out; have := HZ8.out; have := HZ9.out; have := HZ10.out; have := HZ11.out; have := HZ12.out; have := HZ13.out; have := HZ14.out; have := HB0.out.size; omega)))
    have HRf015 := Lib.hid (HRf00.out.below HB15.out (Nat.le_refl _))
    have HRf115 := Lib.hid (HRf10.out.below HB15.out (Nat.le_refl _))
    have HKa015 := Lib.hid ((hm.block _ (by have := lt_of_block HKa014.out; have := HZ1.out; have := HZ2.out; have := HZ3.out; have := HZ4.out; have := HZ5.out; have := HZ6.out; have := HZ7.out; have := HZ8.out; have := HZ9.out; have := HZ10.out; have := HZ11.out; have := HZ12.out; have := HZ13.out; have := HZ14.out; omega)).trans HKa014.out)
    have HKa115 := Lib.hid ((hm.block _ (by have := lt_of_block HKa114.out; have := HZ1.out; have := HZ2.out; have := HZ3.out; have := HZ4.out; have := HZ5.out; have := HZ6.out; have := HZ7.out; have := HZ8.out; have := HZ9.out; have := HZ10.out; have := HZ11.out; have := HZ12.out; have := HZ13.out; have := HZ14.out; omega)).trans HKa114.out)
    have HKw015 := Lib.hid ((hm.block _ (by have := lt_of_block HKw014.out; have := HZ1.out; have := HZ2.out; have := HZ3.out; have := HZ4.out; have := HZ5.out; have := HZ6.out; have := HZ7.out; have := HZ8.out; have := HZ9.out; have := HZ10.out; have := HZ11.out; have := HZ12.out; have := HZ13.out; have := HZ14.out; omega)).trans HKw014.out)
    have HOw15 := Lib.hid (HOw14.out.btw hm (by have := HZ1.out; have := HZ2.out; have := HZ3.out; have := HZ4.out; have := HZ5.out; have := HZ6.out; have := HZ7.out; have := HZ8.out; have := HZ9.out; have := HZ10.out; have := HZ11.out; have := HZ12.out; have := HZ13.out; have := HZ14.out; omega))
    have HOx115 := Lib.hid (HOx114.out.btw hm (by have := HZ1.out; have := HZ2.out; have := HZ3.out; have := HZ4.out; have := HZ5.out; have := HZ6.out; have := HZ7.out; have := HZ8.out; have := HZ9.out; have := HZ10.out; have := HZ11.out; have := HZ12.out; have := HZ13.out; have := HZ14.out; omega))
    have HKx115 := Lib.hid ((hm.block _ (by have := lt_of_block HKx114.out; have := HZ1.out; have := HZ2.out; have := HZ3.out; have := HZ4.out; have := HZ5.out; have := HZ6.out; have := HZ7.out; have := HZ8.out; have := HZ9.out; have := HZ10.out; have := HZ11.out; have := HZ12.out; have := HZ13.out; have := HZ14.out; omega)).trans HKx114.out)
    have HOg15 := Lib.hid (HOg14.out.btw hm (by have := HZ1.out; have := HZ2.out; have := HZ3.out; have := HZ4.out; have := HZ5.out; have := HZ6.out; have := HZ7.out; have := HZ8.out; have := HZ9.out; have := HZ10.out; have := HZ11.out; have := HZ12.out; have := HZ13.out; have := HZ14.out; omega))
    have HKg015 := Lib.hid ((hm.block _ (by have := lt_of_block HKg014.out; have := HZ1.out; have := HZ2.out; have := HZ3.out; have := HZ4.out; have := HZ5.out; have := HZ6.out; have := HZ7.out; have := HZ8.out; have := HZ9.out; have := HZ10.out; have := HZ11.out; have := HZ12.out; have := HZ13.out; have := HZ14.out; omega)).trans HKg014.out)
    clear hm
    clear ho
    clear ca00 ca01 fa00 fa01 lta0 ca10 ca11 fa10 fa11 lta1 cw00 cw01 fw00 fw01 ltw0 cx00 cx01 fx00 fx01 ltx0 cx10 cx11 fx10 fx11 ltx1 cg00 cg01 fg00 fg01 ltg0
    have lta0 := lt_of_block HKa015.out
    obtain ⟨ca00, ca01, fa00, fa01⟩ := cell2 HKa015.out
    have lta1 := lt_of_block HKa115.out
    obtain ⟨ca10, ca11, fa10, fa11⟩ := cell2 HKa115.out
    have ltw0 := lt_of_block HKw015.out
    obtain ⟨cw00, cw01, fw00, fw01⟩ := cell2 HKw015.out
    have ltx1 := lt_of_block HKx115.out
    obtain ⟨cx10, cx11, fx10, fx11⟩ := cell2 HKx115.out
    have ltg0 := lt_of_block HKg015.out
    obtain ⟨cg00, cg01, fg00, fg01⟩ := cell2 HKg015.out
    go_wp2_with fail
    refine (markBoard_at _ _ ls1 ss1 _ _ _ HOx115.out hn1.1 hn1.2 (1 + (ls0.length : Int) + (ss0.length : Int)) (by omega) (by have := HZ1.out; have := HZ2.out; have := HZ3.out; have := HZ4.out; have := HZ5.out; have := HZ6.out; have := HZ7.out; have := HZ8.out; have := HZ9.out; have := HZ10.out; have := HZ11.out; have := HZ12.out; have := HZ13.out; have := HZ14.out; have := HZ15.out;  omega) (by have := HZ1.out; have := HZ2.out; have := HZ3.out; have := HZ4.out; have := HZ5.out; have := HZ6.out; have := HZ7.out; have := HZ8.out; have := HZ9.out; have := HZ10.out; have := HZ11.out; have := HZ12.out; have := HZ13.out; have := HZ14.out; have := HZ15.out;  omega) (by have := HZ1.out; have := HZ2.out; have := HZ3.out; have := HZ4.out; have := HZ5.out; have := HZ6.out; have := HZ7.out; have := HZ8.out; have := HZ9.out; have := HZ10.out; have := HZ11.out; have := HZ12.out; have := HZ13.out; have := HZ14.out; have := HZ15.out;  omega)).mono ?_
    rintro e w16 ⟨rfl, ho, hm⟩
    have HZ16 : Hid (w15.heap.size ≤ w16.heap.size) := Lib.hid hm.size
    have HB16 : Hid (Below w.heap.size w w16) := Lib.hid (HB15.out.trans (hm.below.mono (by have := HZ1.out; have := HZ2.out; have := HZ3.out; have := HZ4.out; have := HZ5.out; have := HZ6.out; have := HZ7.out; have := HZ8.out; have := HZ9.out; have := HZ10.out; have := HZ11.out; have := HZ12.out; have := HZ13.out; have := HZ14.out; have := HZ15.out; have := HB0.out.size; omega)))
    have HRf016 := Lib.hid (HRf00.out.below HB16.out (Nat.le_refl _))
    have HRf116 := Lib.hid (HRf10.out.below HB16.out (Nat.le_refl _))
    have HKa016 := Lib.hid ((hm.block _ (by have := lt_of_block HKa015.out; have := HZ1.out; have := HZ2.out; have := HZ3.out; have := HZ4.out; have := HZ5.out; have := HZ6.out; have := HZ7.out; have := HZ8.out; have := HZ9.out; have := HZ10.out; have := HZ11.out; have := HZ12.out; have := HZ13.out; have := HZ14.out; have := HZ15.out; omega)).trans HKa015.out)
    have HKa116 := Lib.hid ((hm.block _ (by have := lt_of_block HKa115.out; have := HZ1.out; have := HZ2.out; have := HZ3.out; have := HZ4.out; have := HZ5.out; have := HZ6.out; have := HZ7.out; have := HZ8.out; have := HZ9.out; have := HZ10.out; have := HZ11.out; have := HZ12.out; have := HZ13.out; have := HZ14.out; have := HZ15.out; omega)).trans HKa115.out)
    have HKw016 := Lib.hid ((hm.block _ (by have := lt_of_block HKw015.out; have := HZ1.out; have := HZ2.out; have := HZ3.out; have := HZ4.out; have := HZ5.out; have := HZ6.out; have := HZ7.out; have := HZ8.out; have := HZ9.out; have := HZ10.out; have := HZ11.out; have := HZ12.out; have := HZ13.out; have := HZ14.out; have := HZ15.out; omega)).trans HKw015.out)
    have HOw16 := Lib.hid (HOw15.out.btw hm (by have := HZ1.out; have := HZ2.out; have := HZ3.out; have := HZ4.out; have := HZ5.out; have := HZ6.out; have := HZ7.out; have := HZ8.out; have := HZ9.out; have := HZ10.out; have := HZ11.out; have := HZ12.out; have := HZ13.out; have := HZ14.out; have := HZ15.out; omega))
    have HOg16 := Lib.hid (HOg15.out.btw hm (by have := HZ1.out; have := HZ2.out; have := HZ3.out; have := HZ4.out; have := HZ5.out; have := HZ6.out; have := HZ7.out; have := HZ8.out; have := HZ9.out; have := HZ10.out; have := HZ11.out; have := HZ12.out; have := HZ13.out; have := HZ14.out; have := HZ15.out; omega))
    have HKg016 := Lib.hid ((hm.block _ (by have := lt_of_block HKg015.out; have := HZ1.out; have := HZ2.out; have := HZ3.out; have := HZ4.out; have := HZ5.out; have := HZ6.out; have := HZ7.out; have := HZ8.out; have := HZ9.out; have := HZ10.out; have := HZ11.out; have := HZ12.out; have := HZ13.out; have := HZ14.out; have := HZ15.out; omega)).trans HKg015.out)
    clear hm
    clear ho
    have hxk : ¬ (1 + (ls0.length : Int) + (ss0.length : Int) + (ls1.length : Int) + (ss1.length : Int) < 0) := by omega
    clear ca00 ca01 fa00 fa01 lta0 ca10 ca11 fa10 fa11 lta1 cw00 cw01 fw00 fw01 ltw0 cx10 cx11 fx10 fx11 ltx1 cg00 cg01 fg00 fg01 ltg0
    have lta0 := lt_of_block HKa016.out
    obtain ⟨ca00, ca01, fa00, fa01⟩ := cell2 HKa016.out
    have lta1 := lt_of_block HKa116.out
    obtain ⟨ca10, ca11, fa10, fa11⟩ := cell2 HKa116.out
    have ltw0 := lt_of_block HKw016.out
    obtain ⟨cw00, cw01, fw00, fw01⟩ := cell2 HKw016.out
    have ltg0 := lt_of_block HKg016.out
    obtain ⟨cg00, cg01, fg00, fg01⟩ := cell2 HKg016.out
    go_wp2_with fail
    refine (eqBoard_yes _ _ _ _ qs qt _ HOg16.out.reads HOw16.out.reads).mono ?_
    rintro e w17 ⟨rfl, hb⟩
    have HB17 : Hid (Below w.heap.size w w17) := Lib.hid (HB16.out.trans (hb.mono HB16.out.size))
    have HZ17 : Hid (w16.heap.size ≤ w17.heap.size) := Lib.hid hb.size
    have HRf017 := Lib.hid (HRf00.out.below HB17.out (Nat.le_refl _))
    have HRf117 := Lib.hid (HRf10.out.below HB17.out (Nat.le_refl _))
    have HKa017 := Lib.hid ((hb.block _ (lt_of_block HKa016.out)).trans HKa016.out)
    have HKa117 := Lib.hid ((hb.block _ (lt_of_block HKa116.out)).trans HKa116.out)
    have HKw017 := Lib.hid ((hb.block _ (lt_of_block HKw016.out)).trans HKw016.out)
    have HOw17 := Lib.hid (HOw16.out.next hb)
    have HOg17 := Lib.hid (HOg16.out.next hb)
    have HKg017 := Lib.hid ((hb.block _ (lt_of_block HKg016.out)).trans HKg016.out)
    clear hb
    clear ca00 ca01 fa00 fa01 lta0 ca10 ca11 fa10 fa11 lta1 cw00 cw01 fw00 fw01 ltw0 cg00 cg01 fg00 fg01 ltg0
    have lta0 := lt_of_block HKa017.out
    obtain ⟨ca00, ca01, fa00, fa01⟩ := cell2 HKa017.out
    have lta1 := lt_of_block HKa117.out
    obtain ⟨ca10, ca11, fa10, fa11⟩ := cell2 HKa117.out
    have ltw0 := lt_of_block HKw017.out
    obtain ⟨cw00, cw01, fw00, fw01⟩ := cell2 HKw017.out
    have ltg0 := lt_of_block HKg017.out
    obtain ⟨cg00, cg01, fg00, fg01⟩ := cell2 HKg017.out
    go_wp2_with fail
    refine (markBoard_at _ _ qs qt _ _ _ HOg17.out (by omega) (by omega) 1 (by omega) (by have := HZ1.out; have := HZ2.out; have := HZ3.out; have := HZ4.out; have := HZ5.out; have := HZ6.out; have := HZ7.out; have := HZ8.out; have := HZ9.out; have := HZ10.out; have := HZ11.out; have := HZ12.out; have := HZ13.out; have := HZ14.out; have := HZ15.out; have := HZ16.out; have := HZ17.out;  omega) (by have := HZ1.out; have := HZ2.out; have := HZ3.out; have := HZ4.out; have := HZ5.out; have := HZ6.out; have := HZ7.out; have := HZ8.out; have := HZ9.out; have := HZ10.out; have := HZ11.out; have := HZ12.out; have := HZ13.out; have := HZ14.out; have := HZ15.out; have := HZ16.out; have := HZ17.out;  omega) (by have := HZ1.out; have := HZ2.out; have := HZ3.out; have := HZ4.out; have := HZ5.out; have := HZ6.out; have := HZ7.out; have := HZ8.out; have := HZ9.out; have := HZ10.out; have := HZ11.out; have := HZ12.out; have := HZ13.out; have := HZ14.out; have := HZ15.out; have := HZ16.out; have := HZ17.out;  omega)).mono ?_
    rintro e w18 ⟨rfl, ho, hm⟩
    have HZ18 : Hid (w17.heap.size ≤ w18.heap.size) := Lib.hid hm.size
    have HB18 : Hid (Below w.heap.size w w18) := Lib.hid (HB17.out.trans (hm.below.mono (by have := HZ1.out; have := HZ2.out; have := HZ3.out; have := HZ4.out; have := HZ5.out; have := HZ6.out; have := HZ7.out; have := HZ8.out; have := HZ9.out; have := HZ10.out; have := HZ11.out; have := HZ12.out; have := HZ13.out; have := HZ14.out; have := HZ15.out; have := HZ16.out; have := HZ17.out; have := HB0.out.size; omega)))
    have HRf018 := Lib.hid (HRf00.out.below HB18.out (Nat.le_refl _))
    have HRf118 := Lib.hid (HRf10.out.below HB18.out (Nat.le_refl _))
    have HKa018 := Lib.hid ((hm.block _ (by have := lt_of_block HKa017.out; have := HZ1.out; have := HZ2.out; have := HZ3.out; have := HZ4.out; have := HZ5.out; have := HZ6.out; have := HZ7.out; have := HZ8.out; have := HZ9.out; have := HZ10.out; have := HZ11.out; have := HZ12.out; have := HZ13.out; have := HZ14.out; have := HZ15.out; have := HZ16.out; have := HZ17.out; omega)).trans HKa017.out)
    have HKa118 := Lib.hid ((hm.block _ (by have := lt_of_block HKa117.out; have := HZ1.out; have := HZ2.out; have := HZ3.out; have := HZ4.out; have := HZ5.out; have := HZ6.out; have := HZ7.out; have := HZ8.out; have := HZ9.out; have := HZ10.out; have := HZ11.out; have := HZ12.out; have := HZ13.out; have := HZ14.out; have := HZ15.out; have := HZ16.out; have := HZ17.out; omega)).trans HKa117.out)
    have HKw018 := Lib.hid ((hm.block _ (by have := lt_of_block HKw017.out; have := HZ1.out; have := HZ2.out; have := HZ3.out; have := HZ4.out; have := HZ5.out; have := HZ6.out; have := HZ7.out; have := HZ8.out; have := HZ9.out; have := HZ10.out; have := HZ11.out; have := HZ12.out; have := HZ13.out; have := HZ14.out; have := HZ15.out; have := HZ16.out; have := HZ17.out; omega)).trans HKw017.out)
    have HOw18 := Lib.hid (HOw17.out.btw hm (by have := HZ1.out; have := HZ2.out; have := HZ3.out; have := HZ4.out; have := HZ5.out; have := HZ6.out; have := HZ7.out; have := HZ8.out; have := HZ9.out; have := HZ10.out; have := HZ11.out; have := HZ12.out; have := HZ13.out; have := HZ14.out; have := HZ15.out; have := HZ16.out; have := HZ17.out; omega))
    have HKg018 := Lib.hid ((hm.block _ (by have := lt_of_block HKg017.out; have := HZ1.out; have := HZ2.out; have := HZ3.out; have := HZ4.out; have := HZ5.out; have := HZ6.out; have := HZ7.out; have := HZ8.out; have := HZ9.out; have := HZ10.out; have := HZ11.out; have := HZ12.out; have := HZ13.out; have := HZ14.out; have := HZ15.out; have := HZ16.out; have := HZ17.out; omega)).trans HKg017.out)
    clear hm
    have HOg18 := Lib.hid (ho)
    clear ho
    clear ca00 ca01 fa00 fa01 lta0 ca10 ca11 fa10 fa11 lta1 cw00 cw01 fw00 fw01 ltw0 cg00 cg01 fg00 fg01 ltg0
    have lta0 := lt_of_block HKa018.out
    obtain ⟨ca00, ca01, fa00, fa01⟩ := cell2 HKa018.out
    have lta1 := lt_of_block HKa118.out
    obtain ⟨ca10, ca11, fa10, fa11⟩ := cell2 HKa118.out
    have ltw0 := lt_of_block HKw018.out
    obtain ⟨cw00, cw01, fw00, fw01⟩ := cell2 HKw018.out
    have ltg0 := lt_of_block HKg018.out
    obtain ⟨cg00, cg01, fg00, fg01⟩ := cell2 HKg018.out
    go_wp2_with fail
    refine (heldBoard_any _ _ qs.length qt.length 1 _ (by have := HOg18.out.reads; exact this) (by omega) (by omega) (by omega)).mono ?_
    rintro e w19 ⟨rfl, hb⟩
    have HB19 : Hid (Below w.heap.size w w19) := Lib.hid (HB18.out.trans (hb.mono HB18.out.size))
    have HZ19 : Hid (w18.heap.size ≤ w19.heap.size) := Lib.hid hb.size
    have HRf019 := Lib.hid (HRf00.out.below HB19.out (Nat.le_refl _))
    have HRf119 := Lib.hid (HRf10.out.below HB19.out (Nat.le_refl _))
    have HKa019 := Lib.hid ((hb.block _ (lt_of_block HKa018.out)).trans HKa018.out)
    have HKa119 := Lib.hid ((hb.block _ (lt_of_block HKa118.out)).trans HKa118.out)
    have HKw019 := Lib.hid ((hb.block _ (lt_of_block HKw018.out)).trans HKw018.out)
    have HOw19 := Lib.hid (HOw18.out.next hb)
    have HOg19 := Lib.hid (HOg18.out.next hb)
    have HKg019 := Lib.hid ((hb.block _ (lt_of_block HKg018.out)).trans HKg018.out)
    clear hb
    clear ca00 ca01 fa00 fa01 lta0 ca10 ca11 fa10 fa11 lta1 cw00 cw01 fw00 fw01 ltw0 cg00 cg01 fg00 fg01 ltg0
    have lta0 := lt_of_block HKa019.out
    obtain ⟨ca00, ca01, fa00, fa01⟩ := cell2 HKa019.out
    have lta1 := lt_of_block HKa119.out
    obtain ⟨ca10, ca11, fa10, fa11⟩ := cell2 HKa119.out
    have ltw0 := lt_of_block HKw019.out
    obtain ⟨cw00, cw01, fw00, fw01⟩ := cell2 HKw019.out
    have ltg0 := lt_of_block HKg019.out
    obtain ⟨cg00, cg01, fg00, fg01⟩ := cell2 HKg019.out
    go_wp2_with fail
    clear ca00 ca01 fa00 fa01 lta0 ca10 ca11 fa10 fa11 lta1 cw00 cw01 fw00 fw01 ltw0 cg00 cg01 fg00 fg01 ltg0
    have lta0 := lt_of_block HKa019.out
    obtain ⟨ca00, ca01, fa00, fa01⟩ := cell2 HKa019.out
    have lta1 := lt_of_block HKa119.out
    obtain ⟨ca10, ca11, fa10, fa11⟩ := cell2 HKa119.out
    have ltw0 := lt_of_block HKw019.out
    obtain ⟨cw00, cw01, fw00, fw01⟩ := cell2 HKw019.out
    have ltg0 := lt_of_block HKg019.out
    obtain ⟨cg00, cg01, fg00, fg01⟩ := cell2 HKg019.out
    go_cut [15, 16] from 94 (fun p q wc => ∃ (b : Nat) (pa : Option Addr) (ka : Nat) (pb : Option Addr) (kb lo hi : Nat), p = .pointer (some ⟨b, 0, none⟩) ∧ q = .bool r1 ∧ wc.heap[b]? = some (.cells #[.slice pa qs.length ka, .slice pb qt.length kb] 27 (0, 0)) ∧ OwB lo hi wc (.slice pa qs.length ka) (.slice pb qt.length kb) qs qt ∧ w19.heap.size ≤ lo ∧ lo ≤ wc.heap.size ∧ lo ≤ hi ∧ hi ≤ wc.heap.size ∧ (b < lo ∨ hi ≤ b) ∧ w19.heap.size ≤ b ∧ Below w19.heap.size w19 wc)
    case first =>
      have HBs19_19 : Hid (Below w19.heap.size w19 w19) := Lib.hid (Below.refl _ _)
      refine wp_region_held_drew (S := (fun w' => w'.cell? ⟨w.heap.size, 0, none⟩ = some (.slice ad0 ls0.length cp0) ∧ w'.cell? ⟨w.heap.size, 1, none⟩ = some (.slice ae0 ss0.length cq0) ∧ w'.cell? ⟨w.heap.size + 1, 0, none⟩ = some (.slice ad1 ls1.length cp1) ∧ w'.cell? ⟨w.heap.size + 1, 1, none⟩ = some (.slice ae1 ss1.length cq1))) (by kernel_rfl) (⟨ca00, ca01, ca10, ca11⟩) (fun hHeld => ?_)
      have hb : Below w19.heap.size w19 w19.drew := (Below.refl _ _).drew
      generalize w19.drew = w20 at hb hHeld ⊢
      have HB20 : Hid (Below w.heap.size w w20) := Lib.hid (HB19.out.trans (hb.mono HB19.out.size))
      have HZ20 : Hid (w19.heap.size ≤ w20.heap.size) := Lib.hid hb.size
      have HRf020 := Lib.hid (HRf00.out.below HB20.out (Nat.le_refl _))
      have HRf120 := Lib.hid (HRf10.out.below HB20.out (Nat.le_refl _))
      have HKa020 := Lib.hid ((hb.block _ (lt_of_block HKa019.out)).trans HKa019.out)
      have HKa120 := Lib.hid ((hb.block _ (lt_of_block HKa119.out)).trans HKa119.out)
      have HKw020 := Lib.hid ((hb.block _ (lt_of_block HKw019.out)).trans HKw019.out)
      have HOw20 := Lib.hid (HOw19.out.next hb)
      have HOg20 := Lib.hid (HOg19.out.next hb)
      have HKg020 := Lib.hid ((hb.block _ (lt_of_block HKg019.out)).trans HKg019.out)
      have HBs19_20 : Hid (Below w19.heap.size w19 w20) := Lib.hid (HBs19_19.out.trans (hb.mono HBs19_19.out.size))
      clear hb
      clear ca00 ca01 fa00 fa01 lta0 ca10 ca11 fa10 fa11 lta1 cw00 cw01 fw00 fw01 ltw0 cg00 cg01 fg00 fg01 ltg0
      have lta0 := lt_of_block HKa020.out
      obtain ⟨ca00, ca01, fa00, fa01⟩ := cell2 HKa020.out
      have lta1 := lt_of_block HKa120.out
      obtain ⟨ca10, ca11, fa10, fa11⟩ := cell2 HKa120.out
      have ltw0 := lt_of_block HKw020.out
      obtain ⟨cw00, cw01, fw00, fw01⟩ := cell2 HKw020.out
      have ltg0 := lt_of_block HKg020.out
      obtain ⟨cg00, cg01, fg00, fg01⟩ := cell2 HKg020.out
      refine take1 (i := 0) (v := ?v19) (some 95) rfl rfl (by kernel_rfl) (by kernel_rfl) (by kernel_rfl) (fun _ _ _ h => h) (Or.inl ⟨by rfl, ?y19⟩) (by assumption) ?r19
      case y19 => (intro w hSw; (try dsimp only at hSw); go_simp; (first | done | with_reducible rfl))
      try simp only [Act.put, List.setIfInBounds_toArray, List.set_cons_zero, List.set_cons_succ]
      refine take1 (i := 2) (v := ?v20) (some 97) rfl rfl (by kernel_rfl) (by kernel_rfl) (by kernel_rfl) (fun _ _ _ h => h) (Or.inl ⟨by rfl, ?y20⟩) (by assumption) ?r20
      case y20 => (intro w hSw; (try dsimp only at hSw); go_simp; (first | done | with_reducible rfl))
      try simp only [Act.put, List.setIfInBounds_toArray, List.set_cons_zero, List.set_cons_succ]
      refine wpAnyH_ready (rs := [1, 8]) (by kernel_rfl) (by simp) ?_
      refine AllReadyH.cons rfl (fun K hK => ?_) (AllReadyH.cons rfl (fun K hK => ?_) AllReadyH.nil)
      · go_simp
        go_at_call 15
        refine (toBoard_any _ _ ls0 ss0 _ HRf020.out hn0.1 hn0.2).mono ?_
        rintro e w21 ⟨⟨shc0, thc0, rfl, ho⟩, hb⟩
        have HB21 : Hid (Below w.heap.size w w21) := Lib.hid (HB20.out.trans (hb.mono HB20.out.size))
        have HZ21 : Hid (w20.heap.size ≤ w21.heap.size) := Lib.hid hb.size
        have HRf021 := Lib.hid (HRf00.out.below HB21.out (Nat.le_refl _))
        have HRf121 := Lib.hid (HRf10.out.below HB21.out (Nat.le_refl _))
        have HKa021 := Lib.hid ((hb.block _ (lt_of_block HKa020.out)).trans HKa020.out)
        have HKa121 := Lib.hid ((hb.block _ (lt_of_block HKa120.out)).trans HKa120.out)
        have HKw021 := Lib.hid ((hb.block _ (lt_of_block HKw020.out)).trans HKw020.out)
        have HOw21 := Lib.hid (HOw20.out.next hb)
        have HOg21 := Lib.hid (HOg20.out.next hb)
        have HKg021 := Lib.hid ((hb.block _ (lt_of_block HKg020.out)).trans HKg020.out)
        have HBs19_21 : Hid (Below w19.heap.size w19 w21) := Lib.hid (HBs19_20.out.trans (hb.mono HBs19_20.out.size))
        clear hb
        obtain ⟨phc0, khc0, pphc0, kkhc0, rfl, rfl⟩ := ho.form
        have HRhc021 := Lib.hid (ho.reads)
        have HBs21_21 : Hid (Below w21.heap.size w21 w21) := Lib.hid (Below.refl _ _)
        clear ho
        clear ca00 ca01 fa00 fa01 lta0 ca10 ca11 fa10 fa11 lta1 cw00 cw01 fw00 fw01 ltw0 cg00 cg01 fg00 fg01 ltg0
        have lta0 := lt_of_block HKa021.out
        obtain ⟨ca00, ca01, fa00, fa01⟩ := cell2 HKa021.out
        have lta1 := lt_of_block HKa121.out
        obtain ⟨ca10, ca11, fa10, fa11⟩ := cell2 HKa121.out
        have ltw0 := lt_of_block HKw021.out
        obtain ⟨cw00, cw01, fw00, fw01⟩ := cell2 HKw021.out
        have ltg0 := lt_of_block HKg021.out
        obtain ⟨cg00, cg01, fg00, fg01⟩ := cell2 HKg021.out
        try go_simp
        refine hK.out _ _ (⟨ca00, ca01, ca10, ca11⟩) (fun hHeld => ?_)
        clear hK K
        try simp only [Act.put, List.setIfInBounds_toArray, List.set_cons_zero, List.set_cons_succ]
        refine wpAnyH_ready (rs := [3, 8]) (by kernel_rfl) (by simp) ?_
        refine AllReadyH.cons rfl (fun K hK => ?_) (AllReadyH.cons rfl (fun K hK => ?_) AllReadyH.nil)
        · go_simp
          go_at_call 15
          refine (toBoard_any _ _ ls1 ss1 _ HRf121.out hn1.1 hn1.2).mono ?_
          rintro e w22 ⟨⟨shc1, thc1, rfl, ho⟩, hb⟩
          have HB22 : Hid (Below w.heap.size w w22) := Lib.hid (HB21.out.trans (hb.mono HB21.out.size))
          have HZ22 : Hid (w21.heap.size ≤ w22.heap.size) := Lib.hid hb.size
          have HRf022 := Lib.hid (HRf00.out.below HB22.out (Nat.le_refl _))
          have HRf122 := Lib.hid (HRf10.out.below HB22.out (Nat.le_refl _))
          have HKa022 := Lib.hid ((hb.block _ (lt_of_block HKa021.out)).trans HKa021.out)
          have HKa122 := Lib.hid ((hb.block _ (lt_of_block HKa121.out)).trans HKa121.out)
          have HKw022 := Lib.hid ((hb.block _ (lt_of_block HKw021.out)).trans HKw021.out)
          have HOw22 := Lib.hid (HOw21.out.next hb)
          have HOg22 := Lib.hid (HOg21.out.next hb)
          have HKg022 := Lib.hid ((hb.block _ (lt_of_block HKg021.out)).trans HKg021.out)
          have HRhc022 := Lib.hid (HRhc021.out.below hb (Nat.le_refl _))
          have HBs19_22 : Hid (Below w19.heap.size w19 w22) := Lib.hid (HBs19_21.out.trans (hb.mono HBs19_21.out.size))
          have HBs21_22 : Hid (Below w21.heap.size w21 w22) := Lib.hid (HBs21_21.out.trans (hb.mono HBs21_21.out.size))
          clear hb
          obtain ⟨phc1, khc1, pphc1, kkhc1, rfl, rfl⟩ := ho.form
          have HRhc122 := Lib.hid (ho.reads)
          have HBs22_22 : Hid (Below w22.heap.size w22 w22) := Lib.hid (Below.refl _ _)
          clear ho
          clear ca00 ca01 fa00 fa01 lta0 ca10 ca11 fa10 fa11 lta1 cw00 cw01 fw00 fw01 ltw0 cg00 cg01 fg00 fg01 ltg0
          have lta0 := lt_of_block HKa022.out
          obtain ⟨ca00, ca01, fa00, fa01⟩ := cell2 HKa022.out
          have lta1 := lt_of_block HKa122.out
          obtain ⟨ca10, ca11, fa10, fa11⟩ := cell2 HKa122.out
          have ltw0 := lt_of_block HKw022.out
          obtain ⟨cw00, cw01, fw00, fw01⟩ := cell2 HKw022.out
          have ltg0 := lt_of_block HKg022.out
          obtain ⟨cg00, cg01, fg00, fg01⟩ := cell2 HKg022.out
          try go_simp
          refine hK.out _ _ (⟨ca00, ca01, ca10, ca11⟩) (fun hHeld => ?_)
          clear hK K
          try simp only [Act.put, List.setIfInBounds_toArray, List.set_cons_zero, List.set_cons_succ]
          refine wpAnyH_ready (rs := [4, 8]) (by kernel_rfl) (by simp) ?_
          refine AllReadyH.cons rfl (fun K hK => ?_) (AllReadyH.cons rfl (fun K hK => ?_) AllReadyH.nil)
          · go_simp
            go_at_call 35
            refine (HI.out hn0 hn1 _ _ _ _ _ HRhc022.out HRhc122.out).mono ?_
            rintro e w23 ⟨⟨sh, th, rfl, ho⟩, hb⟩
            have HB23 : Hid (Below w.heap.size w w23) := Lib.hid (HB22.out.trans (hb.mono HB22.out.size))
            have HZ23 : Hid (w22.heap.size ≤ w23.heap.size) := Lib.hid hb.size
            have HRf023 := Lib.hid (HRf00.out.below HB23.out (Nat.le_refl _))
            have HRf123 := Lib.hid (HRf10.out.below HB23.out (Nat.le_refl _))
            have HKa023 := Lib.hid ((hb.block _ (lt_of_block HKa022.out)).trans HKa022.out)
            have HKa123 := Lib.hid ((hb.block _ (lt_of_block HKa122.out)).trans HKa122.out)
            have HKw023 := Lib.hid ((hb.block _ (lt_of_block HKw022.out)).trans HKw022.out)
            have HOw23 := Lib.hid (HOw22.out.next hb)
            have HOg23 := Lib.hid (HOg22.out.next hb)
            have HKg023 := Lib.hid ((hb.block _ (lt_of_block HKg022.out)).trans HKg022.out)
            have HRhc023 := Lib.hid (HRhc022.out.below hb (Nat.le_refl _))
            have HRhc123 := Lib.hid (HRhc122.out.below hb (Nat.le_refl _))
            have HBs19_23 : Hid (Below w19.heap.size w19 w23) := Lib.hid (HBs19_22.out.trans (hb.mono HBs19_22.out.size))
            have HBs21_23 : Hid (Below w21.heap.size w21 w23) := Lib.hid (HBs21_22.out.trans (hb.mono HBs21_22.out.size))
            have HBs22_23 : Hid (Below w22.heap.size w22 w23) := Lib.hid (HBs22_22.out.trans (hb.mono HBs22_22.out.size))
            clear hb
            obtain ⟨ph, kh, pph, kkh, rfl, rfl⟩ := ho.form
            have HOh23 := Lib.hid (ho)
            clear ho
            clear ca00 ca01 fa00 fa01 lta0 ca10 ca11 fa10 fa11 lta1 cw00 cw01 fw00 fw01 ltw0 cg00 cg01 fg00 fg01 ltg0
            have lta0 := lt_of_block HKa023.out
            obtain ⟨ca00, ca01, fa00, fa01⟩ := cell2 HKa023.out
            have lta1 := lt_of_block HKa123.out
            obtain ⟨ca10, ca11, fa10, fa11⟩ := cell2 HKa123.out
            have ltw0 := lt_of_block HKw023.out
            obtain ⟨cw00, cw01, fw00, fw01⟩ := cell2 HKw023.out
            have ltg0 := lt_of_block HKg023.out
            obtain ⟨cg00, cg01, fg00, fg01⟩ := cell2 HKg023.out
            try go_simp
            refine hK.out _ _ (⟨ca00, ca01, ca10, ca11⟩) (fun hHeld => ?_)
            clear hK K
            try simp only [Act.put, List.setIfInBounds_toArray, List.set_cons_zero, List.set_cons_succ]
            refine take1 (i := 5) (v := ?v21) (some 94) rfl rfl (by kernel_rfl) (by kernel_rfl) (by kernel_rfl) (fun _ _ _ h => h) (Or.inl ⟨by rfl, ?y21⟩) (by assumption) ?r21
            case y21 => (intro w hSw; (try dsimp only at hSw); go_simp; (first | done | with_reducible rfl))
            try simp only [Act.put, List.setIfInBounds_toArray, List.set_cons_zero, List.set_cons_succ]
            refine take1 (i := 6) (v := ?v22) (some 100) rfl rfl (by kernel_rfl) (by kernel_rfl) (by kernel_rfl) (fun _ _ _ h => h) (Or.inl ⟨by rfl, ?y22⟩) (by assumption) ?r22
            case y22 => (intro w hSw; (try dsimp only at hSw); go_simp; (first | done | with_reducible rfl))
            try simp only [Act.put, List.setIfInBounds_toArray, List.set_cons_zero, List.set_cons_succ]
            refine take1 (i := 7) (v := ?v23) (some 101) rfl rfl (by kernel_rfl) (by kernel_rfl) (by kernel_rfl) (fun _ _ _ h => h) (Or.inl ⟨by rfl, ?y23⟩) (by assumption) ?r23
            case y23 => (intro w hSw; (try dsimp only at hSw); go_simp; (first | done | with_reducible rfl))
            try simp only [Act.put, List.setIfInBounds_toArray, List.set_cons_zero, List.set_cons_succ]
            refine wpAnyH_ready (rs := [8]) (by kernel_rfl) (by simp) ?_
            refine AllReadyH.cons rfl (fun K hK => ?_) AllReadyH.nil
            go_simp
            have hb : Below w23.heap.size w23 (w23.alloc (.cells #[.slice none 0 0, .slice none 0 0] 27)) := (Below.refl _ _).alloc (Nat.le_refl _) _
            have hk : (w23.alloc (.cells #[.slice none 0 0, .slice none 0 0] 27)).heap[w23.heap.size]? = some (.cells #[.slice none 0 0, .slice none 0 0] 27 (0, 0)) := alloc_at rfl
            have hz : (w23.alloc (.cells #[.slice none 0 0, .slice none 0 0] 27)).heap.size = w23.heap.size + 1 := by simp
            generalize w23.alloc (.cells #[.slice none 0 0, .slice none 0 0] 27) = w24 at hb hk hz ⊢
            have HB24 : Hid (Below w.heap.size w w24) := Lib.hid (HB23.out.trans (hb.mono HB23.out.size))
            have HZ24 : Hid (w23.heap.size ≤ w24.heap.size) := Lib.hid hb.size
            have HRf024 := Lib.hid (HRf00.out.below HB24.out (Nat.le_refl _))
            have HRf124 := Lib.hid (HRf10.out.below HB24.out (Nat.le_refl _))
            have HKa024 := Lib.hid ((hb.block _ (lt_of_block HKa023.out)).trans HKa023.out)
            have HKa124 := Lib.hid ((hb.block _ (lt_of_block HKa123.out)).trans HKa123.out)
            have HKw024 := Lib.hid ((hb.block _ (lt_of_block HKw023.out)).trans HKw023.out)
            have HOw24 := Lib.hid (HOw23.out.next hb)
            have HOg24 := Lib.hid (HOg23.out.next hb)
            have HKg024 := Lib.hid ((hb.block _ (lt_of_block HKg023.out)).trans HKg023.out)
            have HRhc024 := Lib.hid (HRhc023.out.below hb (Nat.le_refl _))
            have HRhc124 := Lib.hid (HRhc123.out.below hb (Nat.le_refl _))
            have HOh24 := Lib.hid (HOh23.out.next hb)
            have HBs19_24 : Hid (Below w19.heap.size w19 w24) := Lib.hid (HBs19_23.out.trans (hb.mono HBs19_23.out.size))
            have HBs21_24 : Hid (Below w21.heap.size w21 w24) := Lib.hid (HBs21_23.out.trans (hb.mono HBs21_23.out.size))
            have HBs22_24 : Hid (Below w22.heap.size w22 w24) := Lib.hid (HBs22_23.out.trans (hb.mono HBs22_23.out.size))
            have HKh024 := Lib.hid hk
            replace HZ24 : Hid (w23.heap.size < w24.heap.size) := Lib.hid (by omega)
            have HE24 := Lib.hid hz
            clear hb hk hz
            clear ca00 ca01 fa00 fa01 lta0 ca10 ca11 fa10 fa11 lta1 cw00 cw01 fw00 fw01 ltw0 cg00 cg01 fg00 fg01 ltg0
            have lta0 := lt_of_block HKa024.out
            obtain ⟨ca00, ca01, fa00, fa01⟩ := cell2 HKa024.out
            have lta1 := lt_of_block HKa124.out
            obtain ⟨ca10, ca11, fa10, fa11⟩ := cell2 HKa124.out
            have ltw0 := lt_of_block HKw024.out
            obtain ⟨cw00, cw01, fw00, fw01⟩ := cell2 HKw024.out
            have ltg0 := lt_of_block HKg024.out
            obtain ⟨cg00, cg01, fg00, fg01⟩ := cell2 HKg024.out
            have lth0 := lt_of_block HKh024.out
            obtain ⟨ch00, ch01, fh00, fh01⟩ := cell2 HKh024.out
            refine hK.out _ _ (⟨ca00, ca01, ca10, ca11⟩) (fun hHeld => ?_)
            clear hK K
            try simp only [Act.put, List.setIfInBounds_toArray, List.set_cons_zero, List.set_cons_succ]
            refine wpAnyH_ready (rs := [9]) (by kernel_rfl) (by simp) ?_
            refine AllReadyH.cons rfl (fun K hK => ?_) AllReadyH.nil
            go_simp
            have hkb := box2_set HKh024.out (.slice ph qs.length kh) (.slice pph qt.length kkh)
            have hm : Btw w23.heap.size (w23.heap.size + 1) w24 ((w24.setCell ⟨w23.heap.size, 0, none⟩ (.slice ph qs.length kh)).setCell ⟨w23.heap.size, 1, none⟩ (.slice pph qt.length kkh)) := ((Btw.refl w23.heap.size (w23.heap.size + 1) w24).setCell (p := ⟨w23.heap.size, 0, none⟩) (Nat.le_refl _) (Nat.lt_succ_self _) _).setCell (p := ⟨w23.heap.size, 1, none⟩) (Nat.le_refl _) (Nat.lt_succ_self _) _
            generalize (w24.setCell ⟨w23.heap.size, 0, none⟩ (.slice ph qs.length kh)).setCell ⟨w23.heap.size, 1, none⟩ (.slice pph qt.length kkh) = w25 at hkb hm ⊢
            have HZ25 : Hid (w24.heap.size ≤ w25.heap.size) := Lib.hid hm.size
            have HB25 : Hid (Below w.heap.size w w25) := Lib.hid (HB24.out.trans (hm.below.mono (by have := HZ1.out; have := HZ2.out; have := HZ3.out; have := HZ4.out; have := HZ5.out; have := HZ6.out; have := HZ7.out; have := HZ8.out; have := HZ9.out; have := HZ10.out; have := HZ11.out; have := HZ12.out; have := HZ13.out; have := HZ14.out; have := HZ15.out; have := HZ16.out; have := HZ17.out; have := HZ18.out; have := HZ19.out; have := HZ20.out; have := HZ21.out; have := HZ22.out; have := HZ23.out; have := HZ24.out; have := HB0.out.size; omega)))
            have HRf025 := Lib.hid (HRf00.out.below HB25.out (Nat.le_refl _))
            have HRf125 := Lib.hid (HRf10.out.below HB25.out (Nat.le_refl _))
            have HKa025 := Lib.hid ((hm.block _ (by have := lt_of_block HKa024.out; have := HZ1.out; have := HZ2.out; have := HZ3.out; have := HZ4.out; have := HZ5.out; have := HZ6.out; have := HZ7.out; have := HZ8.out; have := HZ9.out; have := HZ10.out; have := HZ11.out; have := HZ12.out; have := HZ13.out; have := HZ14.out; have := HZ15.out; have := HZ16.out; have := HZ17.out; have := HZ18.out; have := HZ19.out; have := HZ20.out; have := HZ21.out; have := HZ22.out; have := HZ23.out; have := HZ24.out; omega)).trans HKa024.out)
            have HKa125 := Lib.hid ((hm.block _ (by have := lt_of_block HKa124.out; have := HZ1.out; have := HZ2.out; have := HZ3.out; have := HZ4.out; have := HZ5.out; have := HZ6.out; have := HZ7.out; have := HZ8.out; have := HZ9.out; have := HZ10.out; have := HZ11.out; have := HZ12.out; have := HZ13.out; have := HZ14.out; have := HZ15.out; have := HZ16.out; have := HZ17.out; have := HZ18.out; have := HZ19.out; have := HZ20.out; have := HZ21.out; have := HZ22.out; have := HZ23.out; have := HZ24.out; omega)).trans HKa124.out)
            have HKw025 := Lib.hid ((hm.block _ (by have := lt_of_block HKw024.out; have := HZ1.out; have := HZ2.out; have := HZ3.out; have := HZ4.out; have := HZ5.out; have := HZ6.out; have := HZ7.out; have := HZ8.out; have := HZ9.out; have := HZ10.out; have := HZ11.out; have := HZ12.out; have := HZ13.out; have := HZ14.out; have := HZ15.out; have := HZ16.out; have := HZ17.out; have := HZ18.out; have := HZ19.out; have := HZ20.out; have := HZ21.out; have := HZ22.out; have := HZ23.out; have := HZ24.out; omega)).trans HKw024.out)
            have HOw25 := Lib.hid (HOw24.out.btw hm (by have := HZ1.out; have := HZ2.out; have := HZ3.out; have := HZ4.out; have := HZ5.out; have := HZ6.out; have := HZ7.out; have := HZ8.out; have := HZ9.out; have := HZ10.out; have := HZ11.out; have := HZ12.out; have := HZ13.out; have := HZ14.out; have := HZ15.out; have := HZ16.out; have := HZ17.out; have := HZ18.out; have := HZ19.out; have := HZ20.out; have := HZ21.out; have := HZ22.out; have := HZ23.out; have := HZ24.out; omega))
            have HOg25 := Lib.hid (HOg24.out.btw hm (by have := HZ1.out; have := HZ2.out; have := HZ3.out; have := HZ4.out; have := HZ5.out; have := HZ6.out; have := HZ7.out; have := HZ8.out; have := HZ9.out; have := HZ10.out; have := HZ11.out; have := HZ12.out; have := HZ13.out; have := HZ14.out; have := HZ15.out; have := HZ16.out; have := HZ17.out; have := HZ18.out; have := HZ19.out; have := HZ20.out; have := HZ21.out; have := HZ22.out; have := HZ23.out; have := HZ24.out; omega))
            have HKg025 := Lib.hid ((hm.block _ (by have := lt_of_block HKg024.out; have := HZ1.out; have := HZ2.out; have := HZ3.out; have := HZ4.out; have := HZ5.out; have := HZ6.out; have := HZ7.out; have := HZ8.out; have := HZ9.out; have := HZ10.out; have := HZ11.out; have := HZ12.out; have := HZ13.out; have := HZ14.out; have := HZ15.out; have := HZ16.out; have := HZ17.out; have := HZ18.out; have := HZ19.out; have := HZ20.out; have := HZ21.out; have := HZ22.out; have := HZ23.out; have := HZ24.out; omega)).trans HKg024.out)
            have HOh25 := Lib.hid (HOh24.out.btw hm (by have := HZ1.out; have := HZ2.out; have := HZ3.out; have := HZ4.out; have := HZ5.out; have := HZ6.out; have := HZ7.out; have := HZ8.out; have := HZ9.out; have := HZ10.out; have := HZ11.out; have := HZ12.out; have := HZ13.out; have := HZ14.out; have := HZ15.out; have := HZ16.out; have := HZ17.out; have := HZ18.out; have := HZ19.out; have := HZ20.out; have := HZ21.out; have := HZ22.out; have := HZ23.out; have := HZ24.out; omega))
            have HBs19_25 : Hid (Below w19.heap.size w19 w25) := Lib.hid (HBs19_24.out.trans (hm.below.mono (by have := HZ1.out; have := HZ2.out; have := HZ3.out; have := HZ4.out; have := HZ5.out; have := HZ6.out; have := HZ7.out; have := HZ8.out; have := HZ9.out; have := HZ10.out; have := HZ11.out; have := HZ12.out; have := HZ13.out; have := HZ14.out; have := HZ15.out; have := HZ16.out; have := HZ17.out; have := HZ18.out; have := HZ19.out; have := HZ20.out; have := HZ21.out; have := HZ22.out; have := HZ23.out; have := HZ24.out; omega)))
            clear hm
            have HKh025 := Lib.hid (hkb)
            clear hkb
            clear ca00 ca01 fa00 fa01 lta0 ca10 ca11 fa10 fa11 lta1 cw00 cw01 fw00 fw01 ltw0 cg00 cg01 fg00 fg01 ltg0 ch00 ch01 fh00 fh01 lth0
            have lta0 := lt_of_block HKa025.out
            obtain ⟨ca00, ca01, fa00, fa01⟩ := cell2 HKa025.out
            have lta1 := lt_of_block HKa125.out
            obtain ⟨ca10, ca11, fa10, fa11⟩ := cell2 HKa125.out
            have ltw0 := lt_of_block HKw025.out
            obtain ⟨cw00, cw01, fw00, fw01⟩ := cell2 HKw025.out
            have ltg0 := lt_of_block HKg025.out
            obtain ⟨cg00, cg01, fg00, fg01⟩ := cell2 HKg025.out
            have lth0 := lt_of_block HKh025.out
            obtain ⟨ch00, ch01, fh00, fh01⟩ := cell2 HKh025.out
            refine hK.out _ _ (⟨ca00, ca01, ca10, ca11⟩) (fun hHeld => ?_)
            clear hK K
            try simp only [Act.put]
            refine take1 (i := 10) (v := ?v24) (some 16) rfl rfl (by kernel_rfl) (by kernel_rfl) (by kernel_rfl) (fun _ _ _ h => h) (Or.inl ⟨by rfl, ?y24⟩) (by assumption) ?r24
            case y24 => (intro w hSw; (try dsimp only at hSw); go_simp; (first | done | with_reducible rfl))
            try simp only [Act.put, List.setIfInBounds_toArray, List.set_cons_zero, List.set_cons_succ]
            refine wpAnyH_done (by kernel_rfl) ?_ _
            go_wp2_with fail
            go_meet
            exact ⟨w23.heap.size, ph, kh, pph, kkh, _, _, rfl, rfl, HKh025.out, HOh25.out, by have := HZ1.out; have := HZ2.out; have := HZ3.out; have := HZ4.out; have := HZ5.out; have := HZ6.out; have := HZ7.out; have := HZ8.out; have := HZ9.out; have := HZ10.out; have := HZ11.out; have := HZ12.out; have := HZ13.out; have := HZ14.out; have := HZ15.out; have := HZ16.out; have := HZ17.out; have := HZ18.out; have := HZ19.out; have := HZ20.out; have := HZ21.out; have := HZ22.out; have := HZ23.out; have := HZ24.out; have := HZ25.out;  omega, by have := HZ1.out; have := HZ2.out; have := HZ3.out; have := HZ4.out; have := HZ5.out; have := HZ6.out; have := HZ7.out; have := HZ8.out; have := HZ9.out; have := HZ10.out; have := HZ11.out; have := HZ12.out; have := HZ13.out; have := HZ14.out; have := HZ15.out; have := HZ16.out; have := HZ17.out; have := HZ18.out; have := HZ19.out; have := HZ20.out; have := HZ21.out; have := HZ22.out; have := HZ23.out; have := HZ24.out; have := HZ25.out;  omega, by have := HZ1.out; have := HZ2.out; have := HZ3.out; have := HZ4.out; have := HZ5.out; have := HZ6.out; have := HZ7.out; have := HZ8.out; have := HZ9.out; have := HZ10.out; have := HZ11.out; have := HZ12.out; have := HZ13.out; have := HZ14.out; have := HZ15.out; have := HZ16.out; have := HZ17.out; have := HZ18.out; have := HZ19.out; have := HZ20.out; have := HZ21.out; have := HZ22.out; have := HZ23.out; have := HZ24.out; have := HZ25.out;  omega, by have := HZ1.out; have := HZ2.out; have := HZ3.out; have := HZ4.out; have := HZ5.out; have := HZ6.out; have := HZ7.out; have := HZ8.out; have := HZ9.out; have := HZ10.out; have := HZ11.out; have := HZ12.out; have := HZ13.out; have := HZ14.out; have := HZ15.out; have := HZ16.out; have := HZ17.out; have := HZ18.out; have := HZ19.out; have := HZ20.out; have := HZ21.out; have := HZ22.out; have := HZ23.out; have := HZ24.out; have := HZ25.out;  omega, by have := HZ1.out; have := HZ2.out; have := HZ3.out; have := HZ4.out; have := HZ5.out; have := HZ6.out; have := HZ7.out; have := HZ8.out; have := HZ9.out; have := HZ10.out; have := HZ11.out; have := HZ12.out; have := HZ13.out; have := HZ14.out; have := HZ15.out; have := HZ16.out; have := HZ17.out; have := HZ18.out; have := HZ19.out; have := HZ20.out; have := HZ21.out; have := HZ22.out; have := HZ23.out; have := HZ24.out; have := HZ25.out;  omega, by have := HZ1.out; have := HZ2.out; have := HZ3.out; have := HZ4.out; have := HZ5.out; have := HZ6.out; have := HZ7.out; have := HZ8.out; have := HZ9.out; have := HZ10.out; have := HZ11.out; have := HZ12.out; have := HZ13.out; have := HZ14.out; have := HZ15.out; have := HZ16.out; have := HZ17.out; have := HZ18.out; have := HZ19.out; have := HZ20.out; have := HZ21.out; have := HZ22.out; have := HZ23.out; have := HZ24.out; have := HZ25.out;  omega, HBs19_25.out⟩
          · go_simp
            have hb : Below w22.heap.size w22 (w22.alloc (.cells #[.slice none 0 0, .slice none 0 0] 27)) := (Below.refl _ _).alloc (Nat.le_refl _) _
            have hk : (w22.alloc (.cells #[.slice none 0 0, .slice none 0 0] 27)).heap[w22.heap.size]? = some (.cells #[.slice none 0 0, .slice none 0 0] 27 (0, 0)) := alloc_at rfl
            have hz : (w22.alloc (.cells #[.slice none 0 0, .slice none 0 0] 27)).heap.size = w22.heap.size + 1 := by simp
            generalize w22.alloc (.cells #[.slice none 0 0, .slice none 0 0] 27) = w23 at hb hk hz ⊢
            have HB23 : Hid (Below w.heap.size w w23) := Lib.hid (HB22.out.trans (hb.mono HB22.out.size))
            have HZ23 : Hid (w22.heap.size ≤ w23.heap.size) := Lib.hid hb.size
            have HRf023 := Lib.hid (HRf00.out.below HB23.out (Nat.le_refl _))
            have HRf123 := Lib.hid (HRf10.out.below HB23.out (Nat.le_refl _))
            have HKa023 := Lib.hid ((hb.block _ (lt_of_block HKa022.out)).trans HKa022.out)
            have HKa123 := Lib.hid ((hb.block _ (lt_of_block HKa122.out)).trans HKa122.out)
            have HKw023 := Lib.hid ((hb.block _ (lt_of_block HKw022.out)).trans HKw022.out)
            have HOw23 := Lib.hid (HOw22.out.next hb)
            have HOg23 := Lib.hid (HOg22.out.next hb)
            have HKg023 := Lib.hid ((hb.block _ (lt_of_block HKg022.out)).trans HKg022.out)
            have HRhc023 := Lib.hid (HRhc022.out.below hb (Nat.le_refl _))
            have HRhc123 := Lib.hid (HRhc122.out.below hb (Nat.le_refl _))
            have HBs19_23 : Hid (Below w19.heap.size w19 w23) := Lib.hid (HBs19_22.out.trans (hb.mono HBs19_22.out.size))
            have HBs21_23 : Hid (Below w21.heap.size w21 w23) := Lib.hid (HBs21_22.out.trans (hb.mono HBs21_22.out.size))
            have HBs22_23 : Hid (Below w22.heap.size w22 w23) := Lib.hid (HBs22_22.out.trans (hb.mono HBs22_22.out.size))
            have HKh023 := Lib.hid hk
            replace HZ23 : Hid (w22.heap.size < w23.heap.size) := Lib.hid (by omega)
            have HE23 := Lib.hid hz
            clear hb hk hz
            clear ca00 ca01 fa00 fa01 lta0 ca10 ca11 fa10 fa11 lta1 cw00 cw01 fw00 fw01 ltw0 cg00 cg01 fg00 fg01 ltg0
            have lta0 := lt_of_block HKa023.out
            obtain ⟨ca00, ca01, fa00, fa01⟩ := cell2 HKa023.out
            have lta1 := lt_of_block HKa123.out
            obtain ⟨ca10, ca11, fa10, fa11⟩ := cell2 HKa123.out
            have ltw0 := lt_of_block HKw023.out
            obtain ⟨cw00, cw01, fw00, fw01⟩ := cell2 HKw023.out
            have ltg0 := lt_of_block HKg023.out
            obtain ⟨cg00, cg01, fg00, fg01⟩ := cell2 HKg023.out
            have lth0 := lt_of_block HKh023.out
            obtain ⟨ch00, ch01, fh00, fh01⟩ := cell2 HKh023.out
            refine hK.out _ _ (⟨ca00, ca01, ca10, ca11⟩) (fun hHeld => ?_)
            clear hK K
            try simp only [Act.put, List.setIfInBounds_toArray, List.set_cons_zero, List.set_cons_succ]
            refine wpAnyH_ready (rs := [4]) (by kernel_rfl) (by simp) ?_
            refine AllReadyH.cons rfl (fun K hK => ?_) AllReadyH.nil
            go_simp
            go_at_call 35
            refine (HI.out hn0 hn1 _ _ _ _ _ HRhc023.out HRhc123.out).mono ?_
            rintro e w24 ⟨⟨sh, th, rfl, ho⟩, hb⟩
            have HB24 : Hid (Below w.heap.size w w24) := Lib.hid (HB23.out.trans (hb.mono HB23.out.size))
            have HZ24 : Hid (w23.heap.size ≤ w24.heap.size) := Lib.hid hb.size
            have HRf024 := Lib.hid (HRf00.out.below HB24.out (Nat.le_refl _))
            have HRf124 := Lib.hid (HRf10.out.below HB24.out (Nat.le_refl _))
            have HKa024 := Lib.hid ((hb.block _ (lt_of_block HKa023.out)).trans HKa023.out)
            have HKa124 := Lib.hid ((hb.block _ (lt_of_block HKa123.out)).trans HKa123.out)
            have HKw024 := Lib.hid ((hb.block _ (lt_of_block HKw023.out)).trans HKw023.out)
            have HOw24 := Lib.hid (HOw23.out.next hb)
            have HOg24 := Lib.hid (HOg23.out.next hb)
            have HKg024 := Lib.hid ((hb.block _ (lt_of_block HKg023.out)).trans HKg023.out)
            have HRhc024 := Lib.hid (HRhc023.out.below hb (Nat.le_refl _))
            have HRhc124 := Lib.hid (HRhc123.out.below hb (Nat.le_refl _))
            have HKh024 := Lib.hid ((hb.block _ (lt_of_block HKh023.out)).trans HKh023.out)
            have HBs19_24 : Hid (Below w19.heap.size w19 w24) := Lib.hid (HBs19_23.out.trans (hb.mono HBs19_23.out.size))
            have HBs21_24 : Hid (Below w21.heap.size w21 w24) := Lib.hid (HBs21_23.out.trans (hb.mono HBs21_23.out.size))
            have HBs22_24 : Hid (Below w22.heap.size w22 w24) := Lib.hid (HBs22_23.out.trans (hb.mono HBs22_23.out.size))
            clear hb
            obtain ⟨ph, kh, pph, kkh, rfl, rfl⟩ := ho.form
            have HOh24 := Lib.hid (ho)
            clear ho
            clear ca00 ca01 fa00 fa01 lta0 ca10 ca11 fa10 fa11 lta1 cw00 cw01 fw00 fw01 ltw0 cg00 cg01 fg00 fg01 ltg0 ch00 ch01 fh00 fh01 lth0
            have lta0 := lt_of_block HKa024.out
            obtain ⟨ca00, ca01, fa00, fa01⟩ := cell2 HKa024.out
            have lta1 := lt_of_block HKa124.out
            obtain ⟨ca10, ca11, fa10, fa11⟩ := cell2 HKa124.out
            have ltw0 := lt_of_block HKw024.out
            obtain ⟨cw00, cw01, fw00, fw01⟩ := cell2 HKw024.out
            have ltg0 := lt_of_block HKg024.out
            obtain ⟨cg00, cg01, fg00, fg01⟩ := cell2 HKg024.out
            have lth0 := lt_of_block HKh024.out
            obtain ⟨ch00, ch01, fh00, fh01⟩ := cell2 HKh024.out
            try go_simp
            refine hK.out _ _ (⟨ca00, ca01, ca10, ca11⟩) (fun hHeld => ?_)
            clear hK K
            try simp only [Act.put, List.setIfInBounds_toArray, List.set_cons_zero, List.set_cons_succ]
            refine take1 (i := 5) (v := ?v25) (some 94) rfl rfl (by kernel_rfl) (by kernel_rfl) (by kernel_rfl) (fun _ _ _ h => h) (Or.inl ⟨by rfl, ?y25⟩) (by assumption) ?r25
            case y25 => (intro w hSw; (try dsimp only at hSw); go_simp; (first | done | with_reducible rfl))
            try simp only [Act.put, List.setIfInBounds_toArray, List.set_cons_zero, List.set_cons_succ]
            refine take1 (i := 6) (v := ?v26) (some 100) rfl rfl (by kernel_rfl) (by kernel_rfl) (by kernel_rfl) (fun _ _ _ h => h) (Or.inl ⟨by rfl, ?y26⟩) (by assumption) ?r26
            case y26 => (intro w hSw; (try dsimp only at hSw); go_simp; (first | done | with_reducible rfl))
            try simp only [Act.put, List.setIfInBounds_toArray, List.set_cons_zero, List.set_cons_succ]
            refine take1 (i := 7) (v := ?v27) (some 101) rfl rfl (by kernel_rfl) (by kernel_rfl) (by kernel_rfl) (fun _ _ _ h => h) (Or.inl ⟨by rfl, ?y27⟩) (by assumption) ?r27
            case y27 => (intro w hSw; (try dsimp only at hSw); go_simp; (first | done | with_reducible rfl))
            try simp only [Act.put, List.setIfInBounds_toArray, List.set_cons_zero, List.set_cons_succ]
            refine wpAnyH_ready (rs := [9]) (by kernel_rfl) (by simp) ?_
            refine AllReadyH.cons rfl (fun K hK => ?_) AllReadyH.nil
            go_simp
            have hkb := box2_set HKh024.out (.slice ph qs.length kh) (.slice pph qt.length kkh)
            have hm : Btw w22.heap.size (w22.heap.size + 1) w24 ((w24.setCell ⟨w22.heap.size, 0, none⟩ (.slice ph qs.length kh)).setCell ⟨w22.heap.size, 1, none⟩ (.slice pph qt.length kkh)) := ((Btw.refl w22.heap.size (w22.heap.size + 1) w24).setCell (p := ⟨w22.heap.size, 0, none⟩) (Nat.le_refl _) (Nat.lt_succ_self _) _).setCell (p := ⟨w22.heap.size, 1, none⟩) (Nat.le_refl _) (Nat.lt_succ_self _) _
            generalize (w24.setCell ⟨w22.heap.size, 0, none⟩ (.slice ph qs.length kh)).setCell ⟨w22.heap.size, 1, none⟩ (.slice pph qt.length kkh) = w25 at hkb hm ⊢
            have HZ25 : Hid (w24.heap.size ≤ w25.heap.size) := Lib.hid hm.size
            have HB25 : Hid (Below w.heap.size w w25) := Lib.hid (HB24.out.trans (hm.below.mono (by have := HZ1.out; have := HZ2.out; have := HZ3.out; have := HZ4.out; have := HZ5.out; have := HZ6.out; have := HZ7.out; have := HZ8.out; have := HZ9.out; have := HZ10.out; have := HZ11.out; have := HZ12.out; have := HZ13.out; have := HZ14.out; have := HZ15.out; have := HZ16.out; have := HZ17.out; have := HZ18.out; have := HZ19.out; have := HZ20.out; have := HZ21.out; have := HZ22.out; have := HZ23.out; have := HZ24.out; have := HB0.out.size; omega)))
            have HRf025 := Lib.hid (HRf00.out.below HB25.out (Nat.le_refl _))
            have HRf125 := Lib.hid (HRf10.out.below HB25.out (Nat.le_refl _))
            have HKa025 := Lib.hid ((hm.block _ (by have := lt_of_block HKa024.out; have := HZ1.out; have := HZ2.out; have := HZ3.out; have := HZ4.out; have := HZ5.out; have := HZ6.out; have := HZ7.out; have := HZ8.out; have := HZ9.out; have := HZ10.out; have := HZ11.out; have := HZ12.out; have := HZ13.out; have := HZ14.out; have := HZ15.out; have := HZ16.out; have := HZ17.out; have := HZ18.out; have := HZ19.out; have := HZ20.out; have := HZ21.out; have := HZ22.out; have := HZ23.out; have := HZ24.out; omega)).trans HKa024.out)
            have HKa125 := Lib.hid ((hm.block _ (by have := lt_of_block HKa124.out; have := HZ1.out; have := HZ2.out; have := HZ3.out; have := HZ4.out; have := HZ5.out; have := HZ6.out; have := HZ7.out; have := HZ8.out; have := HZ9.out; have := HZ10.out; have := HZ11.out; have := HZ12.out; have := HZ13.out; have := HZ14.out; have := HZ15.out; have := HZ16.out; have := HZ17.out; have := HZ18.out; have := HZ19.out; have := HZ20.out; have := HZ21.out; have := HZ22.out; have := HZ23.out; have := HZ24.out; omega)).trans HKa124.out)
            have HKw025 := Lib.hid ((hm.block _ (by have := lt_of_block HKw024.out; have := HZ1.out; have := HZ2.out; have := HZ3.out; have := HZ4.out; have := HZ5.out; have := HZ6.out; have := HZ7.out; have := HZ8.out; have := HZ9.out; have := HZ10.out; have := HZ11.out; have := HZ12.out; have := HZ13.out; have := HZ14.out; have := HZ15.out; have := HZ16.out; have := HZ17.out; have := HZ18.out; have := HZ19.out; have := HZ20.out; have := HZ21.out; have := HZ22.out; have := HZ23.out; have := HZ24.out; omega)).trans HKw024.out)
            have HOw25 := Lib.hid (HOw24.out.btw hm (by have := HZ1.out; have := HZ2.out; have := HZ3.out; have := HZ4.out; have := HZ5.out; have := HZ6.out; have := HZ7.out; have := HZ8.out; have := HZ9.out; have := HZ10.out; have := HZ11.out; have := HZ12.out; have := HZ13.out; have := HZ14.out; have := HZ15.out; have := HZ16.out; have := HZ17.out; have := HZ18.out; have := HZ19.out; have := HZ20.out; have := HZ21.out; have := HZ22.out; have := HZ23.out; have := HZ24.out; omega))
            have HOg25 := Lib.hid (HOg24.out.btw hm (by have := HZ1.out; have := HZ2.out; have := HZ3.out; have := HZ4.out; have := HZ5.out; have := HZ6.out; have := HZ7.out; have := HZ8.out; have := HZ9.out; have := HZ10.out; have := HZ11.out; have := HZ12.out; have := HZ13.out; have := HZ14.out; have := HZ15.out; have := HZ16.out; have := HZ17.out; have := HZ18.out; have := HZ19.out; have := HZ20.out; have := HZ21.out; have := HZ22.out; have := HZ23.out; have := HZ24.out; omega))
            have HKg025 := Lib.hid ((hm.block _ (by have := lt_of_block HKg024.out; have := HZ1.out; have := HZ2.out; have := HZ3.out; have := HZ4.out; have := HZ5.out; have := HZ6.out; have := HZ7.out; have := HZ8.out; have := HZ9.out; have := HZ10.out; have := HZ11.out; have := HZ12.out; have := HZ13.out; have := HZ14.out; have := HZ15.out; have := HZ16.out; have := HZ17.out; have := HZ18.out; have := HZ19.out; have := HZ20.out; have := HZ21.out; have := HZ22.out; have := HZ23.out; have := HZ24.out; omega)).trans HKg024.out)
            have HOh25 := Lib.hid (HOh24.out.btw hm (by have := HZ1.out; have := HZ2.out; have := HZ3.out; have := HZ4.out; have := HZ5.out; have := HZ6.out; have := HZ7.out; have := HZ8.out; have := HZ9.out; have := HZ10.out; have := HZ11.out; have := HZ12.out; have := HZ13.out; have := HZ14.out; have := HZ15.out; have := HZ16.out; have := HZ17.out; have := HZ18.out; have := HZ19.out; have := HZ20.out; have := HZ21.out; have := HZ22.out; have := HZ23.out; have := HZ24.out; omega))
            have HBs19_25 : Hid (Below w19.heap.size w19 w25) := Lib.hid (HBs19_24.out.trans (hm.below.mono (by have := HZ1.out; have := HZ2.out; have := HZ3.out; have := HZ4.out; have := HZ5.out; have := HZ6.out; have := HZ7.out; have := HZ8.out; have := HZ9.out; have := HZ10.out; have := HZ11.out; have := HZ12.out; have := HZ13.out; have := HZ14.out; have := HZ15.out; have := HZ16.out; have := HZ17.out; have := HZ18.out; have := HZ19.out; have := HZ20.out; have := HZ21.out; have := HZ22.out; have := HZ23.out; have := HZ24.out; omega)))
            clear hm
            have HKh025 := Lib.hid (hkb)
            clear hkb
            clear ca00 ca01 fa00 fa01 lta0 ca10 ca11 fa10 fa11 lta1 cw00 cw01 fw00 fw01 ltw0 cg00 cg01 fg00 fg01 ltg0 ch00 ch01 fh00 fh01 lth0
            have lta0 := lt_of_block HKa025.out
            obtain ⟨ca00, ca01, fa00, fa01⟩ := cell2 HKa025.out
            have lta1 := lt_of_block HKa125.out
            obtain ⟨ca10, ca11, fa10, fa11⟩ := cell2 HKa125.out
            have ltw0 := lt_of_block HKw025.out
            obtain ⟨cw00, cw01, fw00, fw01⟩ := cell2 HKw025.out
            have ltg0 := lt_of_block HKg025.out
            obtain ⟨cg00, cg01, fg00, fg01⟩ := cell2 HKg025.out
            have lth0 := lt_of_block HKh025.out
            obtain ⟨ch00, ch01, fh00, fh01⟩ := cell2 HKh025.out
            refine hK.out _ _ (⟨ca00, ca01, ca10, ca11⟩) (fun hHeld => ?_)
            clear hK K
            try simp only [Act.put]
            refine take1 (i := 10) (v := ?v28) (some 16) rfl rfl (by kernel_rfl) (by kernel_rfl) (by kernel_rfl) (fun _ _ _ h => h) (Or.inl ⟨by rfl, ?y28⟩) (by assumption) ?r28
            case y28 => (intro w hSw; (try dsimp only at hSw); go_simp; (first | done | with_reducible rfl))
            try simp only [Act.put, List.setIfInBounds_toArray, List.set_cons_zero, List.set_cons_succ]
            refine wpAnyH_done (by kernel_rfl) ?_ _
            go_wp2_with fail
            go_meet
            exact ⟨w22.heap.size, ph, kh, pph, kkh, _, _, rfl, rfl, HKh025.out, HOh25.out, by have := HZ1.out; have := HZ2.out; have := HZ3.out; have := HZ4.out; have := HZ5.out; have := HZ6.out; have := HZ7.out; have := HZ8.out; have := HZ9.out; have := HZ10.out; have := HZ11.out; have := HZ12.out; have := HZ13.out; have := HZ14.out; have := HZ15.out; have := HZ16.out; have := HZ17.out; have := HZ18.out; have := HZ19.out; have := HZ20.out; have := HZ21.out; have := HZ22.out; have := HZ23.out; have := HZ24.out; have := HZ25.out;  omega, by have := HZ1.out; have := HZ2.out; have := HZ3.out; have := HZ4.out; have := HZ5.out; have := HZ6.out; have := HZ7.out; have := HZ8.out; have := HZ9.out; have := HZ10.out; have := HZ11.out; have := HZ12.out; have := HZ13.out; have := HZ14.out; have := HZ15.out; have := HZ16.out; have := HZ17.out; have := HZ18.out; have := HZ19.out; have := HZ20.out; have := HZ21.out; have := HZ22.out; have := HZ23.out; have := HZ24.out; have := HZ25.out;  omega, by have := HZ1.out; have := HZ2.out; have := HZ3.out; have := HZ4.out; have := HZ5.out; have := HZ6.out; have := HZ7.out; have := HZ8.out; have := HZ9.out; have := HZ10.out; have := HZ11.out; have := HZ12.out; have := HZ13.out; have := HZ14.out; have := HZ15.out; have := HZ16.out; have := HZ17.out; have := HZ18.out; have := HZ19.out; have := HZ20.out; have := HZ21.out; have := HZ22.out; have := HZ23.out; have := HZ24.out; have := HZ25.out;  omega, by have := HZ1.out; have := HZ2.out; have := HZ3.out; have := HZ4.out; have := HZ5.out; have := HZ6.out; have := HZ7.out; have := HZ8.out; have := HZ9.out; have := HZ10.out; have := HZ11.out; have := HZ12.out; have := HZ13.out; have := HZ14.out; have := HZ15.out; have := HZ16.out; have := HZ17.out; have := HZ18.out; have := HZ19.out; have := HZ20.out; have := HZ21.out; have := HZ22.out; have := HZ23.out; have := HZ24.out; have := HZ25.out;  omega, by have := HZ1.out; have := HZ2.out; have := HZ3.out; have := HZ4.out; have := HZ5.out; have := HZ6.out; have := HZ7.out; have := HZ8.out; have := HZ9.out; have := HZ10.out; have := HZ11.out; have := HZ12.out; have := HZ13.out; have := HZ14.out; have := HZ15.out; have := HZ16.out; have := HZ17.out; have := HZ18.out; have := HZ19.out; have := HZ20.out; have := HZ21.out; have := HZ22.out; have := HZ23.out; have := HZ24.out; have := HZ25.out;  omega, by have := HZ1.out; have := HZ2.out; have := HZ3.out; have := HZ4.out; have := HZ5.out; have := HZ6.out; have := HZ7.out; have := HZ8.out; have := HZ9.out; have := HZ10.out; have := HZ11.out; have := HZ12.out; have := HZ13.out; have := HZ14.out; have := HZ15.out; have := HZ16.out; have := HZ17.out; have := HZ18.out; have := HZ19.out; have := HZ20.out; have := HZ21.out; have := HZ22.out; have := HZ23.out; have := HZ24.out; have := HZ25.out;  omega, HBs19_25.out⟩
        · go_simp
          have hb : Below w21.heap.size w21 (w21.alloc (.cells #[.slice none 0 0, .slice none 0 0] 27)) := (Below.refl _ _).alloc (Nat.le_refl _) _
          have hk : (w21.alloc (.cells #[.slice none 0 0, .slice none 0 0] 27)).heap[w21.heap.size]? = some (.cells #[.slice none 0 0, .slice none 0 0] 27 (0, 0)) := alloc_at rfl
          have hz : (w21.alloc (.cells #[.slice none 0 0, .slice none 0 0] 27)).heap.size = w21.heap.size + 1 := by simp
          generalize w21.alloc (.cells #[.slice none 0 0, .slice none 0 0] 27) = w22 at hb hk hz ⊢
          have HB22 : Hid (Below w.heap.size w w22) := Lib.hid (HB21.out.trans (hb.mono HB21.out.size))
          have HZ22 : Hid (w21.heap.size ≤ w22.heap.size) := Lib.hid hb.size
          have HRf022 := Lib.hid (HRf00.out.below HB22.out (Nat.le_refl _))
          have HRf122 := Lib.hid (HRf10.out.below HB22.out (Nat.le_refl _))
          have HKa022 := Lib.hid ((hb.block _ (lt_of_block HKa021.out)).trans HKa021.out)
          have HKa122 := Lib.hid ((hb.block _ (lt_of_block HKa121.out)).trans HKa121.out)
          have HKw022 := Lib.hid ((hb.block _ (lt_of_block HKw021.out)).trans HKw021.out)
          have HOw22 := Lib.hid (HOw21.out.next hb)
          have HOg22 := Lib.hid (HOg21.out.next hb)
          have HKg022 := Lib.hid ((hb.block _ (lt_of_block HKg021.out)).trans HKg021.out)
          have HRhc022 := Lib.hid (HRhc021.out.below hb (Nat.le_refl _))
          have HBs19_22 : Hid (Below w19.heap.size w19 w22) := Lib.hid (HBs19_21.out.trans (hb.mono HBs19_21.out.size))
          have HBs21_22 : Hid (Below w21.heap.size w21 w22) := Lib.hid (HBs21_21.out.trans (hb.mono HBs21_21.out.size))
          have HKh022 := Lib.hid hk
          replace HZ22 : Hid (w21.heap.size < w22.heap.size) := Lib.hid (by omega)
          have HE22 := Lib.hid hz
          clear hb hk hz
          clear ca00 ca01 fa00 fa01 lta0 ca10 ca11 fa10 fa11 lta1 cw00 cw01 fw00 fw01 ltw0 cg00 cg01 fg00 fg01 ltg0
          have lta0 := lt_of_block HKa022.out
          obtain ⟨ca00, ca01, fa00, fa01⟩ := cell2 HKa022.out
          have lta1 := lt_of_block HKa122.out
          obtain ⟨ca10, ca11, fa10, fa11⟩ := cell2 HKa122.out
          have ltw0 := lt_of_block HKw022.out
          obtain ⟨cw00, cw01, fw00, fw01⟩ := cell2 HKw022.out
          have ltg0 := lt_of_block HKg022.out
          obtain ⟨cg00, cg01, fg00, fg01⟩ := cell2 HKg022.out
          have lth0 := lt_of_block HKh022.out
          obtain ⟨ch00, ch01, fh00, fh01⟩ := cell2 HKh022.out
          refine hK.out _ _ (⟨ca00, ca01, ca10, ca11⟩) (fun hHeld => ?_)
          clear hK K
          try simp only [Act.put, List.setIfInBounds_toArray, List.set_cons_zero, List.set_cons_succ]
          refine wpAnyH_ready (rs := [3]) (by kernel_rfl) (by simp) ?_
          refine AllReadyH.cons rfl (fun K hK => ?_) AllReadyH.nil
          go_simp
          go_at_call 15
          refine (toBoard_any _ _ ls1 ss1 _ HRf122.out hn1.1 hn1.2).mono ?_
          rintro e w23 ⟨⟨shc1, thc1, rfl, ho⟩, hb⟩
          have HB23 : Hid (Below w.heap.size w w23) := Lib.hid (HB22.out.trans (hb.mono HB22.out.size))
          have HZ23 : Hid (w22.heap.size ≤ w23.heap.size) := Lib.hid hb.size
          have HRf023 := Lib.hid (HRf00.out.below HB23.out (Nat.le_refl _))
          have HRf123 := Lib.hid (HRf10.out.below HB23.out (Nat.le_refl _))
          have HKa023 := Lib.hid ((hb.block _ (lt_of_block HKa022.out)).trans HKa022.out)
          have HKa123 := Lib.hid ((hb.block _ (lt_of_block HKa122.out)).trans HKa122.out)
          have HKw023 := Lib.hid ((hb.block _ (lt_of_block HKw022.out)).trans HKw022.out)
          have HOw23 := Lib.hid (HOw22.out.next hb)
          have HOg23 := Lib.hid (HOg22.out.next hb)
          have HKg023 := Lib.hid ((hb.block _ (lt_of_block HKg022.out)).trans HKg022.out)
          have HRhc023 := Lib.hid (HRhc022.out.below hb (Nat.le_refl _))
          have HKh023 := Lib.hid ((hb.block _ (lt_of_block HKh022.out)).trans HKh022.out)
          have HBs19_23 : Hid (Below w19.heap.size w19 w23) := Lib.hid (HBs19_22.out.trans (hb.mono HBs19_22.out.size))
          have HBs21_23 : Hid (Below w21.heap.size w21 w23) := Lib.hid (HBs21_22.out.trans (hb.mono HBs21_22.out.size))
          clear hb
          obtain ⟨phc1, khc1, pphc1, kkhc1, rfl, rfl⟩ := ho.form
          have HRhc123 := Lib.hid (ho.reads)
          have HBs23_23 : Hid (Below w23.heap.size w23 w23) := Lib.hid (Below.refl _ _)
          clear ho
          clear ca00 ca01 fa00 fa01 lta0 ca10 ca11 fa10 fa11 lta1 cw00 cw01 fw00 fw01 ltw0 cg00 cg01 fg00 fg01 ltg0 ch00 ch01 fh00 fh01 lth0
          have lta0 := lt_of_block HKa023.out
          obtain ⟨ca00, ca01, fa00, fa01⟩ := cell2 HKa023.out
          have lta1 := lt_of_block HKa123.out
          obtain ⟨ca10, ca11, fa10, fa11⟩ := cell2 HKa123.out
          have ltw0 := lt_of_block HKw023.out
          obtain ⟨cw00, cw01, fw00, fw01⟩ := cell2 HKw023.out
          have ltg0 := lt_of_block HKg023.out
          obtain ⟨cg00, cg01, fg00, fg01⟩ := cell2 HKg023.out
          have lth0 := lt_of_block HKh023.out
          obtain ⟨ch00, ch01, fh00, fh01⟩ := cell2 HKh023.out
          try go_simp
          refine hK.out _ _ (⟨ca00, ca01, ca10, ca11⟩) (fun hHeld => ?_)
          clear hK K
          try simp only [Act.put, List.setIfInBounds_toArray, List.set_cons_zero, List.set_cons_succ]
          refine wpAnyH_ready (rs := [4]) (by kernel_rfl) (by simp) ?_
          refine AllReadyH.cons rfl (fun K hK => ?_) AllReadyH.nil
          go_simp
          go_at_call 35
          refine (HI.out hn0 hn1 _ _ _ _ _ HRhc023.out HRhc123.out).mono ?_
          rintro e w24 ⟨⟨sh, th, rfl, ho⟩, hb⟩
          have HB24 : Hid (Below w.heap.size w w24) := Lib.hid (HB23.out.trans (hb.mono HB23.out.size))
          have HZ24 : Hid (w23.heap.size ≤ w24.heap.size) := Lib.hid hb.size
          have HRf024 := Lib.hid (HRf00.out.below HB24.out (Nat.le_refl _))
          have HRf124 := Lib.hid (HRf10.out.below HB24.out (Nat.le_refl _))
          have HKa024 := Lib.hid ((hb.block _ (lt_of_block HKa023.out)).trans HKa023.out)
          have HKa124 := Lib.hid ((hb.block _ (lt_of_block HKa123.out)).trans HKa123.out)
          have HKw024 := Lib.hid ((hb.block _ (lt_of_block HKw023.out)).trans HKw023.out)
          have HOw24 := Lib.hid (HOw23.out.next hb)
          have HOg24 := Lib.hid (HOg23.out.next hb)
          have HKg024 := Lib.hid ((hb.block _ (lt_of_block HKg023.out)).trans HKg023.out)
          have HRhc024 := Lib.hid (HRhc023.out.below hb (Nat.le_refl _))
          have HKh024 := Lib.hid ((hb.block _ (lt_of_block HKh023.out)).trans HKh023.out)
          have HRhc124 := Lib.hid (HRhc123.out.below hb (Nat.le_refl _))
          have HBs19_24 : Hid (Below w19.heap.size w19 w24) := Lib.hid (HBs19_23.out.trans (hb.mono HBs19_23.out.size))
          have HBs21_24 : Hid (Below w21.heap.size w21 w24) := Lib.hid (HBs21_23.out.trans (hb.mono HBs21_23.out.size))
          have HBs23_24 : Hid (Below w23.heap.size w23 w24) := Lib.hid (HBs23_23.out.trans (hb.mono HBs23_23.out.size))
          clear hb
          obtain ⟨ph, kh, pph, kkh, rfl, rfl⟩ := ho.form
          have HOh24 := Lib.hid (ho)
          clear ho
          clear ca00 ca01 fa00 fa01 lta0 ca10 ca11 fa10 fa11 lta1 cw00 cw01 fw00 fw01 ltw0 cg00 cg01 fg00 fg01 ltg0 ch00 ch01 fh00 fh01 lth0
          have lta0 := lt_of_block HKa024.out
          obtain ⟨ca00, ca01, fa00, fa01⟩ := cell2 HKa024.out
          have lta1 := lt_of_block HKa124.out
          obtain ⟨ca10, ca11, fa10, fa11⟩ := cell2 HKa124.out
          have ltw0 := lt_of_block HKw024.out
          obtain ⟨cw00, cw01, fw00, fw01⟩ := cell2 HKw024.out
          have ltg0 := lt_of_block HKg024.out
          obtain ⟨cg00, cg01, fg00, fg01⟩ := cell2 HKg024.out
          have lth0 := lt_of_block HKh024.out
          obtain ⟨ch00, ch01, fh00, fh01⟩ := cell2 HKh024.out
          try go_simp
          refine hK.out _ _ (⟨ca00, ca01, ca10, ca11⟩) (fun hHeld => ?_)
          clear hK K
          try simp only [Act.put, List.setIfInBounds_toArray, List.set_cons_zero, List.set_cons_succ]
          refine take1 (i := 5) (v := ?v29) (some 94) rfl rfl (by kernel_rfl) (by kernel_rfl) (by kernel_rfl) (fun _ _ _ h => h) (Or.inl ⟨by rfl, ?y29⟩) (by assumption) ?r29
          case y29 => (intro w hSw; (try dsimp only at hSw); go_simp; (first | done | with_reducible rfl))
          try simp only [Act.put, List.setIfInBounds_toArray, List.set_cons_zero, List.set_cons_succ]
          refine take1 (i := 6) (v := ?v30) (some 100) rfl rfl (by kernel_rfl) (by kernel_rfl) (by kernel_rfl) (fun _ _ _ h => h) (Or.inl ⟨by rfl, ?y30⟩) (by assumption) ?r30
          case y30 => (intro w hSw; (try dsimp only at hSw); go_simp; (first | done | with_reducible rfl))
          try simp only [Act.put, List.setIfInBounds_toArray, List.set_cons_zero, List.set_cons_succ]
          refine take1 (i := 7) (v := ?v31) (some 101) rfl rfl (by kernel_rfl) (by kernel_rfl) (by kernel_rfl) (fun _ _ _ h => h) (Or.inl ⟨by rfl, ?y31⟩) (by assumption) ?r31
          case y31 => (intro w hSw; (try dsimp only at hSw); go_simp; (first | done | with_reducible rfl))
          try simp only [Act.put, List.setIfInBounds_toArray, List.set_cons_zero, List.set_cons_succ]
          refine wpAnyH_ready (rs := [9]) (by kernel_rfl) (by simp) ?_
          refine AllReadyH.cons rfl (fun K hK => ?_) AllReadyH.nil
          go_simp
          have hkb := box2_set HKh024.out (.slice ph qs.length kh) (.slice pph qt.length kkh)
          have hm : Btw w21.heap.size (w21.heap.size + 1) w24 ((w24.setCell ⟨w21.heap.size, 0, none⟩ (.slice ph qs.length kh)).setCell ⟨w21.heap.size, 1, none⟩ (.slice pph qt.length kkh)) := ((Btw.refl w21.heap.size (w21.heap.size + 1) w24).setCell (p := ⟨w21.heap.size, 0, none⟩) (Nat.le_refl _) (Nat.lt_succ_self _) _).setCell (p := ⟨w21.heap.size, 1, none⟩) (Nat.le_refl _) (Nat.lt_succ_self _) _
          generalize (w24.setCell ⟨w21.heap.size, 0, none⟩ (.slice ph qs.length kh)).setCell ⟨w21.heap.size, 1, none⟩ (.slice pph qt.length kkh) = w25 at hkb hm ⊢
          have HZ25 : Hid (w24.heap.size ≤ w25.heap.size) := Lib.hid hm.size
          have HB25 : Hid (Below w.heap.size w w25) := Lib.hid (HB24.out.trans (hm.below.mono (by have := HZ1.out; have := HZ2.out; have := HZ3.out; have := HZ4.out; have := HZ5.out; have := HZ6.out; have := HZ7.out; have := HZ8.out; have := HZ9.out; have := HZ10.out; have := HZ11.out; have := HZ12.out; have := HZ13.out; have := HZ14.out; have := HZ15.out; have := HZ16.out; have := HZ17.out; have := HZ18.out; have := HZ19.out; have := HZ20.out; have := HZ21.out; have := HZ22.out; have := HZ23.out; have := HZ24.out; have := HB0.out.size; omega)))
          have HRf025 := Lib.hid (HRf00.out.below HB25.out (Nat.le_refl _))
          have HRf125 := Lib.hid (HRf10.out.below HB25.out (Nat.le_refl _))
          have HKa025 := Lib.hid ((hm.block _ (by have := lt_of_block HKa024.out; have := HZ1.out; have := HZ2.out; have := HZ3.out; have := HZ4.out; have := HZ5.out; have := HZ6.out; have := HZ7.out; have := HZ8.out; have := HZ9.out; have := HZ10.out; have := HZ11.out; have := HZ12.out; have := HZ13.out; have := HZ14.out; have := HZ15.out; have := HZ16.out; have := HZ17.out; have := HZ18.out; have := HZ19.out; have := HZ20.out; have := HZ21.out; have := HZ22.out; have := HZ23.out; have := HZ24.out; omega)).trans HKa024.out)
          have HKa125 := Lib.hid ((hm.block _ (by have := lt_of_block HKa124.out; have := HZ1.out; have := HZ2.out; have := HZ3.out; have := HZ4.out; have := HZ5.out; have := HZ6.out; have := HZ7.out; have := HZ8.out; have := HZ9.out; have := HZ10.out; have := HZ11.out; have := HZ12.out; have := HZ13.out; have := HZ14.out; have := HZ15.out; have := HZ16.out; have := HZ17.out; have := HZ18.out; have := HZ19.out; have := HZ20.out; have := HZ21.out; have := HZ22.out; have := HZ23.out; have := HZ24.out; omega)).trans HKa124.out)
          have HKw025 := Lib.hid ((hm.block _ (by have := lt_of_block HKw024.out; have := HZ1.out; have := HZ2.out; have := HZ3.out; have := HZ4.out; have := HZ5.out; have := HZ6.out; have := HZ7.out; have := HZ8.out; have := HZ9.out; have := HZ10.out; have := HZ11.out; have := HZ12.out; have := HZ13.out; have := HZ14.out; have := HZ15.out; have := HZ16.out; have := HZ17.out; have := HZ18.out; have := HZ19.out; have := HZ20.out; have := HZ21.out; have := HZ22.out; have := HZ23.out; have := HZ24.out; omega)).trans HKw024.out)
          have HOw25 := Lib.hid (HOw24.out.btw hm (by have := HZ1.out; have := HZ2.out; have := HZ3.out; have := HZ4.out; have := HZ5.out; have := HZ6.out; have := HZ7.out; have := HZ8.out; have := HZ9.out; have := HZ10.out; have := HZ11.out; have := HZ12.out; have := HZ13.out; have := HZ14.out; have := HZ15.out; have := HZ16.out; have := HZ17.out; have := HZ18.out; have := HZ19.out; have := HZ20.out; have := HZ21.out; have := HZ22.out; have := HZ23.out; have := HZ24.out; omega))
          have HOg25 := Lib.hid (HOg24.out.btw hm (by have := HZ1.out; have := HZ2.out; have := HZ3.out; have := HZ4.out; have := HZ5.out; have := HZ6.out; have := HZ7.out; have := HZ8.out; have := HZ9.out; have := HZ10.out; have := HZ11.out; have := HZ12.out; have := HZ13.out; have := HZ14.out; have := HZ15.out; have := HZ16.out; have := HZ17.out; have := HZ18.out; have := HZ19.out; have := HZ20.out; have := HZ21.out; have := HZ22.out; have := HZ23.out; have := HZ24.out; omega))
          have HKg025 := Lib.hid ((hm.block _ (by have := lt_of_block HKg024.out; have := HZ1.out; have := HZ2.out; have := HZ3.out; have := HZ4.out; have := HZ5.out; have := HZ6.out; have := HZ7.out; have := HZ8.out; have := HZ9.out; have := HZ10.out; have := HZ11.out; have := HZ12.out; have := HZ13.out; have := HZ14.out; have := HZ15.out; have := HZ16.out; have := HZ17.out; have := HZ18.out; have := HZ19.out; have := HZ20.out; have := HZ21.out; have := HZ22.out; have := HZ23.out; have := HZ24.out; omega)).trans HKg024.out)
          have HOh25 := Lib.hid (HOh24.out.btw hm (by have := HZ1.out; have := HZ2.out; have := HZ3.out; have := HZ4.out; have := HZ5.out; have := HZ6.out; have := HZ7.out; have := HZ8.out; have := HZ9.out; have := HZ10.out; have := HZ11.out; have := HZ12.out; have := HZ13.out; have := HZ14.out; have := HZ15.out; have := HZ16.out; have := HZ17.out; have := HZ18.out; have := HZ19.out; have := HZ20.out; have := HZ21.out; have := HZ22.out; have := HZ23.out; have := HZ24.out; omega))
          have HBs19_25 : Hid (Below w19.heap.size w19 w25) := Lib.hid (HBs19_24.out.trans (hm.below.mono (by have := HZ1.out; have := HZ2.out; have := HZ3.out; have := HZ4.out; have := HZ5.out; have := HZ6.out; have := HZ7.out; have := HZ8.out; have := HZ9.out; have := HZ10.out; have := HZ11.out; have := HZ12.out; have := HZ13.out; have := HZ14.out; have := HZ15.out; have := HZ16.out; have := HZ17.out; have := HZ18.out; have := HZ19.out; have := HZ20.out; have := HZ21.out; have := HZ22.out; have := HZ23.out; have := HZ24.out; omega)))
          clear hm
          have HKh025 := Lib.hid (hkb)
          clear hkb
          clear ca00 ca01 fa00 fa01 lta0 ca10 ca11 fa10 fa11 lta1 cw00 cw01 fw00 fw01 ltw0 cg00 cg01 fg00 fg01 ltg0 ch00 ch01 fh00 fh01 lth0
          have lta0 := lt_of_block HKa025.out
          obtain ⟨ca00, ca01, fa00, fa01⟩ := cell2 HKa025.out
          have lta1 := lt_of_block HKa125.out
          obtain ⟨ca10, ca11, fa10, fa11⟩ := cell2 HKa125.out
          have ltw0 := lt_of_block HKw025.out
          obtain ⟨cw00, cw01, fw00, fw01⟩ := cell2 HKw025.out
          have ltg0 := lt_of_block HKg025.out
          obtain ⟨cg00, cg01, fg00, fg01⟩ := cell2 HKg025.out
          have lth0 := lt_of_block HKh025.out
          obtain ⟨ch00, ch01, fh00, fh01⟩ := cell2 HKh025.out
          refine hK.out _ _ (⟨ca00, ca01, ca10, ca11⟩) (fun hHeld => ?_)
          clear hK K
          try simp only [Act.put]
          refine take1 (i := 10) (v := ?v32) (some 16) rfl rfl (by kernel_rfl) (by kernel_rfl) (by kernel_rfl) (fun _ _ _ h => h) (Or.inl ⟨by rfl, ?y32⟩) (by assumption) ?r32
          case y32 => (intro w hSw; (try dsimp only at hSw); go_simp; (first | done | with_reducible rfl))
          try simp only [Act.put, List.setIfInBounds_toArray, List.set_cons_zero, List.set_cons_succ]
          refine wpAnyH_done (by kernel_rfl) ?_ _
          go_wp2_with fail
          go_meet
          exact ⟨w21.heap.size, ph, kh, pph, kkh, _, _, rfl, rfl, HKh025.out, HOh25.out, by have := HZ1.out; have := HZ2.out; have := HZ3.out; have := HZ4.out; have := HZ5.out; have := HZ6.out; have := HZ7.out; have := HZ8.out; have := HZ9.out; have := HZ10.out; have := HZ11.out; have := HZ12.out; have := HZ13.out; have := HZ14.out; have := HZ15.out; have := HZ16.out; have := HZ17.out; have := HZ18.out; have := HZ19.out; have := HZ20.out; have := HZ21.out; have := HZ22.out; have := HZ23.out; have := HZ24.out; have := HZ25.out;  omega, by have := HZ1.out; have := HZ2.out; have := HZ3.out; have := HZ4.out; have := HZ5.out; have := HZ6.out; have := HZ7.out; have := HZ8.out; have := HZ9.out; have := HZ10.out; have := HZ11.out; have := HZ12.out; have := HZ13.out; have := HZ14.out; have := HZ15.out; have := HZ16.out; have := HZ17.out; have := HZ18.out; have := HZ19.out; have := HZ20.out; have := HZ21.out; have := HZ22.out; have := HZ23.out; have := HZ24.out; have := HZ25.out;  omega, by have := HZ1.out; have := HZ2.out; have := HZ3.out; have := HZ4.out; have := HZ5.out; have := HZ6.out; have := HZ7.out; have := HZ8.out; have := HZ9.out; have := HZ10.out; have := HZ11.out; have := HZ12.out; have := HZ13.out; have := HZ14.out; have := HZ15.out; have := HZ16.out; have := HZ17.out; have := HZ18.out; have := HZ19.out; have := HZ20.out; have := HZ21.out; have := HZ22.out; have := HZ23.out; have := HZ24.out; have := HZ25.out;  omega, by have := HZ1.out; have := HZ2.out; have := HZ3.out; have := HZ4.out; have := HZ5.out; have := HZ6.out; have := HZ7.out; have := HZ8.out; have := HZ9.out; have := HZ10.out; have := HZ11.out; have := HZ12.out; have := HZ13.out; have := HZ14.out; have := HZ15.out; have := HZ16.out; have := HZ17.out; have := HZ18.out; have := HZ19.out; have := HZ20.out; have := HZ21.out; have := HZ22.out; have := HZ23.out; have := HZ24.out; have := HZ25.out;  omega, by have := HZ1.out; have := HZ2.out; have := HZ3.out; have := HZ4.out; have := HZ5.out; have := HZ6.out; have := HZ7.out; have := HZ8.out; have := HZ9.out; have := HZ10.out; have := HZ11.out; have := HZ12.out; have := HZ13.out; have := HZ14.out; have := HZ15.out; have := HZ16.out; have := HZ17.out; have := HZ18.out; have := HZ19.out; have := HZ20.out; have := HZ21.out; have := HZ22.out; have := HZ23.out; have := HZ24.out; have := HZ25.out;  omega, by have := HZ1.out; have := HZ2.out; have := HZ3.out; have := HZ4.out; have := HZ5.out; have := HZ6.out; have := HZ7.out; have := HZ8.out; have := HZ9.out; have := HZ10.out; have := HZ11.out; have := HZ12.out; have := HZ13.out; have := HZ14.out; have := HZ15.out; have := HZ16.out; have := HZ17.out; have := HZ18.out; have := HZ19.out; have := HZ20.out; have := HZ21.out; have := HZ22.out; have := HZ23.out; have := HZ24.out; have := HZ25.out;  omega, HBs19_25.out⟩
      · go_simp
        have hb : Below w20.heap.size w20 (w20.alloc (.cells #[.slice none 0 0, .slice none 0 0] 27)) := (Below.refl _ _).alloc (Nat.le_refl _) _
        have hk : (w20.alloc (.cells #[.slice none 0 0, .slice none 0 0] 27)).heap[w20.heap.size]? = some (.cells #[.slice none 0 0, .slice none 0 0] 27 (0, 0)) := alloc_at rfl
        have hz : (w20.alloc (.cells #[.slice none 0 0, .slice none 0 0] 27)).heap.size = w20.heap.size + 1 := by simp
        generalize w20.alloc (.cells #[.slice none 0 0, .slice none 0 0] 27) = w21 at hb hk hz ⊢
        have HB21 : Hid (Below w.heap.size w w21) := Lib.hid (HB20.out.trans (hb.mono HB20.out.size))
        have HZ21 : Hid (w20.heap.size ≤ w21.heap.size) := Lib.hid hb.size
        have HRf021 := Lib.hid (HRf00.out.below HB21.out (Nat.le_refl _))
        have HRf121 := Lib.hid (HRf10.out.below HB21.out (Nat.le_refl _))
        have HKa021 := Lib.hid ((hb.block _ (lt_of_block HKa020.out)).trans HKa020.out)
        have HKa121 := Lib.hid ((hb.block _ (lt_of_block HKa120.out)).trans HKa120.out)
        have HKw021 := Lib.hid ((hb.block _ (lt_of_block HKw020.out)).trans HKw020.out)
        have HOw21 := Lib.hid (HOw20.out.next hb)
        have HOg21 := Lib.hid (HOg20.out.next hb)
        have HKg021 := Lib.hid ((hb.block _ (lt_of_block HKg020.out)).trans HKg020.out)
        have HBs19_21 : Hid (Below w19.heap.size w19 w21) := Lib.hid (HBs19_20.out.trans (hb.mono HBs19_20.out.size))
        have HKh021 := Lib.hid hk
        replace HZ21 : Hid (w20.heap.size < w21.heap.size) := Lib.hid (by omega)
        have HE21 := Lib.hid hz
        clear hb hk hz
        clear ca00 ca01 fa00 fa01 lta0 ca10 ca11 fa10 fa11 lta1 cw00 cw01 fw00 fw01 ltw0 cg00 cg01 fg00 fg01 ltg0
        have lta0 := lt_of_block HKa021.out
        obtain ⟨ca00, ca01, fa00, fa01⟩ := cell2 HKa021.out
        have lta1 := lt_of_block HKa121.out
        obtain ⟨ca10, ca11, fa10, fa11⟩ := cell2 HKa121.out
        have ltw0 := lt_of_block HKw021.out
        obtain ⟨cw00, cw01, fw00, fw01⟩ := cell2 HKw021.out
        have ltg0 := lt_of_block HKg021.out
        obtain ⟨cg00, cg01, fg00, fg01⟩ := cell2 HKg021.out
        have lth0 := lt_of_block HKh021.out
        obtain ⟨ch00, ch01, fh00, fh01⟩ := cell2 HKh021.out
        refine hK.out _ _ (⟨ca00, ca01, ca10, ca11⟩) (fun hHeld => ?_)
        clear hK K
        try simp only [Act.put, List.setIfInBounds_toArray, List.set_cons_zero, List.set_cons_succ]
        refine wpAnyH_ready (rs := [1]) (by kernel_rfl) (by simp) ?_
        refine AllReadyH.cons rfl (fun K hK => ?_) AllReadyH.nil
        go_simp
        go_at_call 15
        refine (toBoard_any _ _ ls0 ss0 _ HRf021.out hn0.1 hn0.2).mono ?_
        rintro e w22 ⟨⟨shc0, thc0, rfl, ho⟩, hb⟩
        have HB22 : Hid (Below w.heap.size w w22) := Lib.hid (HB21.out.trans (hb.mono HB21.out.size))
        have HZ22 : Hid (w21.heap.size ≤ w22.heap.size) := Lib.hid hb.size
        have HRf022 := Lib.hid (HRf00.out.below HB22.out (Nat.le_refl _))
        have HRf122 := Lib.hid (HRf10.out.below HB22.out (Nat.le_refl _))
        have HKa022 := Lib.hid ((hb.block _ (lt_of_block HKa021.out)).trans HKa021.out)
        have HKa122 := Lib.hid ((hb.block _ (lt_of_block HKa121.out)).trans HKa121.out)
        have HKw022 := Lib.hid ((hb.block _ (lt_of_block HKw021.out)).trans HKw021.out)
        have HOw22 := Lib.hid (HOw21.out.next hb)
        have HOg22 := Lib.hid (HOg21.out.next hb)
        have HKg022 := Lib.hid ((hb.block _ (lt_of_block HKg021.out)).trans HKg021.out)
        have HKh022 := Lib.hid ((hb.block _ (lt_of_block HKh021.out)).trans HKh021.out)
        have HBs19_22 : Hid (Below w19.heap.size w19 w22) := Lib.hid (HBs19_21.out.trans (hb.mono HBs19_21.out.size))
        clear hb
        obtain ⟨phc0, khc0, pphc0, kkhc0, rfl, rfl⟩ := ho.form
        have HRhc022 := Lib.hid (ho.reads)
        have HBs22_22 : Hid (Below w22.heap.size w22 w22) := Lib.hid (Below.refl _ _)
        clear ho
        clear ca00 ca01 fa00 fa01 lta0 ca10 ca11 fa10 fa11 lta1 cw00 cw01 fw00 fw01 ltw0 cg00 cg01 fg00 fg01 ltg0 ch00 ch01 fh00 fh01 lth0
        have lta0 := lt_of_block HKa022.out
        obtain ⟨ca00, ca01, fa00, fa01⟩ := cell2 HKa022.out
        have lta1 := lt_of_block HKa122.out
        obtain ⟨ca10, ca11, fa10, fa11⟩ := cell2 HKa122.out
        have ltw0 := lt_of_block HKw022.out
        obtain ⟨cw00, cw01, fw00, fw01⟩ := cell2 HKw022.out
        have ltg0 := lt_of_block HKg022.out
        obtain ⟨cg00, cg01, fg00, fg01⟩ := cell2 HKg022.out
        have lth0 := lt_of_block HKh022.out
        obtain ⟨ch00, ch01, fh00, fh01⟩ := cell2 HKh022.out
        try go_simp
        refine hK.out _ _ (⟨ca00, ca01, ca10, ca11⟩) (fun hHeld => ?_)
        clear hK K
        try simp only [Act.put, List.setIfInBounds_toArray, List.set_cons_zero, List.set_cons_succ]
        refine wpAnyH_ready (rs := [3]) (by kernel_rfl) (by simp) ?_
        refine AllReadyH.cons rfl (fun K hK => ?_) AllReadyH.nil
        go_simp
        go_at_call 15
        refine (toBoard_any _ _ ls1 ss1 _ HRf122.out hn1.1 hn1.2).mono ?_
        rintro e w23 ⟨⟨shc1, thc1, rfl, ho⟩, hb⟩
        have HB23 : Hid (Below w.heap.size w w23) := Lib.hid (HB22.out.trans (hb.mono HB22.out.size))
        have HZ23 : Hid (w22.heap.size ≤ w23.heap.size) := Lib.hid hb.size
        have HRf023 := Lib.hid (HRf00.out.below HB23.out (Nat.le_refl _))
        have HRf123 := Lib.hid (HRf10.out.below HB23.out (Nat.le_refl _))
        have HKa023 := Lib.hid ((hb.block _ (lt_of_block HKa022.out)).trans HKa022.out)
        have HKa123 := Lib.hid ((hb.block _ (lt_of_block HKa122.out)).trans HKa122.out)
        have HKw023 := Lib.hid ((hb.block _ (lt_of_block HKw022.out)).trans HKw022.out)
        have HOw23 := Lib.hid (HOw22.out.next hb)
        have HOg23 := Lib.hid (HOg22.out.next hb)
        have HKg023 := Lib.hid ((hb.block _ (lt_of_block HKg022.out)).trans HKg022.out)
        have HKh023 := Lib.hid ((hb.block _ (lt_of_block HKh022.out)).trans HKh022.out)
        have HRhc023 := Lib.hid (HRhc022.out.below hb (Nat.le_refl _))
        have HBs19_23 : Hid (Below w19.heap.size w19 w23) := Lib.hid (HBs19_22.out.trans (hb.mono HBs19_22.out.size))
        have HBs22_23 : Hid (Below w22.heap.size w22 w23) := Lib.hid (HBs22_22.out.trans (hb.mono HBs22_22.out.size))
        clear hb
        obtain ⟨phc1, khc1, pphc1, kkhc1, rfl, rfl⟩ := ho.form
        have HRhc123 := Lib.hid (ho.reads)
        have HBs23_23 : Hid (Below w23.heap.size w23 w23) := Lib.hid (Below.refl _ _)
        clear ho
        clear ca00 ca01 fa00 fa01 lta0 ca10 ca11 fa10 fa11 lta1 cw00 cw01 fw00 fw01 ltw0 cg00 cg01 fg00 fg01 ltg0 ch00 ch01 fh00 fh01 lth0
        have lta0 := lt_of_block HKa023.out
        obtain ⟨ca00, ca01, fa00, fa01⟩ := cell2 HKa023.out
        have lta1 := lt_of_block HKa123.out
        obtain ⟨ca10, ca11, fa10, fa11⟩ := cell2 HKa123.out
        have ltw0 := lt_of_block HKw023.out
        obtain ⟨cw00, cw01, fw00, fw01⟩ := cell2 HKw023.out
        have ltg0 := lt_of_block HKg023.out
        obtain ⟨cg00, cg01, fg00, fg01⟩ := cell2 HKg023.out
        have lth0 := lt_of_block HKh023.out
        obtain ⟨ch00, ch01, fh00, fh01⟩ := cell2 HKh023.out
        try go_simp
        refine hK.out _ _ (⟨ca00, ca01, ca10, ca11⟩) (fun hHeld => ?_)
        clear hK K
        try simp only [Act.put, List.setIfInBounds_toArray, List.set_cons_zero, List.set_cons_succ]
        refine wpAnyH_ready (rs := [4]) (by kernel_rfl) (by simp) ?_
        refine AllReadyH.cons rfl (fun K hK => ?_) AllReadyH.nil
        go_simp
        go_at_call 35
        refine (HI.out hn0 hn1 _ _ _ _ _ HRhc023.out HRhc123.out).mono ?_
        rintro e w24 ⟨⟨sh, th, rfl, ho⟩, hb⟩
        have HB24 : Hid (Below w.heap.size w w24) := Lib.hid (HB23.out.trans (hb.mono HB23.out.size))
        have HZ24 : Hid (w23.heap.size ≤ w24.heap.size) := Lib.hid hb.size
        have HRf024 := Lib.hid (HRf00.out.below HB24.out (Nat.le_refl _))
        have HRf124 := Lib.hid (HRf10.out.below HB24.out (Nat.le_refl _))
        have HKa024 := Lib.hid ((hb.block _ (lt_of_block HKa023.out)).trans HKa023.out)
        have HKa124 := Lib.hid ((hb.block _ (lt_of_block HKa123.out)).trans HKa123.out)
        have HKw024 := Lib.hid ((hb.block _ (lt_of_block HKw023.out)).trans HKw023.out)
        have HOw24 := Lib.hid (HOw23.out.next hb)
        have HOg24 := Lib.hid (HOg23.out.next hb)
        have HKg024 := Lib.hid ((hb.block _ (lt_of_block HKg023.out)).trans HKg023.out)
        have HKh024 := Lib.hid ((hb.block _ (lt_of_block HKh023.out)).trans HKh023.out)
        have HRhc024 := Lib.hid (HRhc023.out.below hb (Nat.le_refl _))
        have HRhc124 := Lib.hid (HRhc123.out.below hb (Nat.le_refl _))
        have HBs19_24 : Hid (Below w19.heap.size w19 w24) := Lib.hid (HBs19_23.out.trans (hb.mono HBs19_23.out.size))
        have HBs22_24 : Hid (Below w22.heap.size w22 w24) := Lib.hid (HBs22_23.out.trans (hb.mono HBs22_23.out.size))
        have HBs23_24 : Hid (Below w23.heap.size w23 w24) := Lib.hid (HBs23_23.out.trans (hb.mono HBs23_23.out.size))
        clear hb
        obtain ⟨ph, kh, pph, kkh, rfl, rfl⟩ := ho.form
        have HOh24 := Lib.hid (ho)
        clear ho
        clear ca00 ca01 fa00 fa01 lta0 ca10 ca11 fa10 fa11 lta1 cw00 cw01 fw00 fw01 ltw0 cg00 cg01 fg00 fg01 ltg0 ch00 ch01 fh00 fh01 lth0
        have lta0 := lt_of_block HKa024.out
        obtain ⟨ca00, ca01, fa00, fa01⟩ := cell2 HKa024.out
        have lta1 := lt_of_block HKa124.out
        obtain ⟨ca10, ca11, fa10, fa11⟩ := cell2 HKa124.out
        have ltw0 := lt_of_block HKw024.out
        obtain ⟨cw00, cw01, fw00, fw01⟩ := cell2 HKw024.out
        have ltg0 := lt_of_block HKg024.out
        obtain ⟨cg00, cg01, fg00, fg01⟩ := cell2 HKg024.out
        have lth0 := lt_of_block HKh024.out
        obtain ⟨ch00, ch01, fh00, fh01⟩ := cell2 HKh024.out
        try go_simp
        refine hK.out _ _ (⟨ca00, ca01, ca10, ca11⟩) (fun hHeld => ?_)
        clear hK K
        try simp only [Act.put, List.setIfInBounds_toArray, List.set_cons_zero, List.set_cons_succ]
        refine take1 (i := 5) (v := ?v33) (some 94) rfl rfl (by kernel_rfl) (by kernel_rfl) (by kernel_rfl) (fun _ _ _ h => h) (Or.inl ⟨by rfl, ?y33⟩) (by assumption) ?r33
        case y33 => (intro w hSw; (try dsimp only at hSw); go_simp; (first | done | with_reducible rfl))
        try simp only [Act.put, List.setIfInBounds_toArray, List.set_cons_zero, List.set_cons_succ]
        refine take1 (i := 6) (v := ?v34) (some 100) rfl rfl (by kernel_rfl) (by kernel_rfl) (by kernel_rfl) (fun _ _ _ h => h) (Or.inl ⟨by rfl, ?y34⟩) (by assumption) ?r34
        case y34 => (intro w hSw; (try dsimp only at hSw); go_simp; (first | done | with_reducible rfl))
        try simp only [Act.put, List.setIfInBounds_toArray, List.set_cons_zero, List.set_cons_succ]
        refine take1 (i := 7) (v := ?v35) (some 101) rfl rfl (by kernel_rfl) (by kernel_rfl) (by kernel_rfl) (fun _ _ _ h => h) (Or.inl ⟨by rfl, ?y35⟩) (by assumption) ?r35
        case y35 => (intro w hSw; (try dsimp only at hSw); go_simp; (first | done | with_reducible rfl))
        try simp only [Act.put, List.setIfInBounds_toArray, List.set_cons_zero, List.set_cons_succ]
        refine wpAnyH_ready (rs := [9]) (by kernel_rfl) (by simp) ?_
        refine AllReadyH.cons rfl (fun K hK => ?_) AllReadyH.nil
        go_simp
        have hkb := box2_set HKh024.out (.slice ph qs.length kh) (.slice pph qt.length kkh)
        have hm : Btw w20.heap.size (w20.heap.size + 1) w24 ((w24.setCell ⟨w20.heap.size, 0, none⟩ (.slice ph qs.length kh)).setCell ⟨w20.heap.size, 1, none⟩ (.slice pph qt.length kkh)) := ((Btw.refl w20.heap.size (w20.heap.size + 1) w24).setCell (p := ⟨w20.heap.size, 0, none⟩) (Nat.le_refl _) (Nat.lt_succ_self _) _).setCell (p := ⟨w20.heap.size, 1, none⟩) (Nat.le_refl _) (Nat.lt_succ_self _) _
        generalize (w24.setCell ⟨w20.heap.size, 0, none⟩ (.slice ph qs.length kh)).setCell ⟨w20.heap.size, 1, none⟩ (.slice pph qt.length kkh) = w25 at hkb hm ⊢
        have HZ25 : Hid (w24.heap.size ≤ w25.heap.size) := Lib.hid hm.size
        have HB25 : Hid (Below w.heap.size w w25) := Lib.hid (HB24.out.trans (hm.below.mono (by have := HZ1.out; have := HZ2.out; have := HZ3.out; have := HZ4.out; have := HZ5.out; have := HZ6.out; have := HZ7.out; have := HZ8.out; have := HZ9.out; have := HZ10.out; have := HZ11.out; have := HZ12.out; have := HZ13.out; have := HZ14.out; have := HZ15.out; have := HZ16.out; have := HZ17.out; have := HZ18.out; have := HZ19.out; have := HZ20.out; have := HZ21.out; have := HZ22.out; have := HZ23.out; have := HZ24.out; have := HB0.out.size; omega)))
        have HRf025 := Lib.hid (HRf00.out.below HB25.out (Nat.le_refl _))
        have HRf125 := Lib.hid (HRf10.out.below HB25.out (Nat.le_refl _))
        have HKa025 := Lib.hid ((hm.block _ (by have := lt_of_block HKa024.out; have := HZ1.out; have := HZ2.out; have := HZ3.out; have := HZ4.out; have := HZ5.out; have := HZ6.out; have := HZ7.out; have := HZ8.out; have := HZ9.out; have := HZ10.out; have := HZ11.out; have := HZ12.out; have := HZ13.out; have := HZ14.out; have := HZ15.out; have := HZ16.out; have := HZ17.out; have := HZ18.out; have := HZ19.out; have := HZ20.out; have := HZ21.out; have := HZ22.out; have := HZ23.out; have := HZ24.out; omega)).trans HKa024.out)
        have HKa125 := Lib.hid ((hm.block _ (by have := lt_of_block HKa124.out; have := HZ1.out; have := HZ2.out; have := HZ3.out; have := HZ4.out; have := HZ5.out; have := HZ6.out; have := HZ7.out; have := HZ8.out; have := HZ9.out; have := HZ10.out; have := HZ11.out; have := HZ12.out; have := HZ13.out; have := HZ14.out; have := HZ15.out; have := HZ16.out; have := HZ17.out; have := HZ18.out; have := HZ19.out; have := HZ20.out; have := HZ21.out; have := HZ22.out; have := HZ23.out; have := HZ24.out; omega)).trans HKa124.out)
        have HKw025 := Lib.hid ((hm.block _ (by have := lt_of_block HKw024.out; have := HZ1.out; have := HZ2.out; have := HZ3.out; have := HZ4.out; have := HZ5.out; have := HZ6.out; have := HZ7.out; have := HZ8.out; have := HZ9.out; have := HZ10.out; have := HZ11.out; have := HZ12.out; have := HZ13.out; have := HZ14.out; have := HZ15.out; have := HZ16.out; have := HZ17.out; have := HZ18.out; have := HZ19.out; have := HZ20.out; have := HZ21.out; have := HZ22.out; have := HZ23.out; have := HZ24.out; omega)).trans HKw024.out)
        have HOw25 := Lib.hid (HOw24.out.btw hm (by have := HZ1.out; have := HZ2.out; have := HZ3.out; have := HZ4.out; have := HZ5.out; have := HZ6.out; have := HZ7.out; have := HZ8.out; have := HZ9.out; have := HZ10.out; have := HZ11.out; have := HZ12.out; have := HZ13.out; have := HZ14.out; have := HZ15.out; have := HZ16.out; have := HZ17.out; have := HZ18.out; have := HZ19.out; have := HZ20.out; have := HZ21.out; have := HZ22.out; have := HZ23.out; have := HZ24.out; omega))
        have HOg25 := Lib.hid (HOg24.out.btw hm (by have := HZ1.out; have := HZ2.out; have := HZ3.out; have := HZ4.out; have := HZ5.out; have := HZ6.out; have := HZ7.out; have := HZ8.out; have := HZ9.out; have := HZ10.out; have := HZ11.out; have := HZ12.out; have := HZ13.out; have := HZ14.out; have := HZ15.out; have := HZ16.out; have := HZ17.out; have := HZ18.out; have := HZ19.out; have := HZ20.out; have := HZ21.out; have := HZ22.out; have := HZ23.out; have := HZ24.out; omega))
        have HKg025 := Lib.hid ((hm.block _ (by have := lt_of_block HKg024.out; have := HZ1.out; have := HZ2.out; have := HZ3.out; have := HZ4.out; have := HZ5.out; have := HZ6.out; have := HZ7.out; have := HZ8.out; have := HZ9.out; have := HZ10.out; have := HZ11.out; have := HZ12.out; have := HZ13.out; have := HZ14.out; have := HZ15.out; have := HZ16.out; have := HZ17.out; have := HZ18.out; have := HZ19.out; have := HZ20.out; have := HZ21.out; have := HZ22.out; have := HZ23.out; have := HZ24.out; omega)).trans HKg024.out)
        have HOh25 := Lib.hid (HOh24.out.btw hm (by have := HZ1.out; have := HZ2.out; have := HZ3.out; have := HZ4.out; have := HZ5.out; have := HZ6.out; have := HZ7.out; have := HZ8.out; have := HZ9.out; have := HZ10.out; have := HZ11.out; have := HZ12.out; have := HZ13.out; have := HZ14.out; have := HZ15.out; have := HZ16.out; have := HZ17.out; have := HZ18.out; have := HZ19.out; have := HZ20.out; have := HZ21.out; have := HZ22.out; have := HZ23.out; have := HZ24.out; omega))
        have HBs19_25 : Hid (Below w19.heap.size w19 w25) := Lib.hid (HBs19_24.out.trans (hm.below.mono (by have := HZ1.out; have := HZ2.out; have := HZ3.out; have := HZ4.out; have := HZ5.out; have := HZ6.out; have := HZ7.out; have := HZ8.out; have := HZ9.out; have := HZ10.out; have := HZ11.out; have := HZ12.out; have := HZ13.out; have := HZ14.out; have := HZ15.out; have := HZ16.out; have := HZ17.out; have := HZ18.out; have := HZ19.out; have := HZ20.out; have := HZ21.out; have := HZ22.out; have := HZ23.out; have := HZ24.out; omega)))
        clear hm
        have HKh025 := Lib.hid (hkb)
        clear hkb
        clear ca00 ca01 fa00 fa01 lta0 ca10 ca11 fa10 fa11 lta1 cw00 cw01 fw00 fw01 ltw0 cg00 cg01 fg00 fg01 ltg0 ch00 ch01 fh00 fh01 lth0
        have lta0 := lt_of_block HKa025.out
        obtain ⟨ca00, ca01, fa00, fa01⟩ := cell2 HKa025.out
        have lta1 := lt_of_block HKa125.out
        obtain ⟨ca10, ca11, fa10, fa11⟩ := cell2 HKa125.out
        have ltw0 := lt_of_block HKw025.out
        obtain ⟨cw00, cw01, fw00, fw01⟩ := cell2 HKw025.out
        have ltg0 := lt_of_block HKg025.out
        obtain ⟨cg00, cg01, fg00, fg01⟩ := cell2 HKg025.out
        have lth0 := lt_of_block HKh025.out
        obtain ⟨ch00, ch01, fh00, fh01⟩ := cell2 HKh025.out
        refine hK.out _ _ (⟨ca00, ca01, ca10, ca11⟩) (fun hHeld => ?_)
        clear hK K
        try simp only [Act.put]
        refine take1 (i := 10) (v := ?v36) (some 16) rfl rfl (by kernel_rfl) (by kernel_rfl) (by kernel_rfl) (fun _ _ _ h => h) (Or.inl ⟨by rfl, ?y36⟩) (by assumption) ?r36
        case y36 => (intro w hSw; (try dsimp only at hSw); go_simp; (first | done | with_reducible rfl))
        try simp only [Act.put, List.setIfInBounds_toArray, List.set_cons_zero, List.set_cons_succ]
        refine wpAnyH_done (by kernel_rfl) ?_ _
        go_wp2_with fail
        go_meet
        exact ⟨w20.heap.size, ph, kh, pph, kkh, _, _, rfl, rfl, HKh025.out, HOh25.out, by have := HZ1.out; have := HZ2.out; have := HZ3.out; have := HZ4.out; have := HZ5.out; have := HZ6.out; have := HZ7.out; have := HZ8.out; have := HZ9.out; have := HZ10.out; have := HZ11.out; have := HZ12.out; have := HZ13.out; have := HZ14.out; have := HZ15.out; have := HZ16.out; have := HZ17.out; have := HZ18.out; have := HZ19.out; have := HZ20.out; have := HZ21.out; have := HZ22.out; have := HZ23.out; have := HZ24.out; have := HZ25.out;  omega, by have := HZ1.out; have := HZ2.out; have := HZ3.out; have := HZ4.out; have := HZ5.out; have := HZ6.out; have := HZ7.out; have := HZ8.out; have := HZ9.out; have := HZ10.out; have := HZ11.out; have := HZ12.out; have := HZ13.out; have := HZ14.out; have := HZ15.out; have := HZ16.out; have := HZ17.out; have := HZ18.out; have := HZ19.out; have := HZ20.out; have := HZ21.out; have := HZ22.out; have := HZ23.out; have := HZ24.out; have := HZ25.out;  omega, by have := HZ1.out; have := HZ2.out; have := HZ3.out; have := HZ4.out; have := HZ5.out; have := HZ6.out; have := HZ7.out; have := HZ8.out; have := HZ9.out; have := HZ10.out; have := HZ11.out; have := HZ12.out; have := HZ13.out; have := HZ14.out; have := HZ15.out; have := HZ16.out; have := HZ17.out; have := HZ18.out; have := HZ19.out; have := HZ20.out; have := HZ21.out; have := HZ22.out; have := HZ23.out; have := HZ24.out; have := HZ25.out;  omega, by have := HZ1.out; have := HZ2.out; have := HZ3.out; have := HZ4.out; have := HZ5.out; have := HZ6.out; have := HZ7.out; have := HZ8.out; have := HZ9.out; have := HZ10.out; have := HZ11.out; have := HZ12.out; have := HZ13.out; have := HZ14.out; have := HZ15.out; have := HZ16.out; have := HZ17.out; have := HZ18.out; have := HZ19.out; have := HZ20.out; have := HZ21.out; have := HZ22.out; have := HZ23.out; have := HZ24.out; have := HZ25.out;  omega, by have := HZ1.out; have := HZ2.out; have := HZ3.out; have := HZ4.out; have := HZ5.out; have := HZ6.out; have := HZ7.out; have := HZ8.out; have := HZ9.out; have := HZ10.out; have := HZ11.out; have := HZ12.out; have := HZ13.out; have := HZ14.out; have := HZ15.out; have := HZ16.out; have := HZ17.out; have := HZ18.out; have := HZ19.out; have := HZ20.out; have := HZ21.out; have := HZ22.out; have := HZ23.out; have := HZ24.out; have := HZ25.out;  omega, by have := HZ1.out; have := HZ2.out; have := HZ3.out; have := HZ4.out; have := HZ5.out; have := HZ6.out; have := HZ7.out; have := HZ8.out; have := HZ9.out; have := HZ10.out; have := HZ11.out; have := HZ12.out; have := HZ13.out; have := HZ14.out; have := HZ15.out; have := HZ16.out; have := HZ17.out; have := HZ18.out; have := HZ19.out; have := HZ20.out; have := HZ21.out; have := HZ22.out; have := HZ23.out; have := HZ24.out; have := HZ25.out;  omega, HBs19_25.out⟩
    case rest =>
      obtain ⟨bh, ph, kh, pph, kkh, loh, hih, rfl, rfl, hkq, hoq, hl1h, hl2h, hl6h, hl3h, hl4h, hl5h, hb⟩ := hcut
      rename World => w20
      have HB20 : Hid (Below w.heap.size w w20) := Lib.hid (HB19.out.trans (hb.mono HB19.out.size))
      have HZ20 : Hid (w19.heap.size ≤ w20.heap.size) := Lib.hid hb.size
      have HRf020 := Lib.hid (HRf00.out.below HB20.out (Nat.le_refl _))
      have HRf120 := Lib.hid (HRf10.out.below HB20.out (Nat.le_refl _))
      have HKa020 := Lib.hid ((hb.block _ (lt_of_block HKa019.out)).trans HKa019.out)
      have HKa120 := Lib.hid ((hb.block _ (lt_of_block HKa119.out)).trans HKa119.out)
      have HKw020 := Lib.hid ((hb.block _ (lt_of_block HKw019.out)).trans HKw019.out)
      have HOw20 := Lib.hid (HOw19.out.next hb)
      have HOg20 := Lib.hid (HOg19.out.next hb)
      have HKg020 := Lib.hid ((hb.block _ (lt_of_block HKg019.out)).trans HKg019.out)
      clear hb
      have hlth := lt_of_block hkq
      have HKh020 := Lib.hid (hkq)
      have HOh20 := Lib.hid (hoq)
      clear hkq hoq
      clear ca00 ca01 fa00 fa01 lta0 ca10 ca11 fa10 fa11 lta1 cw00 cw01 fw00 fw01 ltw0 cg00 cg01 fg00 fg01 ltg0
      have lta0 := lt_of_block HKa020.out
      obtain ⟨ca00, ca01, fa00, fa01⟩ := cell2 HKa020.out
      have lta1 := lt_of_block HKa120.out
      obtain ⟨ca10, ca11, fa10, fa11⟩ := cell2 HKa120.out
      have ltw0 := lt_of_block HKw020.out
      obtain ⟨cw00, cw01, fw00, fw01⟩ := cell2 HKw020.out
      have ltg0 := lt_of_block HKg020.out
      obtain ⟨cg00, cg01, fg00, fg01⟩ := cell2 HKg020.out
      have lth0 := lt_of_block HKh020.out
      obtain ⟨ch00, ch01, fh00, fh01⟩ := cell2 HKh020.out
      go_wp2_with fail
      refine (eqBoard_yes _ _ _ _ qs qt _ HOh20.out.reads HOw20.out.reads).mono ?_
      rintro e w21 ⟨rfl, hb⟩
      have HB21 : Hid (Below w.heap.size w w21) := Lib.hid (HB20.out.trans (hb.mono HB20.out.size))
      have HZ21 : Hid (w20.heap.size ≤ w21.heap.size) := Lib.hid hb.size
      have HRf021 := Lib.hid (HRf00.out.below HB21.out (Nat.le_refl _))
      have HRf121 := Lib.hid (HRf10.out.below HB21.out (Nat.le_refl _))
      have HKa021 := Lib.hid ((hb.block _ (lt_of_block HKa020.out)).trans HKa020.out)
      have HKa121 := Lib.hid ((hb.block _ (lt_of_block HKa120.out)).trans HKa120.out)
      have HKw021 := Lib.hid ((hb.block _ (lt_of_block HKw020.out)).trans HKw020.out)
      have HOw21 := Lib.hid (HOw20.out.next hb)
      have HOg21 := Lib.hid (HOg20.out.next hb)
      have HKg021 := Lib.hid ((hb.block _ (lt_of_block HKg020.out)).trans HKg020.out)
      have HKh021 := Lib.hid ((hb.block _ (lt_of_block HKh020.out)).trans HKh020.out)
      have HOh21 := Lib.hid (HOh20.out.next hb)
      clear hb
      clear ca00 ca01 fa00 fa01 lta0 ca10 ca11 fa10 fa11 lta1 cw00 cw01 fw00 fw01 ltw0 cg00 cg01 fg00 fg01 ltg0 ch00 ch01 fh00 fh01 lth0
      have lta0 := lt_of_block HKa021.out
      obtain ⟨ca00, ca01, fa00, fa01⟩ := cell2 HKa021.out
      have lta1 := lt_of_block HKa121.out
      obtain ⟨ca10, ca11, fa10, fa11⟩ := cell2 HKa121.out
      have ltw0 := lt_of_block HKw021.out
      obtain ⟨cw00, cw01, fw00, fw01⟩ := cell2 HKw021.out
      have ltg0 := lt_of_block HKg021.out
      obtain ⟨cg00, cg01, fg00, fg01⟩ := cell2 HKg021.out
      have lth0 := lt_of_block HKh021.out
      obtain ⟨ch00, ch01, fh00, fh01⟩ := cell2 HKh021.out
      go_wp2_with fail
      refine (heldBoard_any _ _ qs.length qt.length 1 _ (by have := HOg21.out.reads; exact this) (by omega) (by omega) (by omega)).mono ?_
      rintro e w22 ⟨rfl, hb⟩
      have HB22 : Hid (Below w.heap.size w w22) := Lib.hid (HB21.out.trans (hb.mono HB21.out.size))
      have HZ22 : Hid (w21.heap.size ≤ w22.heap.size) := Lib.hid hb.size
      have HRf022 := Lib.hid (HRf00.out.below HB22.out (Nat.le_refl _))
      have HRf122 := Lib.hid (HRf10.out.below HB22.out (Nat.le_refl _))
      have HKa022 := Lib.hid ((hb.block _ (lt_of_block HKa021.out)).trans HKa021.out)
      have HKa122 := Lib.hid ((hb.block _ (lt_of_block HKa121.out)).trans HKa121.out)
      have HKw022 := Lib.hid ((hb.block _ (lt_of_block HKw021.out)).trans HKw021.out)
      have HOw22 := Lib.hid (HOw21.out.next hb)
      have HOg22 := Lib.hid (HOg21.out.next hb)
      have HKg022 := Lib.hid ((hb.block _ (lt_of_block HKg021.out)).trans HKg021.out)
      have HKh022 := Lib.hid ((hb.block _ (lt_of_block HKh021.out)).trans HKh021.out)
      have HOh22 := Lib.hid (HOh21.out.next hb)
      clear hb
      clear ca00 ca01 fa00 fa01 lta0 ca10 ca11 fa10 fa11 lta1 cw00 cw01 fw00 fw01 ltw0 cg00 cg01 fg00 fg01 ltg0 ch00 ch01 fh00 fh01 lth0
      have lta0 := lt_of_block HKa022.out
      obtain ⟨ca00, ca01, fa00, fa01⟩ := cell2 HKa022.out
      have lta1 := lt_of_block HKa122.out
      obtain ⟨ca10, ca11, fa10, fa11⟩ := cell2 HKa122.out
      have ltw0 := lt_of_block HKw022.out
      obtain ⟨cw00, cw01, fw00, fw01⟩ := cell2 HKw022.out
      have ltg0 := lt_of_block HKg022.out
      obtain ⟨cg00, cg01, fg00, fg01⟩ := cell2 HKg022.out
      have lth0 := lt_of_block HKh022.out
      obtain ⟨ch00, ch01, fh00, fh01⟩ := cell2 HKh022.out
      go_wp2_with fail
      go_ret
      exact ⟨rfl, HB22.out⟩
end Go.Proofs.Ytgmaelgihlcaeaa
