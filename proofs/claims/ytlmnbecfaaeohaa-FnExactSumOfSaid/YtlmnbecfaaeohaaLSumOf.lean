/- The law on SumOf: it returns true where the model and the program give one answer. -/
import Derived.Test.YtlmnbecfaaeohaaAmts
import Derived.Test.YtlmnbecfaaeohaaUnits
import Derived.Test.YtlmnbecfaaeohaaKa
import Derived.Deep.RegionHeld3
import Derived.Deep.Cut
namespace Go.Proofs.Ytlmnbecfaaeohaa
set_option linter.unusedVariables false
open Go.RowKit

set_option maxRecDepth 100000 in
set_option maxHeartbeats 3200000 in
theorem lawSumOf (w : World) (sv0 : Value) (us0 : List Un) (h0 : RowsR 2 unC w sv0 us0) (hs0 : ∀ u ∈ us0, u.nm.size ≤ maxLen) (sv1 : Value) (cs1 : List Int) (h1 : RowsR 1 inC w sv1 cs1) (sv2 : Value) (cs2 : List Int) (h2 : RowsR 1 inC w sv2 cs2) (qs0 : List Int) (hq0 : qs0.length ≤ 1000) (r1 : Bool) 
    (hS : ∀ s0 s1 s2 w, RowsR 2 unC w s0 us0 → RowsR 1 inC w s1 cs1 → RowsR 1 inC w s2 cs2 → Calls Try.prog 30 #[s0, .agg #[s1], .agg #[s2]] w fun e w' => (∃ t0, e = .returned (.tuple #[.agg #[t0], .bool r1]) ∧ OwA w.heap.size w'.heap.size w' t0 qs0) ∧ Below w.heap.size w w') 
    (hI : ∀ s0 s1 s2 w, RowsR 2 unC w s0 us0 → RowsR 1 inC w s1 cs1 → RowsR 1 inC w s2 cs2 → Calls Try.prog 31 #[s0, .agg #[s1], .agg #[s2]] w fun e w' => (∃ t0, e = .returned (.tuple #[.agg #[t0], .bool r1]) ∧ OwA w.heap.size w'.heap.size w' t0 qs0) ∧ Below w.heap.size w w') :
    Calls Try.prog 7 #[sv0, .agg #[sv1], .agg #[sv2]] w fun e w' => e = .returned (.bool true) ∧ Below w.heap.size w w' := by
  have HS := Lib.hid hS
  have HI := Lib.hid hI
  obtain ⟨ad0, cp0, rfl⟩ := h0.form
  have hm0 : us0.length ≤ 9223372036854775807 := by obtain ⟨_, _, _, ⟨m, _⟩, _⟩ := h0; exact m
  obtain ⟨ad1, cp1, rfl⟩ := h1.form
  have hm1 : cs1.length ≤ 9223372036854775807 := by obtain ⟨_, _, _, ⟨m, _⟩, _⟩ := h1; exact m
  obtain ⟨ad2, cp2, rfl⟩ := h2.form
  have hm2 : cs2.length ≤ 9223372036854775807 := by obtain ⟨_, _, _, ⟨m, _⟩, _⟩ := h2; exact m
  have hqk : ¬ (1 + (qs0.length : Int) < 0) := by omega
  have hqk' : ((1 + (qs0.length : Int)) != (1 + (qs0.length : Int))) = false := by simp
  have HB0 : Hid (Below w.heap.size w w) := Lib.hid (Below.refl _ _)
  have HRf00 := Lib.hid (h0)
  have HRf10 := Lib.hid (h1)
  have HRf20 := Lib.hid (h2)
  have HSZ0 := Lib.hid hs0
  clear hS hI h0 h1 h2 hs0
  have hr1 : (r1 != r1) = false := by simp
  go_enter Try.func7, Try.ntmps7
  go_wp2_with fail
  have hb : Below w.heap.size w (w.alloc (.cells #[.slice ad1 cs1.length cp1] 31)) := (Below.refl _ _).alloc (Nat.le_refl _) _
  have hk : (w.alloc (.cells #[.slice ad1 cs1.length cp1] 31)).heap[w.heap.size]? = some (.cells #[.slice ad1 cs1.length cp1] 31 (0, 0)) := alloc_at rfl
  have hz : (w.alloc (.cells #[.slice ad1 cs1.length cp1] 31)).heap.size = w.heap.size + 1 := by simp
  generalize w.alloc (.cells #[.slice ad1 cs1.length cp1] 31) = w1 at hb hk hz ⊢
  have HB1 : Hid (Below w.heap.size w w1) := Lib.hid (HB0.out.trans (hb.mono HB0.out.size))
  have HZ1 : Hid (w.heap.size ≤ w1.heap.size) := Lib.hid hb.size
  have HRf01 := Lib.hid (HRf00.out.below HB1.out (Nat.le_refl _))
  have HRf11 := Lib.hid (HRf10.out.below HB1.out (Nat.le_refl _))
  have HRf21 := Lib.hid (HRf20.out.below HB1.out (Nat.le_refl _))
  have HKa11 := Lib.hid hk
  replace HZ1 : Hid (w.heap.size < w1.heap.size) := Lib.hid (by omega)
  have HE1 := Lib.hid hz
  clear hb hk hz
  have hb : Below w1.heap.size w1 (w1.alloc (.cells #[.slice ad2 cs2.length cp2] 31)) := (Below.refl _ _).alloc (Nat.le_refl _) _
  have hk : (w1.alloc (.cells #[.slice ad2 cs2.length cp2] 31)).heap[w.heap.size + 1]? = some (.cells #[.slice ad2 cs2.length cp2] 31 (0, 0)) := alloc_at (by have := HE1.out; omega)
  have hz : (w1.alloc (.cells #[.slice ad2 cs2.length cp2] 31)).heap.size = w1.heap.size + 1 := by simp
  generalize w1.alloc (.cells #[.slice ad2 cs2.length cp2] 31) = w2 at hb hk hz ⊢
  have HB2 : Hid (Below w.heap.size w w2) := Lib.hid (HB1.out.trans (hb.mono HB1.out.size))
  have HZ2 : Hid (w1.heap.size ≤ w2.heap.size) := Lib.hid hb.size
  have HRf02 := Lib.hid (HRf00.out.below HB2.out (Nat.le_refl _))
  have HRf12 := Lib.hid (HRf10.out.below HB2.out (Nat.le_refl _))
  have HRf22 := Lib.hid (HRf20.out.below HB2.out (Nat.le_refl _))
  have HKa12 := Lib.hid ((hb.block _ (lt_of_block HKa11.out)).trans HKa11.out)
  have HKa22 := Lib.hid hk
  replace HZ2 : Hid (w1.heap.size < w2.heap.size) := Lib.hid (by omega)
  have HE2 := Lib.hid hz
  clear hb hk hz
  refine (szUnitS_any _ us0 1048576 _ HRf02.out HSZ0.out (by omega) (by omega)).mono ?_
  rintro e w3 ⟨⟨l0, rfl, hl0, hk0⟩, hb⟩
  have HB3 : Hid (Below w.heap.size w w3) := Lib.hid (HB2.out.trans (hb.mono HB2.out.size))
  have HZ3 : Hid (w2.heap.size ≤ w3.heap.size) := Lib.hid hb.size
  have HRf03 := Lib.hid (HRf00.out.below HB3.out (Nat.le_refl _))
  have HRf13 := Lib.hid (HRf10.out.below HB3.out (Nat.le_refl _))
  have HRf23 := Lib.hid (HRf20.out.below HB3.out (Nat.le_refl _))
  have HKa13 := Lib.hid ((hb.block _ (lt_of_block HKa12.out)).trans HKa12.out)
  have HKa23 := Lib.hid ((hb.block _ (lt_of_block HKa22.out)).trans HKa22.out)
  clear hb
  by_cases hr : l0 < 0
  · clear hk0
    have lta1 := lt_of_block HKa13.out
    obtain ⟨ca10, fa10⟩ := cell1 HKa13.out
    have lta2 := lt_of_block HKa23.out
    obtain ⟨ca20, fa20⟩ := cell1 HKa23.out
    go_wp2_with fail
    go_ret
    exact ⟨rfl, HB3.out⟩
  have hn0 : us0.length ≤ 1048576 := by have := hk0 (by omega); omega
  clear hk0
  have lta1 := lt_of_block HKa13.out
  obtain ⟨ca10, fa10⟩ := cell1 HKa13.out
  have lta2 := lt_of_block HKa23.out
  obtain ⟨ca20, fa20⟩ := cell1 HKa23.out
  go_wp2_with fail
  refine (szAmount_any _ cs1 l0 _ HRf13.out (by omega) (by omega)).mono ?_
  rintro e w4 ⟨⟨l1, rfl, hl1, hk1⟩, hb⟩
  have HB4 : Hid (Below w.heap.size w w4) := Lib.hid (HB3.out.trans (hb.mono HB3.out.size))
  have HZ4 : Hid (w3.heap.size ≤ w4.heap.size) := Lib.hid hb.size
  have HRf04 := Lib.hid (HRf00.out.below HB4.out (Nat.le_refl _))
  have HRf14 := Lib.hid (HRf10.out.below HB4.out (Nat.le_refl _))
  have HRf24 := Lib.hid (HRf20.out.below HB4.out (Nat.le_refl _))
  have HKa14 := Lib.hid ((hb.block _ (lt_of_block HKa13.out)).trans HKa13.out)
  have HKa24 := Lib.hid ((hb.block _ (lt_of_block HKa23.out)).trans HKa23.out)
  clear hb
  by_cases hr : l1 < 0
  · clear hk1
    clear ca10 fa10 lta1 ca20 fa20 lta2
    have lta1 := lt_of_block HKa14.out
    obtain ⟨ca10, fa10⟩ := cell1 HKa14.out
    have lta2 := lt_of_block HKa24.out
    obtain ⟨ca20, fa20⟩ := cell1 HKa24.out
    go_wp2_with fail
    go_ret
    exact ⟨rfl, HB4.out⟩
  have hn1 : cs1.length ≤ 1048576 := by have := hk1 (by omega); omega
  clear hk1
  clear ca10 fa10 lta1 ca20 fa20 lta2
  have lta1 := lt_of_block HKa14.out
  obtain ⟨ca10, fa10⟩ := cell1 HKa14.out
  have lta2 := lt_of_block HKa24.out
  obtain ⟨ca20, fa20⟩ := cell1 HKa24.out
  go_wp2_with fail
  refine (szAmount_any _ cs2 l1 _ HRf24.out (by omega) (by omega)).mono ?_
  rintro e w5 ⟨⟨l2, rfl, hl2, hk2⟩, hb⟩
  have HB5 : Hid (Below w.heap.size w w5) := Lib.hid (HB4.out.trans (hb.mono HB4.out.size))
  have HZ5 : Hid (w4.heap.size ≤ w5.heap.size) := Lib.hid hb.size
  have HRf05 := Lib.hid (HRf00.out.below HB5.out (Nat.le_refl _))
  have HRf15 := Lib.hid (HRf10.out.below HB5.out (Nat.le_refl _))
  have HRf25 := Lib.hid (HRf20.out.below HB5.out (Nat.le_refl _))
  have HKa15 := Lib.hid ((hb.block _ (lt_of_block HKa14.out)).trans HKa14.out)
  have HKa25 := Lib.hid ((hb.block _ (lt_of_block HKa24.out)).trans HKa24.out)
  clear hb
  by_cases hr : l2 < 0
  · clear hk2
    clear ca10 fa10 lta1 ca20 fa20 lta2
    have lta1 := lt_of_block HKa15.out
    obtain ⟨ca10, fa10⟩ := cell1 HKa15.out
    have lta2 := lt_of_block HKa25.out
    obtain ⟨ca20, fa20⟩ := cell1 HKa25.out
    go_wp2_with fail
    go_ret
    exact ⟨rfl, HB5.out⟩
  have hn2 : cs2.length ≤ 1048576 := by have := hk2 (by omega); omega
  clear hk2
  clear ca10 fa10 lta1 ca20 fa20 lta2
  have lta1 := lt_of_block HKa15.out
  obtain ⟨ca10, fa10⟩ := cell1 HKa15.out
  have lta2 := lt_of_block HKa25.out
  obtain ⟨ca20, fa20⟩ := cell1 HKa25.out
  go_wp2_with fail
  clear ca10 fa10 lta1 ca20 fa20 lta2
  have lta1 := lt_of_block HKa15.out
  obtain ⟨ca10, fa10⟩ := cell1 HKa15.out
  have lta2 := lt_of_block HKa25.out
  obtain ⟨ca20, fa20⟩ := cell1 HKa25.out
  go_cut [8, 9] from 35 (fun z0 z1 wc => ∃ (b0 : Nat) (pa0 : Option Addr) (ka0 : Nat), z0 = .pointer (some ⟨b0, 0, none⟩) ∧ z1 = .bool r1 ∧ wc.heap[b0]? = some (.cells #[.slice pa0 qs0.length ka0] 34 (0, 0)) ∧ RowsR 1 inC wc (.slice pa0 qs0.length ka0) qs0 ∧ Below w5.heap.size w5 wc)
  case first =>
    clear ca10 fa10 lta1 ca20 fa20 lta2
    have lta1 := lt_of_block HKa15.out
    obtain ⟨ca10, fa10⟩ := cell1 HKa15.out
    have lta2 := lt_of_block HKa25.out
    obtain ⟨ca20, fa20⟩ := cell1 HKa25.out
    have hla1 : w.heap.size < w5.heap.size := lta1
    have hla2 : w.heap.size + 1 < w5.heap.size := lta2
    have HBs5_5 : Hid (Below w5.heap.size w5 w5) := Lib.hid (Below.refl _ _)
    refine wp_region_held_drew (S := (fun w' => w'.cell? ⟨w.heap.size, 0, none⟩ = some (.slice ad1 cs1.length cp1) ∧ w'.cell? ⟨w.heap.size + 1, 0, none⟩ = some (.slice ad2 cs2.length cp2))) (by kernel_rfl) (⟨ca10, ca20⟩) (fun hHeld => ?_)
    have hb : Below w5.heap.size w5 w5.drew := (Below.refl _ _).drew
    generalize w5.drew = w6 at hb hHeld ⊢
    have HB6 : Hid (Below w.heap.size w w6) := Lib.hid (HB5.out.trans (hb.mono HB5.out.size))
    have HZ6 : Hid (w5.heap.size ≤ w6.heap.size) := Lib.hid hb.size
    have HRf06 := Lib.hid (HRf00.out.below HB6.out (Nat.le_refl _))
    have HRf16 := Lib.hid (HRf10.out.below HB6.out (Nat.le_refl _))
    have HRf26 := Lib.hid (HRf20.out.below HB6.out (Nat.le_refl _))
    have HKa16 := Lib.hid ((hb.block _ (lt_of_block HKa15.out)).trans HKa15.out)
    have HKa26 := Lib.hid ((hb.block _ (lt_of_block HKa25.out)).trans HKa25.out)
    have HBs5_6 : Hid (Below w5.heap.size w5 w6) := Lib.hid (HBs5_5.out.trans (hb.mono HBs5_5.out.size))
    clear hb
    clear ca10 fa10 lta1 ca20 fa20 lta2
    have lta1 := lt_of_block HKa16.out
    obtain ⟨ca10, fa10⟩ := cell1 HKa16.out
    have lta2 := lt_of_block HKa26.out
    obtain ⟨ca20, fa20⟩ := cell1 HKa26.out
    refine take1 (i := 0) (v := ?v1) (some 36) rfl rfl (by kernel_rfl) (by kernel_rfl) (by kernel_rfl) (fun _ _ _ h => h) (Or.inl ⟨by rfl, ?y1⟩) (by assumption) ?r1
    case y1 => (intro w hSw; (try dsimp only at hSw); go_simp; (first | done | with_reducible rfl))
    try simp only [Act.put, List.setIfInBounds_toArray, List.set_cons_zero, List.set_cons_succ]
    refine take1 (i := 2) (v := ?v2) (some 38) rfl rfl (by kernel_rfl) (by kernel_rfl) (by kernel_rfl) (fun _ _ _ h => h) (Or.inl ⟨by rfl, ?y2⟩) (by assumption) ?r2
    case y2 => (intro w hSw; (try dsimp only at hSw); go_simp; (first | done | with_reducible rfl))
    try simp only [Act.put, List.setIfInBounds_toArray, List.set_cons_zero, List.set_cons_succ]
    refine take1 (i := 4) (v := ?v3) (some 40) rfl rfl (by kernel_rfl) (by kernel_rfl) (by kernel_rfl) (fun _ _ _ h => h) (Or.inl ⟨by rfl, ?y3⟩) (by assumption) ?r3
    case y3 => (intro w hSw; (try dsimp only at hSw); go_simp; (first | done | with_reducible rfl))
    try simp only [Act.put, List.setIfInBounds_toArray, List.set_cons_zero, List.set_cons_succ]
    refine wpAnyH_ready (rs := [1, 10]) (by kernel_rfl) (by simp) ?_
    refine AllReadyH.cons rfl (fun K hK => ?_) (AllReadyH.cons rfl (fun K hK => ?_) AllReadyH.nil)
    · go_simp
      go_at_call 15
      refine (toUnitS_any _ us0 _ HRf06.out hn0).mono ?_
      rintro e w7 ⟨⟨swc0, rfl, ho⟩, hb⟩
      have HB7 : Hid (Below w.heap.size w w7) := Lib.hid (HB6.out.trans (hb.mono HB6.out.size))
      have HZ7 : Hid (w6.heap.size ≤ w7.heap.size) := Lib.hid hb.size
      have HRf07 := Lib.hid (HRf00.out.below HB7.out (Nat.le_refl _))
      have HRf17 := Lib.hid (HRf10.out.below HB7.out (Nat.le_refl _))
      have HRf27 := Lib.hid (HRf20.out.below HB7.out (Nat.le_refl _))
      have HKa17 := Lib.hid ((hb.block _ (lt_of_block HKa16.out)).trans HKa16.out)
      have HKa27 := Lib.hid ((hb.block _ (lt_of_block HKa26.out)).trans HKa26.out)
      have HBs5_7 : Hid (Below w5.heap.size w5 w7) := Lib.hid (HBs5_6.out.trans (hb.mono HBs5_6.out.size))
      clear hb
      obtain ⟨pwc0, kwc0, rfl⟩ := own_form ho
      have HRwc07 := Lib.hid (RowsR.of_own unC_len ho)
      have HBs7_7 : Hid (Below w7.heap.size w7 w7) := Lib.hid (Below.refl _ _)
      clear ho
      clear ca10 fa10 lta1 ca20 fa20 lta2
      have lta1 := lt_of_block HKa17.out
      obtain ⟨ca10, fa10⟩ := cell1 HKa17.out
      have lta2 := lt_of_block HKa27.out
      obtain ⟨ca20, fa20⟩ := cell1 HKa27.out
      try go_simp
      refine hK.out _ _ (⟨ca10, ca20⟩) (fun hHeld => ?_)
      clear hK K
      try simp only [Act.put, List.setIfInBounds_toArray, List.set_cons_zero, List.set_cons_succ]
      refine wpAnyH_ready (rs := [3, 10]) (by kernel_rfl) (by simp) ?_
      refine AllReadyH.cons rfl (fun K hK => ?_) (AllReadyH.cons rfl (fun K hK => ?_) AllReadyH.nil)
      · go_simp
        go_at_call 20
        refine (toAmount_any _ cs1 _ HRf17.out hn1).mono ?_
        rintro e w8 ⟨⟨swc1, rfl, ho⟩, hb⟩
        have HB8 : Hid (Below w.heap.size w w8) := Lib.hid (HB7.out.trans (hb.mono HB7.out.size))
        have HZ8 : Hid (w7.heap.size ≤ w8.heap.size) := Lib.hid hb.size
        have HRf08 := Lib.hid (HRf00.out.below HB8.out (Nat.le_refl _))
        have HRf18 := Lib.hid (HRf10.out.below HB8.out (Nat.le_refl _))
        have HRf28 := Lib.hid (HRf20.out.below HB8.out (Nat.le_refl _))
        have HKa18 := Lib.hid ((hb.block _ (lt_of_block HKa17.out)).trans HKa17.out)
        have HKa28 := Lib.hid ((hb.block _ (lt_of_block HKa27.out)).trans HKa27.out)
        have HRwc08 := Lib.hid (HRwc07.out.below hb (Nat.le_refl _))
        have HBs5_8 : Hid (Below w5.heap.size w5 w8) := Lib.hid (HBs5_7.out.trans (hb.mono HBs5_7.out.size))
        have HBs7_8 : Hid (Below w7.heap.size w7 w8) := Lib.hid (HBs7_7.out.trans (hb.mono HBs7_7.out.size))
        clear hb
        obtain ⟨pwc1, kwc1, rfl⟩ := ho.form
        have HRwc18 := Lib.hid (ho.reads)
        have HBs8_8 : Hid (Below w8.heap.size w8 w8) := Lib.hid (Below.refl _ _)
        clear ho
        clear ca10 fa10 lta1 ca20 fa20 lta2
        have lta1 := lt_of_block HKa18.out
        obtain ⟨ca10, fa10⟩ := cell1 HKa18.out
        have lta2 := lt_of_block HKa28.out
        obtain ⟨ca20, fa20⟩ := cell1 HKa28.out
        try go_simp
        refine hK.out _ _ (⟨ca10, ca20⟩) (fun hHeld => ?_)
        clear hK K
        try simp only [Act.put, List.setIfInBounds_toArray, List.set_cons_zero, List.set_cons_succ]
        refine wpAnyH_ready (rs := [5, 10]) (by kernel_rfl) (by simp) ?_
        refine AllReadyH.cons rfl (fun K hK => ?_) (AllReadyH.cons rfl (fun K hK => ?_) AllReadyH.nil)
        · go_simp
          go_at_call 20
          refine (toAmount_any _ cs2 _ HRf28.out hn2).mono ?_
          rintro e w9 ⟨⟨swc2, rfl, ho⟩, hb⟩
          have HB9 : Hid (Below w.heap.size w w9) := Lib.hid (HB8.out.trans (hb.mono HB8.out.size))
          have HZ9 : Hid (w8.heap.size ≤ w9.heap.size) := Lib.hid hb.size
          have HRf09 := Lib.hid (HRf00.out.below HB9.out (Nat.le_refl _))
          have HRf19 := Lib.hid (HRf10.out.below HB9.out (Nat.le_refl _))
          have HRf29 := Lib.hid (HRf20.out.below HB9.out (Nat.le_refl _))
          have HKa19 := Lib.hid ((hb.block _ (lt_of_block HKa18.out)).trans HKa18.out)
          have HKa29 := Lib.hid ((hb.block _ (lt_of_block HKa28.out)).trans HKa28.out)
          have HRwc09 := Lib.hid (HRwc08.out.below hb (Nat.le_refl _))
          have HRwc19 := Lib.hid (HRwc18.out.below hb (Nat.le_refl _))
          have HBs5_9 : Hid (Below w5.heap.size w5 w9) := Lib.hid (HBs5_8.out.trans (hb.mono HBs5_8.out.size))
          have HBs7_9 : Hid (Below w7.heap.size w7 w9) := Lib.hid (HBs7_8.out.trans (hb.mono HBs7_8.out.size))
          have HBs8_9 : Hid (Below w8.heap.size w8 w9) := Lib.hid (HBs8_8.out.trans (hb.mono HBs8_8.out.size))
          clear hb
          obtain ⟨pwc2, kwc2, rfl⟩ := ho.form
          have HRwc29 := Lib.hid (ho.reads)
          have HBs9_9 : Hid (Below w9.heap.size w9 w9) := Lib.hid (Below.refl _ _)
          clear ho
          clear ca10 fa10 lta1 ca20 fa20 lta2
          have lta1 := lt_of_block HKa19.out
          obtain ⟨ca10, fa10⟩ := cell1 HKa19.out
          have lta2 := lt_of_block HKa29.out
          obtain ⟨ca20, fa20⟩ := cell1 HKa29.out
          try go_simp
          refine hK.out _ _ (⟨ca10, ca20⟩) (fun hHeld => ?_)
          clear hK K
          try simp only [Act.put, List.setIfInBounds_toArray, List.set_cons_zero, List.set_cons_succ]
          refine wpAnyH_ready (rs := [6, 10]) (by kernel_rfl) (by simp) ?_
          refine AllReadyH.cons rfl (fun K hK => ?_) (AllReadyH.cons rfl (fun K hK => ?_) AllReadyH.nil)
          · go_simp
            go_at_call 30
            refine (HS.out _ _ _ _ HRwc09.out HRwc19.out HRwc29.out).mono ?_
            rintro e w10 ⟨⟨tw0, rfl, ho⟩, hb⟩
            have HB10 : Hid (Below w.heap.size w w10) := Lib.hid (HB9.out.trans (hb.mono HB9.out.size))
            have HZ10 : Hid (w9.heap.size ≤ w10.heap.size) := Lib.hid hb.size
            have HRf010 := Lib.hid (HRf00.out.below HB10.out (Nat.le_refl _))
            have HRf110 := Lib.hid (HRf10.out.below HB10.out (Nat.le_refl _))
            have HRf210 := Lib.hid (HRf20.out.below HB10.out (Nat.le_refl _))
            have HKa110 := Lib.hid ((hb.block _ (lt_of_block HKa19.out)).trans HKa19.out)
            have HKa210 := Lib.hid ((hb.block _ (lt_of_block HKa29.out)).trans HKa29.out)
            have HRwc010 := Lib.hid (HRwc09.out.below hb (Nat.le_refl _))
            have HRwc110 := Lib.hid (HRwc19.out.below hb (Nat.le_refl _))
            have HRwc210 := Lib.hid (HRwc29.out.below hb (Nat.le_refl _))
            have HBs5_10 : Hid (Below w5.heap.size w5 w10) := Lib.hid (HBs5_9.out.trans (hb.mono HBs5_9.out.size))
            have HBs7_10 : Hid (Below w7.heap.size w7 w10) := Lib.hid (HBs7_9.out.trans (hb.mono HBs7_9.out.size))
            have HBs8_10 : Hid (Below w8.heap.size w8 w10) := Lib.hid (HBs8_9.out.trans (hb.mono HBs8_9.out.size))
            have HBs9_10 : Hid (Below w9.heap.size w9 w10) := Lib.hid (HBs9_9.out.trans (hb.mono HBs9_9.out.size))
            clear hb
            obtain ⟨pw0, kw0, rfl⟩ := ho.form
            have HOw10 := Lib.hid (ho)
            clear ho
            clear ca10 fa10 lta1 ca20 fa20 lta2
            have lta1 := lt_of_block HKa110.out
            obtain ⟨ca10, fa10⟩ := cell1 HKa110.out
            have lta2 := lt_of_block HKa210.out
            obtain ⟨ca20, fa20⟩ := cell1 HKa210.out
            try go_simp
            refine hK.out _ _ (⟨ca10, ca20⟩) (fun hHeld => ?_)
            clear hK K
            try simp only [Act.put, List.setIfInBounds_toArray, List.set_cons_zero, List.set_cons_succ]
            refine take1 (i := 7) (v := ?v4) (some 35) rfl rfl (by kernel_rfl) (by kernel_rfl) (by kernel_rfl) (fun _ _ _ h => h) (Or.inl ⟨by rfl, ?y4⟩) (by assumption) ?r4
            case y4 => (intro w hSw; (try dsimp only at hSw); go_simp; (first | done | with_reducible rfl))
            try simp only [Act.put, List.setIfInBounds_toArray, List.set_cons_zero, List.set_cons_succ]
            refine take1 (i := 8) (v := ?v5) (some 43) rfl rfl (by kernel_rfl) (by kernel_rfl) (by kernel_rfl) (fun _ _ _ h => h) (Or.inl ⟨by rfl, ?y5⟩) (by assumption) ?r5
            case y5 => (intro w hSw; (try dsimp only at hSw); go_simp; (first | done | with_reducible rfl))
            try simp only [Act.put, List.setIfInBounds_toArray, List.set_cons_zero, List.set_cons_succ]
            refine take1 (i := 9) (v := ?v6) (some 44) rfl rfl (by kernel_rfl) (by kernel_rfl) (by kernel_rfl) (fun _ _ _ h => h) (Or.inl ⟨by rfl, ?y6⟩) (by assumption) ?r6
            case y6 => (intro w hSw; (try dsimp only at hSw); go_simp; (first | done | with_reducible rfl))
            try simp only [Act.put, List.setIfInBounds_toArray, List.set_cons_zero, List.set_cons_succ]
            refine wpAnyH_ready (rs := [10]) (by kernel_rfl) (by simp) ?_
            refine AllReadyH.cons rfl (fun K hK => ?_) AllReadyH.nil
            go_simp
            have hb : Below w10.heap.size w10 (w10.alloc (.cells #[.slice none 0 0] 34)) := (Below.refl _ _).alloc (Nat.le_refl _) _
            have hk : (w10.alloc (.cells #[.slice none 0 0] 34)).heap[w10.heap.size]? = some (.cells #[.slice none 0 0] 34 (0, 0)) := alloc_at rfl
            have hz : (w10.alloc (.cells #[.slice none 0 0] 34)).heap.size = w10.heap.size + 1 := by simp
            generalize w10.alloc (.cells #[.slice none 0 0] 34) = w11 at hb hk hz ⊢
            have HB11 : Hid (Below w.heap.size w w11) := Lib.hid (HB10.out.trans (hb.mono HB10.out.size))
            have HZ11 : Hid (w10.heap.size ≤ w11.heap.size) := Lib.hid hb.size
            have HRf011 := Lib.hid (HRf00.out.below HB11.out (Nat.le_refl _))
            have HRf111 := Lib.hid (HRf10.out.below HB11.out (Nat.le_refl _))
            have HRf211 := Lib.hid (HRf20.out.below HB11.out (Nat.le_refl _))
            have HKa111 := Lib.hid ((hb.block _ (lt_of_block HKa110.out)).trans HKa110.out)
            have HKa211 := Lib.hid ((hb.block _ (lt_of_block HKa210.out)).trans HKa210.out)
            have HOw11 := Lib.hid (HOw10.out.next hb)
            have HBs5_11 : Hid (Below w5.heap.size w5 w11) := Lib.hid (HBs5_10.out.trans (hb.mono HBs5_10.out.size))
            have HKwb011 := Lib.hid hk
            replace HZ11 : Hid (w10.heap.size < w11.heap.size) := Lib.hid (by omega)
            have HE11 := Lib.hid hz
            clear hb hk hz
            clear ca10 fa10 lta1 ca20 fa20 lta2
            have lta1 := lt_of_block HKa111.out
            obtain ⟨ca10, fa10⟩ := cell1 HKa111.out
            have lta2 := lt_of_block HKa211.out
            obtain ⟨ca20, fa20⟩ := cell1 HKa211.out
            have ltwb0 := lt_of_block HKwb011.out
            obtain ⟨cwb00, fwb00⟩ := cell1 HKwb011.out
            refine hK.out _ _ (⟨ca10, ca20⟩) (fun hHeld => ?_)
            clear hK K
            try simp only [Act.put, List.setIfInBounds_toArray, List.set_cons_zero, List.set_cons_succ]
            refine wpAnyH_ready (rs := [11]) (by kernel_rfl) (by simp) ?_
            refine AllReadyH.cons rfl (fun K hK => ?_) AllReadyH.nil
            go_simp
            have hkb := box1_set HKwb011.out (.slice pw0 qs0.length kw0)
            have hm : Btw w10.heap.size (w10.heap.size + 1) w11 (w11.setCell ⟨w10.heap.size, 0, none⟩ (.slice pw0 qs0.length kw0)) := (Btw.refl (w10.heap.size) (w10.heap.size + 1) w11).setCell (p := ⟨w10.heap.size, 0, none⟩) (Nat.le_refl _) (Nat.lt_succ_self _) _
            generalize w11.setCell ⟨w10.heap.size, 0, none⟩ (.slice pw0 qs0.length kw0) = w12 at hkb hm ⊢
            have HZ12 : Hid (w11.heap.size ≤ w12.heap.size) := Lib.hid hm.size
            have HB12 : Hid (Below w.heap.size w w12) := Lib.hid (HB11.out.trans (hm.below.mono (by have := HZ6.out; have := HZ7.out; have := HZ8.out; have := HZ9.out; have := HZ10.out; have := HZ11.out; have := HB5.out.size; omega)))
            have HRf012 := Lib.hid (HRf00.out.below HB12.out (Nat.le_refl _))
            have HRf112 := Lib.hid (HRf10.out.below HB12.out (Nat.le_refl _))
            have HRf212 := Lib.hid (HRf20.out.below HB12.out (Nat.le_refl _))
            have HKa112 := Lib.hid ((hm.block _ (by have := lt_of_block HKa111.out; have := HZ6.out; have := HZ7.out; have := HZ8.out; have := HZ9.out; have := HZ10.out; have := HZ11.out; omega)).trans HKa111.out)
            have HKa212 := Lib.hid ((hm.block _ (by have := lt_of_block HKa211.out; have := HZ6.out; have := HZ7.out; have := HZ8.out; have := HZ9.out; have := HZ10.out; have := HZ11.out; omega)).trans HKa211.out)
            have HOw12 := Lib.hid (HOw11.out.btw hm (by have := HZ6.out; have := HZ7.out; have := HZ8.out; have := HZ9.out; have := HZ10.out; have := HZ11.out; omega))
            have HBs5_12 : Hid (Below w5.heap.size w5 w12) := Lib.hid (HBs5_11.out.trans (hm.below.mono (by have := HZ6.out; have := HZ7.out; have := HZ8.out; have := HZ9.out; have := HZ10.out; have := HZ11.out; omega)))
            clear hm
            have HKwb012 := Lib.hid (hkb)
            clear hkb
            clear ca10 fa10 lta1 ca20 fa20 lta2 cwb00 fwb00 ltwb0
            have lta1 := lt_of_block HKa112.out
            obtain ⟨ca10, fa10⟩ := cell1 HKa112.out
            have lta2 := lt_of_block HKa212.out
            obtain ⟨ca20, fa20⟩ := cell1 HKa212.out
            have ltwb0 := lt_of_block HKwb012.out
            obtain ⟨cwb00, fwb00⟩ := cell1 HKwb012.out
            refine hK.out _ _ (⟨ca10, ca20⟩) (fun hHeld => ?_)
            clear hK K
            try simp only [Act.put]
            refine take1 (i := 12) (v := ?v7) (some 9) rfl rfl (by kernel_rfl) (by kernel_rfl) (by kernel_rfl) (fun _ _ _ h => h) (Or.inl ⟨by rfl, ?y7⟩) (by assumption) ?r7
            case y7 => (intro w hSw; (try dsimp only at hSw); go_simp; (first | done | with_reducible rfl))
            try simp only [Act.put, List.setIfInBounds_toArray, List.set_cons_zero, List.set_cons_succ]
            refine wpAnyH_done (by kernel_rfl) ?_ _
            go_wp2_with fail
            go_meet
            exact ⟨w10.heap.size, pw0, kw0, rfl, rfl, HKwb012.out, HOw12.out.reads, HBs5_12.out⟩
          · go_simp
            have hb : Below w9.heap.size w9 (w9.alloc (.cells #[.slice none 0 0] 34)) := (Below.refl _ _).alloc (Nat.le_refl _) _
            have hk : (w9.alloc (.cells #[.slice none 0 0] 34)).heap[w9.heap.size]? = some (.cells #[.slice none 0 0] 34 (0, 0)) := alloc_at rfl
            have hz : (w9.alloc (.cells #[.slice none 0 0] 34)).heap.size = w9.heap.size + 1 := by simp
            generalize w9.alloc (.cells #[.slice none 0 0] 34) = w10 at hb hk hz ⊢
            have HB10 : Hid (Below w.heap.size w w10) := Lib.hid (HB9.out.trans (hb.mono HB9.out.size))
            have HZ10 : Hid (w9.heap.size ≤ w10.heap.size) := Lib.hid hb.size
            have HRf010 := Lib.hid (HRf00.out.below HB10.out (Nat.le_refl _))
            have HRf110 := Lib.hid (HRf10.out.below HB10.out (Nat.le_refl _))
            have HRf210 := Lib.hid (HRf20.out.below HB10.out (Nat.le_refl _))
            have HKa110 := Lib.hid ((hb.block _ (lt_of_block HKa19.out)).trans HKa19.out)
            have HKa210 := Lib.hid ((hb.block _ (lt_of_block HKa29.out)).trans HKa29.out)
            have HRwc010 := Lib.hid (HRwc09.out.below hb (Nat.le_refl _))
            have HRwc110 := Lib.hid (HRwc19.out.below hb (Nat.le_refl _))
            have HRwc210 := Lib.hid (HRwc29.out.below hb (Nat.le_refl _))
            have HBs5_10 : Hid (Below w5.heap.size w5 w10) := Lib.hid (HBs5_9.out.trans (hb.mono HBs5_9.out.size))
            have HBs7_10 : Hid (Below w7.heap.size w7 w10) := Lib.hid (HBs7_9.out.trans (hb.mono HBs7_9.out.size))
            have HBs8_10 : Hid (Below w8.heap.size w8 w10) := Lib.hid (HBs8_9.out.trans (hb.mono HBs8_9.out.size))
            have HBs9_10 : Hid (Below w9.heap.size w9 w10) := Lib.hid (HBs9_9.out.trans (hb.mono HBs9_9.out.size))
            have HKwb010 := Lib.hid hk
            replace HZ10 : Hid (w9.heap.size < w10.heap.size) := Lib.hid (by omega)
            have HE10 := Lib.hid hz
            clear hb hk hz
            clear ca10 fa10 lta1 ca20 fa20 lta2
            have lta1 := lt_of_block HKa110.out
            obtain ⟨ca10, fa10⟩ := cell1 HKa110.out
            have lta2 := lt_of_block HKa210.out
            obtain ⟨ca20, fa20⟩ := cell1 HKa210.out
            have ltwb0 := lt_of_block HKwb010.out
            obtain ⟨cwb00, fwb00⟩ := cell1 HKwb010.out
            refine hK.out _ _ (⟨ca10, ca20⟩) (fun hHeld => ?_)
            clear hK K
            try simp only [Act.put, List.setIfInBounds_toArray, List.set_cons_zero, List.set_cons_succ]
            refine wpAnyH_ready (rs := [6]) (by kernel_rfl) (by simp) ?_
            refine AllReadyH.cons rfl (fun K hK => ?_) AllReadyH.nil
            go_simp
            go_at_call 30
            refine (HS.out _ _ _ _ HRwc010.out HRwc110.out HRwc210.out).mono ?_
            rintro e w11 ⟨⟨tw0, rfl, ho⟩, hb⟩
            have HB11 : Hid (Below w.heap.size w w11) := Lib.hid (HB10.out.trans (hb.mono HB10.out.size))
            have HZ11 : Hid (w10.heap.size ≤ w11.heap.size) := Lib.hid hb.size
            have HRf011 := Lib.hid (HRf00.out.below HB11.out (Nat.le_refl _))
            have HRf111 := Lib.hid (HRf10.out.below HB11.out (Nat.le_refl _))
            have HRf211 := Lib.hid (HRf20.out.below HB11.out (Nat.le_refl _))
            have HKa111 := Lib.hid ((hb.block _ (lt_of_block HKa110.out)).trans HKa110.out)
            have HKa211 := Lib.hid ((hb.block _ (lt_of_block HKa210.out)).trans HKa210.out)
            have HRwc011 := Lib.hid (HRwc010.out.below hb (Nat.le_refl _))
            have HRwc111 := Lib.hid (HRwc110.out.below hb (Nat.le_refl _))
            have HRwc211 := Lib.hid (HRwc210.out.below hb (Nat.le_refl _))
            have HKwb011 := Lib.hid ((hb.block _ (lt_of_block HKwb010.out)).trans HKwb010.out)
            have HBs5_11 : Hid (Below w5.heap.size w5 w11) := Lib.hid (HBs5_10.out.trans (hb.mono HBs5_10.out.size))
            have HBs7_11 : Hid (Below w7.heap.size w7 w11) := Lib.hid (HBs7_10.out.trans (hb.mono HBs7_10.out.size))
            have HBs8_11 : Hid (Below w8.heap.size w8 w11) := Lib.hid (HBs8_10.out.trans (hb.mono HBs8_10.out.size))
            have HBs9_11 : Hid (Below w9.heap.size w9 w11) := Lib.hid (HBs9_10.out.trans (hb.mono HBs9_10.out.size))
            clear hb
            obtain ⟨pw0, kw0, rfl⟩ := ho.form
            have HOw11 := Lib.hid (ho)
            clear ho
            clear ca10 fa10 lta1 ca20 fa20 lta2 cwb00 fwb00 ltwb0
            have lta1 := lt_of_block HKa111.out
            obtain ⟨ca10, fa10⟩ := cell1 HKa111.out
            have lta2 := lt_of_block HKa211.out
            obtain ⟨ca20, fa20⟩ := cell1 HKa211.out
            have ltwb0 := lt_of_block HKwb011.out
            obtain ⟨cwb00, fwb00⟩ := cell1 HKwb011.out
            try go_simp
            refine hK.out _ _ (⟨ca10, ca20⟩) (fun hHeld => ?_)
            clear hK K
            try simp only [Act.put, List.setIfInBounds_toArray, List.set_cons_zero, List.set_cons_succ]
            refine take1 (i := 7) (v := ?v8) (some 35) rfl rfl (by kernel_rfl) (by kernel_rfl) (by kernel_rfl) (fun _ _ _ h => h) (Or.inl ⟨by rfl, ?y8⟩) (by assumption) ?r8
            case y8 => (intro w hSw; (try dsimp only at hSw); go_simp; (first | done | with_reducible rfl))
            try simp only [Act.put, List.setIfInBounds_toArray, List.set_cons_zero, List.set_cons_succ]
            refine take1 (i := 8) (v := ?v9) (some 43) rfl rfl (by kernel_rfl) (by kernel_rfl) (by kernel_rfl) (fun _ _ _ h => h) (Or.inl ⟨by rfl, ?y9⟩) (by assumption) ?r9
            case y9 => (intro w hSw; (try dsimp only at hSw); go_simp; (first | done | with_reducible rfl))
            try simp only [Act.put, List.setIfInBounds_toArray, List.set_cons_zero, List.set_cons_succ]
            refine take1 (i := 9) (v := ?v10) (some 44) rfl rfl (by kernel_rfl) (by kernel_rfl) (by kernel_rfl) (fun _ _ _ h => h) (Or.inl ⟨by rfl, ?y10⟩) (by assumption) ?r10
            case y10 => (intro w hSw; (try dsimp only at hSw); go_simp; (first | done | with_reducible rfl))
            try simp only [Act.put, List.setIfInBounds_toArray, List.set_cons_zero, List.set_cons_succ]
            refine wpAnyH_ready (rs := [11]) (by kernel_rfl) (by simp) ?_
            refine AllReadyH.cons rfl (fun K hK => ?_) AllReadyH.nil
            go_simp
            have hkb := box1_set HKwb011.out (.slice pw0 qs0.length kw0)
            have hm : Btw w9.heap.size (w9.heap.size + 1) w11 (w11.setCell ⟨w9.heap.size, 0, none⟩ (.slice pw0 qs0.length kw0)) := (Btw.refl (w9.heap.size) (w9.heap.size + 1) w11).setCell (p := ⟨w9.heap.size, 0, none⟩) (Nat.le_refl _) (Nat.lt_succ_self _) _
            generalize w11.setCell ⟨w9.heap.size, 0, none⟩ (.slice pw0 qs0.length kw0) = w12 at hkb hm ⊢
            have HZ12 : Hid (w11.heap.size ≤ w12.heap.size) := Lib.hid hm.size
            have HB12 : Hid (Below w.heap.size w w12) := Lib.hid (HB11.out.trans (hm.below.mono (by have := HZ6.out; have := HZ7.out; have := HZ8.out; have := HZ9.out; have := HZ10.out; have := HZ11.out; have := HB5.out.size; omega)))
            have HRf012 := Lib.hid (HRf00.out.below HB12.out (Nat.le_refl _))
            have HRf112 := Lib.hid (HRf10.out.below HB12.out (Nat.le_refl _))
            have HRf212 := Lib.hid (HRf20.out.below HB12.out (Nat.le_refl _))
            have HKa112 := Lib.hid ((hm.block _ (by have := lt_of_block HKa111.out; have := HZ6.out; have := HZ7.out; have := HZ8.out; have := HZ9.out; have := HZ10.out; have := HZ11.out; omega)).trans HKa111.out)
            have HKa212 := Lib.hid ((hm.block _ (by have := lt_of_block HKa211.out; have := HZ6.out; have := HZ7.out; have := HZ8.out; have := HZ9.out; have := HZ10.out; have := HZ11.out; omega)).trans HKa211.out)
            have HOw12 := Lib.hid (HOw11.out.btw hm (by have := HZ6.out; have := HZ7.out; have := HZ8.out; have := HZ9.out; have := HZ10.out; have := HZ11.out; omega))
            have HBs5_12 : Hid (Below w5.heap.size w5 w12) := Lib.hid (HBs5_11.out.trans (hm.below.mono (by have := HZ6.out; have := HZ7.out; have := HZ8.out; have := HZ9.out; have := HZ10.out; have := HZ11.out; omega)))
            clear hm
            have HKwb012 := Lib.hid (hkb)
            clear hkb
            clear ca10 fa10 lta1 ca20 fa20 lta2 cwb00 fwb00 ltwb0
            have lta1 := lt_of_block HKa112.out
            obtain ⟨ca10, fa10⟩ := cell1 HKa112.out
            have lta2 := lt_of_block HKa212.out
            obtain ⟨ca20, fa20⟩ := cell1 HKa212.out
            have ltwb0 := lt_of_block HKwb012.out
            obtain ⟨cwb00, fwb00⟩ := cell1 HKwb012.out
            refine hK.out _ _ (⟨ca10, ca20⟩) (fun hHeld => ?_)
            clear hK K
            try simp only [Act.put]
            refine take1 (i := 12) (v := ?v11) (some 9) rfl rfl (by kernel_rfl) (by kernel_rfl) (by kernel_rfl) (fun _ _ _ h => h) (Or.inl ⟨by rfl, ?y11⟩) (by assumption) ?r11
            case y11 => (intro w hSw; (try dsimp only at hSw); go_simp; (first | done | with_reducible rfl))
            try simp only [Act.put, List.setIfInBounds_toArray, List.set_cons_zero, List.set_cons_succ]
            refine wpAnyH_done (by kernel_rfl) ?_ _
            go_wp2_with fail
            go_meet
            exact ⟨w9.heap.size, pw0, kw0, rfl, rfl, HKwb012.out, HOw12.out.reads, HBs5_12.out⟩
        · go_simp
          have hb : Below w8.heap.size w8 (w8.alloc (.cells #[.slice none 0 0] 34)) := (Below.refl _ _).alloc (Nat.le_refl _) _
          have hk : (w8.alloc (.cells #[.slice none 0 0] 34)).heap[w8.heap.size]? = some (.cells #[.slice none 0 0] 34 (0, 0)) := alloc_at rfl
          have hz : (w8.alloc (.cells #[.slice none 0 0] 34)).heap.size = w8.heap.size + 1 := by simp
          generalize w8.alloc (.cells #[.slice none 0 0] 34) = w9 at hb hk hz ⊢
          have HB9 : Hid (Below w.heap.size w w9) := Lib.hid (HB8.out.trans (hb.mono HB8.out.size))
          have HZ9 : Hid (w8.heap.size ≤ w9.heap.size) := Lib.hid hb.size
          have HRf09 := Lib.hid (HRf00.out.below HB9.out (Nat.le_refl _))
          have HRf19 := Lib.hid (HRf10.out.below HB9.out (Nat.le_refl _))
          have HRf29 := Lib.hid (HRf20.out.below HB9.out (Nat.le_refl _))
          have HKa19 := Lib.hid ((hb.block _ (lt_of_block HKa18.out)).trans HKa18.out)
          have HKa29 := Lib.hid ((hb.block _ (lt_of_block HKa28.out)).trans HKa28.out)
          have HRwc09 := Lib.hid (HRwc08.out.below hb (Nat.le_refl _))
          have HRwc19 := Lib.hid (HRwc18.out.below hb (Nat.le_refl _))
          have HBs5_9 : Hid (Below w5.heap.size w5 w9) := Lib.hid (HBs5_8.out.trans (hb.mono HBs5_8.out.size))
          have HBs7_9 : Hid (Below w7.heap.size w7 w9) := Lib.hid (HBs7_8.out.trans (hb.mono HBs7_8.out.size))
          have HBs8_9 : Hid (Below w8.heap.size w8 w9) := Lib.hid (HBs8_8.out.trans (hb.mono HBs8_8.out.size))
          have HKwb09 := Lib.hid hk
          replace HZ9 : Hid (w8.heap.size < w9.heap.size) := Lib.hid (by omega)
          have HE9 := Lib.hid hz
          clear hb hk hz
          clear ca10 fa10 lta1 ca20 fa20 lta2
          have lta1 := lt_of_block HKa19.out
          obtain ⟨ca10, fa10⟩ := cell1 HKa19.out
          have lta2 := lt_of_block HKa29.out
          obtain ⟨ca20, fa20⟩ := cell1 HKa29.out
          have ltwb0 := lt_of_block HKwb09.out
          obtain ⟨cwb00, fwb00⟩ := cell1 HKwb09.out
          refine hK.out _ _ (⟨ca10, ca20⟩) (fun hHeld => ?_)
          clear hK K
          try simp only [Act.put, List.setIfInBounds_toArray, List.set_cons_zero, List.set_cons_succ]
          refine wpAnyH_ready (rs := [5]) (by kernel_rfl) (by simp) ?_
          refine AllReadyH.cons rfl (fun K hK => ?_) AllReadyH.nil
          go_simp
          go_at_call 20
          refine (toAmount_any _ cs2 _ HRf29.out hn2).mono ?_
          rintro e w10 ⟨⟨swc2, rfl, ho⟩, hb⟩
          have HB10 : Hid (Below w.heap.size w w10) := Lib.hid (HB9.out.trans (hb.mono HB9.out.size))
          have HZ10 : Hid (w9.heap.size ≤ w10.heap.size) := Lib.hid hb.size
          have HRf010 := Lib.hid (HRf00.out.below HB10.out (Nat.le_refl _))
          have HRf110 := Lib.hid (HRf10.out.below HB10.out (Nat.le_refl _))
          have HRf210 := Lib.hid (HRf20.out.below HB10.out (Nat.le_refl _))
          have HKa110 := Lib.hid ((hb.block _ (lt_of_block HKa19.out)).trans HKa19.out)
          have HKa210 := Lib.hid ((hb.block _ (lt_of_block HKa29.out)).trans HKa29.out)
          have HRwc010 := Lib.hid (HRwc09.out.below hb (Nat.le_refl _))
          have HRwc110 := Lib.hid (HRwc19.out.below hb (Nat.le_refl _))
          have HKwb010 := Lib.hid ((hb.block _ (lt_of_block HKwb09.out)).trans HKwb09.out)
          have HBs5_10 : Hid (Below w5.heap.size w5 w10) := Lib.hid (HBs5_9.out.trans (hb.mono HBs5_9.out.size))
          have HBs7_10 : Hid (Below w7.heap.size w7 w10) := Lib.hid (HBs7_9.out.trans (hb.mono HBs7_9.out.size))
          have HBs8_10 : Hid (Below w8.heap.size w8 w10) := Lib.hid (HBs8_9.out.trans (hb.mono HBs8_9.out.size))
          clear hb
          obtain ⟨pwc2, kwc2, rfl⟩ := ho.form
          have HRwc210 := Lib.hid (ho.reads)
          have HBs10_10 : Hid (Below w10.heap.size w10 w10) := Lib.hid (Below.refl _ _)
          clear ho
          clear ca10 fa10 lta1 ca20 fa20 lta2 cwb00 fwb00 ltwb0
          have lta1 := lt_of_block HKa110.out
          obtain ⟨ca10, fa10⟩ := cell1 HKa110.out
          have lta2 := lt_of_block HKa210.out
          obtain ⟨ca20, fa20⟩ := cell1 HKa210.out
          have ltwb0 := lt_of_block HKwb010.out
          obtain ⟨cwb00, fwb00⟩ := cell1 HKwb010.out
          try go_simp
          refine hK.out _ _ (⟨ca10, ca20⟩) (fun hHeld => ?_)
          clear hK K
          try simp only [Act.put, List.setIfInBounds_toArray, List.set_cons_zero, List.set_cons_succ]
          refine wpAnyH_ready (rs := [6]) (by kernel_rfl) (by simp) ?_
          refine AllReadyH.cons rfl (fun K hK => ?_) AllReadyH.nil
          go_simp
          go_at_call 30
          refine (HS.out _ _ _ _ HRwc010.out HRwc110.out HRwc210.out).mono ?_
          rintro e w11 ⟨⟨tw0, rfl, ho⟩, hb⟩
          have HB11 : Hid (Below w.heap.size w w11) := Lib.hid (HB10.out.trans (hb.mono HB10.out.size))
          have HZ11 : Hid (w10.heap.size ≤ w11.heap.size) := Lib.hid hb.size
          have HRf011 := Lib.hid (HRf00.out.below HB11.out (Nat.le_refl _))
          have HRf111 := Lib.hid (HRf10.out.below HB11.out (Nat.le_refl _))
          have HRf211 := Lib.hid (HRf20.out.below HB11.out (Nat.le_refl _))
          have HKa111 := Lib.hid ((hb.block _ (lt_of_block HKa110.out)).trans HKa110.out)
          have HKa211 := Lib.hid ((hb.block _ (lt_of_block HKa210.out)).trans HKa210.out)
          have HRwc011 := Lib.hid (HRwc010.out.below hb (Nat.le_refl _))
          have HRwc111 := Lib.hid (HRwc110.out.below hb (Nat.le_refl _))
          have HKwb011 := Lib.hid ((hb.block _ (lt_of_block HKwb010.out)).trans HKwb010.out)
          have HRwc211 := Lib.hid (HRwc210.out.below hb (Nat.le_refl _))
          have HBs5_11 : Hid (Below w5.heap.size w5 w11) := Lib.hid (HBs5_10.out.trans (hb.mono HBs5_10.out.size))
          have HBs7_11 : Hid (Below w7.heap.size w7 w11) := Lib.hid (HBs7_10.out.trans (hb.mono HBs7_10.out.size))
          have HBs8_11 : Hid (Below w8.heap.size w8 w11) := Lib.hid (HBs8_10.out.trans (hb.mono HBs8_10.out.size))
          have HBs10_11 : Hid (Below w10.heap.size w10 w11) := Lib.hid (HBs10_10.out.trans (hb.mono HBs10_10.out.size))
          clear hb
          obtain ⟨pw0, kw0, rfl⟩ := ho.form
          have HOw11 := Lib.hid (ho)
          clear ho
          clear ca10 fa10 lta1 ca20 fa20 lta2 cwb00 fwb00 ltwb0
          have lta1 := lt_of_block HKa111.out
          obtain ⟨ca10, fa10⟩ := cell1 HKa111.out
          have lta2 := lt_of_block HKa211.out
          obtain ⟨ca20, fa20⟩ := cell1 HKa211.out
          have ltwb0 := lt_of_block HKwb011.out
          obtain ⟨cwb00, fwb00⟩ := cell1 HKwb011.out
          try go_simp
          refine hK.out _ _ (⟨ca10, ca20⟩) (fun hHeld => ?_)
          clear hK K
          try simp only [Act.put, List.setIfInBounds_toArray, List.set_cons_zero, List.set_cons_succ]
          refine take1 (i := 7) (v := ?v12) (some 35) rfl rfl (by kernel_rfl) (by kernel_rfl) (by kernel_rfl) (fun _ _ _ h => h) (Or.inl ⟨by rfl, ?y12⟩) (by assumption) ?r12
          case y12 => (intro w hSw; (try dsimp only at hSw); go_simp; (first | done | with_reducible rfl))
          try simp only [Act.put, List.setIfInBounds_toArray, List.set_cons_zero, List.set_cons_succ]
          refine take1 (i := 8) (v := ?v13) (some 43) rfl rfl (by kernel_rfl) (by kernel_rfl) (by kernel_rfl) (fun _ _ _ h => h) (Or.inl ⟨by rfl, ?y13⟩) (by assumption) ?r13
          case y13 => (intro w hSw; (try dsimp only at hSw); go_simp; (first | done | with_reducible rfl))
          try simp only [Act.put, List.setIfInBounds_toArray, List.set_cons_zero, List.set_cons_succ]
          refine take1 (i := 9) (v := ?v14) (some 44) rfl rfl (by kernel_rfl) (by kernel_rfl) (by kernel_rfl) (fun _ _ _ h => h) (Or.inl ⟨by rfl, ?y14⟩) (by assumption) ?r14
          case y14 => (intro w hSw; (try dsimp only at hSw); go_simp; (first | done | with_reducible rfl))
          try simp only [Act.put, List.setIfInBounds_toArray, List.set_cons_zero, List.set_cons_succ]
          refine wpAnyH_ready (rs := [11]) (by kernel_rfl) (by simp) ?_
          refine AllReadyH.cons rfl (fun K hK => ?_) AllReadyH.nil
          go_simp
          have hkb := box1_set HKwb011.out (.slice pw0 qs0.length kw0)
          have hm : Btw w8.heap.size (w8.heap.size + 1) w11 (w11.setCell ⟨w8.heap.size, 0, none⟩ (.slice pw0 qs0.length kw0)) := (Btw.refl (w8.heap.size) (w8.heap.size + 1) w11).setCell (p := ⟨w8.heap.size, 0, none⟩) (Nat.le_refl _) (Nat.lt_succ_self _) _
          generalize w11.setCell ⟨w8.heap.size, 0, none⟩ (.slice pw0 qs0.length kw0) = w12 at hkb hm ⊢
          have HZ12 : Hid (w11.heap.size ≤ w12.heap.size) := Lib.hid hm.size
          have HB12 : Hid (Below w.heap.size w w12) := Lib.hid (HB11.out.trans (hm.below.mono (by have := HZ6.out; have := HZ7.out; have := HZ8.out; have := HZ9.out; have := HZ10.out; have := HZ11.out; have := HB5.out.size; omega)))
          have HRf012 := Lib.hid (HRf00.out.below HB12.out (Nat.le_refl _))
          have HRf112 := Lib.hid (HRf10.out.below HB12.out (Nat.le_refl _))
          have HRf212 := Lib.hid (HRf20.out.below HB12.out (Nat.le_refl _))
          have HKa112 := Lib.hid ((hm.block _ (by have := lt_of_block HKa111.out; have := HZ6.out; have := HZ7.out; have := HZ8.out; have := HZ9.out; have := HZ10.out; have := HZ11.out; omega)).trans HKa111.out)
          have HKa212 := Lib.hid ((hm.block _ (by have := lt_of_block HKa211.out; have := HZ6.out; have := HZ7.out; have := HZ8.out; have := HZ9.out; have := HZ10.out; have := HZ11.out; omega)).trans HKa211.out)
          have HOw12 := Lib.hid (HOw11.out.btw hm (by have := HZ6.out; have := HZ7.out; have := HZ8.out; have := HZ9.out; have := HZ10.out; have := HZ11.out; omega))
          have HBs5_12 : Hid (Below w5.heap.size w5 w12) := Lib.hid (HBs5_11.out.trans (hm.below.mono (by have := HZ6.out; have := HZ7.out; have := HZ8.out; have := HZ9.out; have := HZ10.out; have := HZ11.out; omega)))
          clear hm
          have HKwb012 := Lib.hid (hkb)
          clear hkb
          clear ca10 fa10 lta1 ca20 fa20 lta2 cwb00 fwb00 ltwb0
          have lta1 := lt_of_block HKa112.out
          obtain ⟨ca10, fa10⟩ := cell1 HKa112.out
          have lta2 := lt_of_block HKa212.out
          obtain ⟨ca20, fa20⟩ := cell1 HKa212.out
          have ltwb0 := lt_of_block HKwb012.out
          obtain ⟨cwb00, fwb00⟩ := cell1 HKwb012.out
          refine hK.out _ _ (⟨ca10, ca20⟩) (fun hHeld => ?_)
          clear hK K
          try simp only [Act.put]
          refine take1 (i := 12) (v := ?v15) (some 9) rfl rfl (by kernel_rfl) (by kernel_rfl) (by kernel_rfl) (fun _ _ _ h => h) (Or.inl ⟨by rfl, ?y15⟩) (by assumption) ?r15
          case y15 => (intro w hSw; (try dsimp only at hSw); go_simp; (first | done | with_reducible rfl))
          try simp only [Act.put, List.setIfInBounds_toArray, List.set_cons_zero, List.set_cons_succ]
          refine wpAnyH_done (by kernel_rfl) ?_ _
          go_wp2_with fail
          go_meet
          exact ⟨w8.heap.size, pw0, kw0, rfl, rfl, HKwb012.out, HOw12.out.reads, HBs5_12.out⟩
      · go_simp
        have hb : Below w7.heap.size w7 (w7.alloc (.cells #[.slice none 0 0] 34)) := (Below.refl _ _).alloc (Nat.le_refl _) _
        have hk : (w7.alloc (.cells #[.slice none 0 0] 34)).heap[w7.heap.size]? = some (.cells #[.slice none 0 0] 34 (0, 0)) := alloc_at rfl
        have hz : (w7.alloc (.cells #[.slice none 0 0] 34)).heap.size = w7.heap.size + 1 := by simp
        generalize w7.alloc (.cells #[.slice none 0 0] 34) = w8 at hb hk hz ⊢
        have HB8 : Hid (Below w.heap.size w w8) := Lib.hid (HB7.out.trans (hb.mono HB7.out.size))
        have HZ8 : Hid (w7.heap.size ≤ w8.heap.size) := Lib.hid hb.size
        have HRf08 := Lib.hid (HRf00.out.below HB8.out (Nat.le_refl _))
        have HRf18 := Lib.hid (HRf10.out.below HB8.out (Nat.le_refl _))
        have HRf28 := Lib.hid (HRf20.out.below HB8.out (Nat.le_refl _))
        have HKa18 := Lib.hid ((hb.block _ (lt_of_block HKa17.out)).trans HKa17.out)
        have HKa28 := Lib.hid ((hb.block _ (lt_of_block HKa27.out)).trans HKa27.out)
        have HRwc08 := Lib.hid (HRwc07.out.below hb (Nat.le_refl _))
        have HBs5_8 : Hid (Below w5.heap.size w5 w8) := Lib.hid (HBs5_7.out.trans (hb.mono HBs5_7.out.size))
        have HBs7_8 : Hid (Below w7.heap.size w7 w8) := Lib.hid (HBs7_7.out.trans (hb.mono HBs7_7.out.size))
        have HKwb08 := Lib.hid hk
        replace HZ8 : Hid (w7.heap.size < w8.heap.size) := Lib.hid (by omega)
        have HE8 := Lib.hid hz
        clear hb hk hz
        clear ca10 fa10 lta1 ca20 fa20 lta2
        have lta1 := lt_of_block HKa18.out
        obtain ⟨ca10, fa10⟩ := cell1 HKa18.out
        have lta2 := lt_of_block HKa28.out
        obtain ⟨ca20, fa20⟩ := cell1 HKa28.out
        have ltwb0 := lt_of_block HKwb08.out
        obtain ⟨cwb00, fwb00⟩ := cell1 HKwb08.out
        refine hK.out _ _ (⟨ca10, ca20⟩) (fun hHeld => ?_)
        clear hK K
        try simp only [Act.put, List.setIfInBounds_toArray, List.set_cons_zero, List.set_cons_succ]
        refine wpAnyH_ready (rs := [3]) (by kernel_rfl) (by simp) ?_
        refine AllReadyH.cons rfl (fun K hK => ?_) AllReadyH.nil
        go_simp
        go_at_call 20
        refine (toAmount_any _ cs1 _ HRf18.out hn1).mono ?_
        rintro e w9 ⟨⟨swc1, rfl, ho⟩, hb⟩
        have HB9 : Hid (Below w.heap.size w w9) := Lib.hid (HB8.out.trans (hb.mono HB8.out.size))
        have HZ9 : Hid (w8.heap.size ≤ w9.heap.size) := Lib.hid hb.size
        have HRf09 := Lib.hid (HRf00.out.below HB9.out (Nat.le_refl _))
        have HRf19 := Lib.hid (HRf10.out.below HB9.out (Nat.le_refl _))
        have HRf29 := Lib.hid (HRf20.out.below HB9.out (Nat.le_refl _))
        have HKa19 := Lib.hid ((hb.block _ (lt_of_block HKa18.out)).trans HKa18.out)
        have HKa29 := Lib.hid ((hb.block _ (lt_of_block HKa28.out)).trans HKa28.out)
        have HRwc09 := Lib.hid (HRwc08.out.below hb (Nat.le_refl _))
        have HKwb09 := Lib.hid ((hb.block _ (lt_of_block HKwb08.out)).trans HKwb08.out)
        have HBs5_9 : Hid (Below w5.heap.size w5 w9) := Lib.hid (HBs5_8.out.trans (hb.mono HBs5_8.out.size))
        have HBs7_9 : Hid (Below w7.heap.size w7 w9) := Lib.hid (HBs7_8.out.trans (hb.mono HBs7_8.out.size))
        clear hb
        obtain ⟨pwc1, kwc1, rfl⟩ := ho.form
        have HRwc19 := Lib.hid (ho.reads)
        have HBs9_9 : Hid (Below w9.heap.size w9 w9) := Lib.hid (Below.refl _ _)
        clear ho
        clear ca10 fa10 lta1 ca20 fa20 lta2 cwb00 fwb00 ltwb0
        have lta1 := lt_of_block HKa19.out
        obtain ⟨ca10, fa10⟩ := cell1 HKa19.out
        have lta2 := lt_of_block HKa29.out
        obtain ⟨ca20, fa20⟩ := cell1 HKa29.out
        have ltwb0 := lt_of_block HKwb09.out
        obtain ⟨cwb00, fwb00⟩ := cell1 HKwb09.out
        try go_simp
        refine hK.out _ _ (⟨ca10, ca20⟩) (fun hHeld => ?_)
        clear hK K
        try simp only [Act.put, List.setIfInBounds_toArray, List.set_cons_zero, List.set_cons_succ]
        refine wpAnyH_ready (rs := [5]) (by kernel_rfl) (by simp) ?_
        refine AllReadyH.cons rfl (fun K hK => ?_) AllReadyH.nil
        go_simp
        go_at_call 20
        refine (toAmount_any _ cs2 _ HRf29.out hn2).mono ?_
        rintro e w10 ⟨⟨swc2, rfl, ho⟩, hb⟩
        have HB10 : Hid (Below w.heap.size w w10) := Lib.hid (HB9.out.trans (hb.mono HB9.out.size))
        have HZ10 : Hid (w9.heap.size ≤ w10.heap.size) := Lib.hid hb.size
        have HRf010 := Lib.hid (HRf00.out.below HB10.out (Nat.le_refl _))
        have HRf110 := Lib.hid (HRf10.out.below HB10.out (Nat.le_refl _))
        have HRf210 := Lib.hid (HRf20.out.below HB10.out (Nat.le_refl _))
        have HKa110 := Lib.hid ((hb.block _ (lt_of_block HKa19.out)).trans HKa19.out)
        have HKa210 := Lib.hid ((hb.block _ (lt_of_block HKa29.out)).trans HKa29.out)
        have HRwc010 := Lib.hid (HRwc09.out.below hb (Nat.le_refl _))
        have HKwb010 := Lib.hid ((hb.block _ (lt_of_block HKwb09.out)).trans HKwb09.out)
        have HRwc110 := Lib.hid (HRwc19.out.below hb (Nat.le_refl _))
        have HBs5_10 : Hid (Below w5.heap.size w5 w10) := Lib.hid (HBs5_9.out.trans (hb.mono HBs5_9.out.size))
        have HBs7_10 : Hid (Below w7.heap.size w7 w10) := Lib.hid (HBs7_9.out.trans (hb.mono HBs7_9.out.size))
        have HBs9_10 : Hid (Below w9.heap.size w9 w10) := Lib.hid (HBs9_9.out.trans (hb.mono HBs9_9.out.size))
        clear hb
        obtain ⟨pwc2, kwc2, rfl⟩ := ho.form
        have HRwc210 := Lib.hid (ho.reads)
        have HBs10_10 : Hid (Below w10.heap.size w10 w10) := Lib.hid (Below.refl _ _)
        clear ho
        clear ca10 fa10 lta1 ca20 fa20 lta2 cwb00 fwb00 ltwb0
        have lta1 := lt_of_block HKa110.out
        obtain ⟨ca10, fa10⟩ := cell1 HKa110.out
        have lta2 := lt_of_block HKa210.out
        obtain ⟨ca20, fa20⟩ := cell1 HKa210.out
        have ltwb0 := lt_of_block HKwb010.out
        obtain ⟨cwb00, fwb00⟩ := cell1 HKwb010.out
        try go_simp
        refine hK.out _ _ (⟨ca10, ca20⟩) (fun hHeld => ?_)
        clear hK K
        try simp only [Act.put, List.setIfInBounds_toArray, List.set_cons_zero, List.set_cons_succ]
        refine wpAnyH_ready (rs := [6]) (by kernel_rfl) (by simp) ?_
        refine AllReadyH.cons rfl (fun K hK => ?_) AllReadyH.nil
        go_simp
        go_at_call 30
        refine (HS.out _ _ _ _ HRwc010.out HRwc110.out HRwc210.out).mono ?_
        rintro e w11 ⟨⟨tw0, rfl, ho⟩, hb⟩
        have HB11 : Hid (Below w.heap.size w w11) := Lib.hid (HB10.out.trans (hb.mono HB10.out.size))
        have HZ11 : Hid (w10.heap.size ≤ w11.heap.size) := Lib.hid hb.size
        have HRf011 := Lib.hid (HRf00.out.below HB11.out (Nat.le_refl _))
        have HRf111 := Lib.hid (HRf10.out.below HB11.out (Nat.le_refl _))
        have HRf211 := Lib.hid (HRf20.out.below HB11.out (Nat.le_refl _))
        have HKa111 := Lib.hid ((hb.block _ (lt_of_block HKa110.out)).trans HKa110.out)
        have HKa211 := Lib.hid ((hb.block _ (lt_of_block HKa210.out)).trans HKa210.out)
        have HRwc011 := Lib.hid (HRwc010.out.below hb (Nat.le_refl _))
        have HKwb011 := Lib.hid ((hb.block _ (lt_of_block HKwb010.out)).trans HKwb010.out)
        have HRwc111 := Lib.hid (HRwc110.out.below hb (Nat.le_refl _))
        have HRwc211 := Lib.hid (HRwc210.out.below hb (Nat.le_refl _))
        have HBs5_11 : Hid (Below w5.heap.size w5 w11) := Lib.hid (HBs5_10.out.trans (hb.mono HBs5_10.out.size))
        have HBs7_11 : Hid (Below w7.heap.size w7 w11) := Lib.hid (HBs7_10.out.trans (hb.mono HBs7_10.out.size))
        have HBs9_11 : Hid (Below w9.heap.size w9 w11) := Lib.hid (HBs9_10.out.trans (hb.mono HBs9_10.out.size))
        have HBs10_11 : Hid (Below w10.heap.size w10 w11) := Lib.hid (HBs10_10.out.trans (hb.mono HBs10_10.out.size))
        clear hb
        obtain ⟨pw0, kw0, rfl⟩ := ho.form
        have HOw11 := Lib.hid (ho)
        clear ho
        clear ca10 fa10 lta1 ca20 fa20 lta2 cwb00 fwb00 ltwb0
        have lta1 := lt_of_block HKa111.out
        obtain ⟨ca10, fa10⟩ := cell1 HKa111.out
        have lta2 := lt_of_block HKa211.out
        obtain ⟨ca20, fa20⟩ := cell1 HKa211.out
        have ltwb0 := lt_of_block HKwb011.out
        obtain ⟨cwb00, fwb00⟩ := cell1 HKwb011.out
        try go_simp
        refine hK.out _ _ (⟨ca10, ca20⟩) (fun hHeld => ?_)
        clear hK K
        try simp only [Act.put, List.setIfInBounds_toArray, List.set_cons_zero, List.set_cons_succ]
        refine take1 (i := 7) (v := ?v16) (some 35) rfl rfl (by kernel_rfl) (by kernel_rfl) (by kernel_rfl) (fun _ _ _ h => h) (Or.inl ⟨by rfl, ?y16⟩) (by assumption) ?r16
        case y16 => (intro w hSw; (try dsimp only at hSw); go_simp; (first | done | with_reducible rfl))
        try simp only [Act.put, List.setIfInBounds_toArray, List.set_cons_zero, List.set_cons_succ]
        refine take1 (i := 8) (v := ?v17) (some 43) rfl rfl (by kernel_rfl) (by kernel_rfl) (by kernel_rfl) (fun _ _ _ h => h) (Or.inl ⟨by rfl, ?y17⟩) (by assumption) ?r17
        case y17 => (intro w hSw; (try dsimp only at hSw); go_simp; (first | done | with_reducible rfl))
        try simp only [Act.put, List.setIfInBounds_toArray, List.set_cons_zero, List.set_cons_succ]
        refine take1 (i := 9) (v := ?v18) (some 44) rfl rfl (by kernel_rfl) (by kernel_rfl) (by kernel_rfl) (fun _ _ _ h => h) (Or.inl ⟨by rfl, ?y18⟩) (by assumption) ?r18
        case y18 => (intro w hSw; (try dsimp only at hSw); go_simp; (first | done | with_reducible rfl))
        try simp only [Act.put, List.setIfInBounds_toArray, List.set_cons_zero, List.set_cons_succ]
        refine wpAnyH_ready (rs := [11]) (by kernel_rfl) (by simp) ?_
        refine AllReadyH.cons rfl (fun K hK => ?_) AllReadyH.nil
        go_simp
        have hkb := box1_set HKwb011.out (.slice pw0 qs0.length kw0)
        have hm : Btw w7.heap.size (w7.heap.size + 1) w11 (w11.setCell ⟨w7.heap.size, 0, none⟩ (.slice pw0 qs0.length kw0)) := (Btw.refl (w7.heap.size) (w7.heap.size + 1) w11).setCell (p := ⟨w7.heap.size, 0, none⟩) (Nat.le_refl _) (Nat.lt_succ_self _) _
        generalize w11.setCell ⟨w7.heap.size, 0, none⟩ (.slice pw0 qs0.length kw0) = w12 at hkb hm ⊢
        have HZ12 : Hid (w11.heap.size ≤ w12.heap.size) := Lib.hid hm.size
        have HB12 : Hid (Below w.heap.size w w12) := Lib.hid (HB11.out.trans (hm.below.mono (by have := HZ6.out; have := HZ7.out; have := HZ8.out; have := HZ9.out; have := HZ10.out; have := HZ11.out; have := HB5.out.size; omega)))
        have HRf012 := Lib.hid (HRf00.out.below HB12.out (Nat.le_refl _))
        have HRf112 := Lib.hid (HRf10.out.below HB12.out (Nat.le_refl _))
        have HRf212 := Lib.hid (HRf20.out.below HB12.out (Nat.le_refl _))
        have HKa112 := Lib.hid ((hm.block _ (by have := lt_of_block HKa111.out; have := HZ6.out; have := HZ7.out; have := HZ8.out; have := HZ9.out; have := HZ10.out; have := HZ11.out; omega)).trans HKa111.out)
        have HKa212 := Lib.hid ((hm.block _ (by have := lt_of_block HKa211.out; have := HZ6.out; have := HZ7.out; have := HZ8.out; have := HZ9.out; have := HZ10.out; have := HZ11.out; omega)).trans HKa211.out)
        have HOw12 := Lib.hid (HOw11.out.btw hm (by have := HZ6.out; have := HZ7.out; have := HZ8.out; have := HZ9.out; have := HZ10.out; have := HZ11.out; omega))
        have HBs5_12 : Hid (Below w5.heap.size w5 w12) := Lib.hid (HBs5_11.out.trans (hm.below.mono (by have := HZ6.out; have := HZ7.out; have := HZ8.out; have := HZ9.out; have := HZ10.out; have := HZ11.out; omega)))
        clear hm
        have HKwb012 := Lib.hid (hkb)
        clear hkb
        clear ca10 fa10 lta1 ca20 fa20 lta2 cwb00 fwb00 ltwb0
        have lta1 := lt_of_block HKa112.out
        obtain ⟨ca10, fa10⟩ := cell1 HKa112.out
        have lta2 := lt_of_block HKa212.out
        obtain ⟨ca20, fa20⟩ := cell1 HKa212.out
        have ltwb0 := lt_of_block HKwb012.out
        obtain ⟨cwb00, fwb00⟩ := cell1 HKwb012.out
        refine hK.out _ _ (⟨ca10, ca20⟩) (fun hHeld => ?_)
        clear hK K
        try simp only [Act.put]
        refine take1 (i := 12) (v := ?v19) (some 9) rfl rfl (by kernel_rfl) (by kernel_rfl) (by kernel_rfl) (fun _ _ _ h => h) (Or.inl ⟨by rfl, ?y19⟩) (by assumption) ?r19
        case y19 => (intro w hSw; (try dsimp only at hSw); go_simp; (first | done | with_reducible rfl))
        try simp only [Act.put, List.setIfInBounds_toArray, List.set_cons_zero, List.set_cons_succ]
        refine wpAnyH_done (by kernel_rfl) ?_ _
        go_wp2_with fail
        go_meet
        exact ⟨w7.heap.size, pw0, kw0, rfl, rfl, HKwb012.out, HOw12.out.reads, HBs5_12.out⟩
    · go_simp
      have hb : Below w6.heap.size w6 (w6.alloc (.cells #[.slice none 0 0] 34)) := (Below.refl _ _).alloc (Nat.le_refl _) _
      have hk : (w6.alloc (.cells #[.slice none 0 0] 34)).heap[w6.heap.size]? = some (.cells #[.slice none 0 0] 34 (0, 0)) := alloc_at rfl
      have hz : (w6.alloc (.cells #[.slice none 0 0] 34)).heap.size = w6.heap.size + 1 := by simp
      generalize w6.alloc (.cells #[.slice none 0 0] 34) = w7 at hb hk hz ⊢
      have HB7 : Hid (Below w.heap.size w w7) := Lib.hid (HB6.out.trans (hb.mono HB6.out.size))
      have HZ7 : Hid (w6.heap.size ≤ w7.heap.size) := Lib.hid hb.size
      have HRf07 := Lib.hid (HRf00.out.below HB7.out (Nat.le_refl _))
      have HRf17 := Lib.hid (HRf10.out.below HB7.out (Nat.le_refl _))
      have HRf27 := Lib.hid (HRf20.out.below HB7.out (Nat.le_refl _))
      have HKa17 := Lib.hid ((hb.block _ (lt_of_block HKa16.out)).trans HKa16.out)
      have HKa27 := Lib.hid ((hb.block _ (lt_of_block HKa26.out)).trans HKa26.out)
      have HBs5_7 : Hid (Below w5.heap.size w5 w7) := Lib.hid (HBs5_6.out.trans (hb.mono HBs5_6.out.size))
      have HKwb07 := Lib.hid hk
      replace HZ7 : Hid (w6.heap.size < w7.heap.size) := Lib.hid (by omega)
      have HE7 := Lib.hid hz
      clear hb hk hz
      clear ca10 fa10 lta1 ca20 fa20 lta2
      have lta1 := lt_of_block HKa17.out
      obtain ⟨ca10, fa10⟩ := cell1 HKa17.out
      have lta2 := lt_of_block HKa27.out
      obtain ⟨ca20, fa20⟩ := cell1 HKa27.out
      have ltwb0 := lt_of_block HKwb07.out
      obtain ⟨cwb00, fwb00⟩ := cell1 HKwb07.out
      refine hK.out _ _ (⟨ca10, ca20⟩) (fun hHeld => ?_)
      clear hK K
      try simp only [Act.put, List.setIfInBounds_toArray, List.set_cons_zero, List.set_cons_succ]
      refine wpAnyH_ready (rs := [1]) (by kernel_rfl) (by simp) ?_
      refine AllReadyH.cons rfl (fun K hK => ?_) AllReadyH.nil
      go_simp
      go_at_call 15
      refine (toUnitS_any _ us0 _ HRf07.out hn0).mono ?_
      rintro e w8 ⟨⟨swc0, rfl, ho⟩, hb⟩
      have HB8 : Hid (Below w.heap.size w w8) := Lib.hid (HB7.out.trans (hb.mono HB7.out.size))
      have HZ8 : Hid (w7.heap.size ≤ w8.heap.size) := Lib.hid hb.size
      have HRf08 := Lib.hid (HRf00.out.below HB8.out (Nat.le_refl _))
      have HRf18 := Lib.hid (HRf10.out.below HB8.out (Nat.le_refl _))
      have HRf28 := Lib.hid (HRf20.out.below HB8.out (Nat.le_refl _))
      have HKa18 := Lib.hid ((hb.block _ (lt_of_block HKa17.out)).trans HKa17.out)
      have HKa28 := Lib.hid ((hb.block _ (lt_of_block HKa27.out)).trans HKa27.out)
      have HKwb08 := Lib.hid ((hb.block _ (lt_of_block HKwb07.out)).trans HKwb07.out)
      have HBs5_8 : Hid (Below w5.heap.size w5 w8) := Lib.hid (HBs5_7.out.trans (hb.mono HBs5_7.out.size))
      clear hb
      obtain ⟨pwc0, kwc0, rfl⟩ := own_form ho
      have HRwc08 := Lib.hid (RowsR.of_own unC_len ho)
      have HBs8_8 : Hid (Below w8.heap.size w8 w8) := Lib.hid (Below.refl _ _)
      clear ho
      clear ca10 fa10 lta1 ca20 fa20 lta2 cwb00 fwb00 ltwb0
      have lta1 := lt_of_block HKa18.out
      obtain ⟨ca10, fa10⟩ := cell1 HKa18.out
      have lta2 := lt_of_block HKa28.out
      obtain ⟨ca20, fa20⟩ := cell1 HKa28.out
      have ltwb0 := lt_of_block HKwb08.out
      obtain ⟨cwb00, fwb00⟩ := cell1 HKwb08.out
      try go_simp
      refine hK.out _ _ (⟨ca10, ca20⟩) (fun hHeld => ?_)
      clear hK K
      try simp only [Act.put, List.setIfInBounds_toArray, List.set_cons_zero, List.set_cons_succ]
      refine wpAnyH_ready (rs := [3]) (by kernel_rfl) (by simp) ?_
      refine AllReadyH.cons rfl (fun K hK => ?_) AllReadyH.nil
      go_simp
      go_at_call 20
      refine (toAmount_any _ cs1 _ HRf18.out hn1).mono ?_
      rintro e w9 ⟨⟨swc1, rfl, ho⟩, hb⟩
      have HB9 : Hid (Below w.heap.size w w9) := Lib.hid (HB8.out.trans (hb.mono HB8.out.size))
      have HZ9 : Hid (w8.heap.size ≤ w9.heap.size) := Lib.hid hb.size
      have HRf09 := Lib.hid (HRf00.out.below HB9.out (Nat.le_refl _))
      have HRf19 := Lib.hid (HRf10.out.below HB9.out (Nat.le_refl _))
      have HRf29 := Lib.hid (HRf20.out.below HB9.out (Nat.le_refl _))
      have HKa19 := Lib.hid ((hb.block _ (lt_of_block HKa18.out)).trans HKa18.out)
      have HKa29 := Lib.hid ((hb.block _ (lt_of_block HKa28.out)).trans HKa28.out)
      have HKwb09 := Lib.hid ((hb.block _ (lt_of_block HKwb08.out)).trans HKwb08.out)
      have HRwc09 := Lib.hid (HRwc08.out.below hb (Nat.le_refl _))
      have HBs5_9 : Hid (Below w5.heap.size w5 w9) := Lib.hid (HBs5_8.out.trans (hb.mono HBs5_8.out.size))
      have HBs8_9 : Hid (Below w8.heap.size w8 w9) := Lib.hid (HBs8_8.out.trans (hb.mono HBs8_8.out.size))
      clear hb
      obtain ⟨pwc1, kwc1, rfl⟩ := ho.form
      have HRwc19 := Lib.hid (ho.reads)
      have HBs9_9 : Hid (Below w9.heap.size w9 w9) := Lib.hid (Below.refl _ _)
      clear ho
      clear ca10 fa10 lta1 ca20 fa20 lta2 cwb00 fwb00 ltwb0
      have lta1 := lt_of_block HKa19.out
      obtain ⟨ca10, fa10⟩ := cell1 HKa19.out
      have lta2 := lt_of_block HKa29.out
      obtain ⟨ca20, fa20⟩ := cell1 HKa29.out
      have ltwb0 := lt_of_block HKwb09.out
      obtain ⟨cwb00, fwb00⟩ := cell1 HKwb09.out
      try go_simp
      refine hK.out _ _ (⟨ca10, ca20⟩) (fun hHeld => ?_)
      clear hK K
      try simp only [Act.put, List.setIfInBounds_toArray, List.set_cons_zero, List.set_cons_succ]
      refine wpAnyH_ready (rs := [5]) (by kernel_rfl) (by simp) ?_
      refine AllReadyH.cons rfl (fun K hK => ?_) AllReadyH.nil
      go_simp
      go_at_call 20
      refine (toAmount_any _ cs2 _ HRf29.out hn2).mono ?_
      rintro e w10 ⟨⟨swc2, rfl, ho⟩, hb⟩
      have HB10 : Hid (Below w.heap.size w w10) := Lib.hid (HB9.out.trans (hb.mono HB9.out.size))
      have HZ10 : Hid (w9.heap.size ≤ w10.heap.size) := Lib.hid hb.size
      have HRf010 := Lib.hid (HRf00.out.below HB10.out (Nat.le_refl _))
      have HRf110 := Lib.hid (HRf10.out.below HB10.out (Nat.le_refl _))
      have HRf210 := Lib.hid (HRf20.out.below HB10.out (Nat.le_refl _))
      have HKa110 := Lib.hid ((hb.block _ (lt_of_block HKa19.out)).trans HKa19.out)
      have HKa210 := Lib.hid ((hb.block _ (lt_of_block HKa29.out)).trans HKa29.out)
      have HKwb010 := Lib.hid ((hb.block _ (lt_of_block HKwb09.out)).trans HKwb09.out)
      have HRwc010 := Lib.hid (HRwc09.out.below hb (Nat.le_refl _))
      have HRwc110 := Lib.hid (HRwc19.out.below hb (Nat.le_refl _))
      have HBs5_10 : Hid (Below w5.heap.size w5 w10) := Lib.hid (HBs5_9.out.trans (hb.mono HBs5_9.out.size))
      have HBs8_10 : Hid (Below w8.heap.size w8 w10) := Lib.hid (HBs8_9.out.trans (hb.mono HBs8_9.out.size))
      have HBs9_10 : Hid (Below w9.heap.size w9 w10) := Lib.hid (HBs9_9.out.trans (hb.mono HBs9_9.out.size))
      clear hb
      obtain ⟨pwc2, kwc2, rfl⟩ := ho.form
      have HRwc210 := Lib.hid (ho.reads)
      have HBs10_10 : Hid (Below w10.heap.size w10 w10) := Lib.hid (Below.refl _ _)
      clear ho
      clear ca10 fa10 lta1 ca20 fa20 lta2 cwb00 fwb00 ltwb0
      have lta1 := lt_of_block HKa110.out
      obtain ⟨ca10, fa10⟩ := cell1 HKa110.out
      have lta2 := lt_of_block HKa210.out
      obtain ⟨ca20, fa20⟩ := cell1 HKa210.out
      have ltwb0 := lt_of_block HKwb010.out
      obtain ⟨cwb00, fwb00⟩ := cell1 HKwb010.out
      try go_simp
      refine hK.out _ _ (⟨ca10, ca20⟩) (fun hHeld => ?_)
      clear hK K
      try simp only [Act.put, List.setIfInBounds_toArray, List.set_cons_zero, List.set_cons_succ]
      refine wpAnyH_ready (rs := [6]) (by kernel_rfl) (by simp) ?_
      refine AllReadyH.cons rfl (fun K hK => ?_) AllReadyH.nil
      go_simp
      go_at_call 30
      refine (HS.out _ _ _ _ HRwc010.out HRwc110.out HRwc210.out).mono ?_
      rintro e w11 ⟨⟨tw0, rfl, ho⟩, hb⟩
      have HB11 : Hid (Below w.heap.size w w11) := Lib.hid (HB10.out.trans (hb.mono HB10.out.size))
      have HZ11 : Hid (w10.heap.size ≤ w11.heap.size) := Lib.hid hb.size
      have HRf011 := Lib.hid (HRf00.out.below HB11.out (Nat.le_refl _))
      have HRf111 := Lib.hid (HRf10.out.below HB11.out (Nat.le_refl _))
      have HRf211 := Lib.hid (HRf20.out.below HB11.out (Nat.le_refl _))
      have HKa111 := Lib.hid ((hb.block _ (lt_of_block HKa110.out)).trans HKa110.out)
      have HKa211 := Lib.hid ((hb.block _ (lt_of_block HKa210.out)).trans HKa210.out)
      have HKwb011 := Lib.hid ((hb.block _ (lt_of_block HKwb010.out)).trans HKwb010.out)
      have HRwc011 := Lib.hid (HRwc010.out.below hb (Nat.le_refl _))
      have HRwc111 := Lib.hid (HRwc110.out.below hb (Nat.le_refl _))
      have HRwc211 := Lib.hid (HRwc210.out.below hb (Nat.le_refl _))
      have HBs5_11 : Hid (Below w5.heap.size w5 w11) := Lib.hid (HBs5_10.out.trans (hb.mono HBs5_10.out.size))
      have HBs8_11 : Hid (Below w8.heap.size w8 w11) := Lib.hid (HBs8_10.out.trans (hb.mono HBs8_10.out.size))
      have HBs9_11 : Hid (Below w9.heap.size w9 w11) := Lib.hid (HBs9_10.out.trans (hb.mono HBs9_10.out.size))
      have HBs10_11 : Hid (Below w10.heap.size w10 w11) := Lib.hid (HBs10_10.out.trans (hb.mono HBs10_10.out.size))
      clear hb
      obtain ⟨pw0, kw0, rfl⟩ := ho.form
      have HOw11 := Lib.hid (ho)
      clear ho
      clear ca10 fa10 lta1 ca20 fa20 lta2 cwb00 fwb00 ltwb0
      have lta1 := lt_of_block HKa111.out
      obtain ⟨ca10, fa10⟩ := cell1 HKa111.out
      have lta2 := lt_of_block HKa211.out
      obtain ⟨ca20, fa20⟩ := cell1 HKa211.out
      have ltwb0 := lt_of_block HKwb011.out
      obtain ⟨cwb00, fwb00⟩ := cell1 HKwb011.out
      try go_simp
      refine hK.out _ _ (⟨ca10, ca20⟩) (fun hHeld => ?_)
      clear hK K
      try simp only [Act.put, List.setIfInBounds_toArray, List.set_cons_zero, List.set_cons_succ]
      refine take1 (i := 7) (v := ?v20) (some 35) rfl rfl (by kernel_rfl) (by kernel_rfl) (by kernel_rfl) (fun _ _ _ h => h) (Or.inl ⟨by rfl, ?y20⟩) (by assumption) ?r20
      case y20 => (intro w hSw; (try dsimp only at hSw); go_simp; (first | done | with_reducible rfl))
      try simp only [Act.put, List.setIfInBounds_toArray, List.set_cons_zero, List.set_cons_succ]
      refine take1 (i := 8) (v := ?v21) (some 43) rfl rfl (by kernel_rfl) (by kernel_rfl) (by kernel_rfl) (fun _ _ _ h => h) (Or.inl ⟨by rfl, ?y21⟩) (by assumption) ?r21
      case y21 => (intro w hSw; (try dsimp only at hSw); go_simp; (first | done | with_reducible rfl))
      try simp only [Act.put, List.setIfInBounds_toArray, List.set_cons_zero, List.set_cons_succ]
      refine take1 (i := 9) (v := ?v22) (some 44) rfl rfl (by kernel_rfl) (by kernel_rfl) (by kernel_rfl) (fun _ _ _ h => h) (Or.inl ⟨by rfl, ?y22⟩) (by assumption) ?r22
      case y22 => (intro w hSw; (try dsimp only at hSw); go_simp; (first | done | with_reducible rfl))
      try simp only [Act.put, List.setIfInBounds_toArray, List.set_cons_zero, List.set_cons_succ]
      refine wpAnyH_ready (rs := [11]) (by kernel_rfl) (by simp) ?_
      refine AllReadyH.cons rfl (fun K hK => ?_) AllReadyH.nil
      go_simp
      have hkb := box1_set HKwb011.out (.slice pw0 qs0.length kw0)
      have hm : Btw w6.heap.size (w6.heap.size + 1) w11 (w11.setCell ⟨w6.heap.size, 0, none⟩ (.slice pw0 qs0.length kw0)) := (Btw.refl (w6.heap.size) (w6.heap.size + 1) w11).setCell (p := ⟨w6.heap.size, 0, none⟩) (Nat.le_refl _) (Nat.lt_succ_self _) _
      generalize w11.setCell ⟨w6.heap.size, 0, none⟩ (.slice pw0 qs0.length kw0) = w12 at hkb hm ⊢
      have HZ12 : Hid (w11.heap.size ≤ w12.heap.size) := Lib.hid hm.size
      have HB12 : Hid (Below w.heap.size w w12) := Lib.hid (HB11.out.trans (hm.below.mono (by have := HZ6.out; have := HZ7.out; have := HZ8.out; have := HZ9.out; have := HZ10.out; have := HZ11.out; have := HB5.out.size; omega)))
      have HRf012 := Lib.hid (HRf00.out.below HB12.out (Nat.le_refl _))
      have HRf112 := Lib.hid (HRf10.out.below HB12.out (Nat.le_refl _))
      have HRf212 := Lib.hid (HRf20.out.below HB12.out (Nat.le_refl _))
      have HKa112 := Lib.hid ((hm.block _ (by have := lt_of_block HKa111.out; have := HZ6.out; have := HZ7.out; have := HZ8.out; have := HZ9.out; have := HZ10.out; have := HZ11.out; omega)).trans HKa111.out)
      have HKa212 := Lib.hid ((hm.block _ (by have := lt_of_block HKa211.out; have := HZ6.out; have := HZ7.out; have := HZ8.out; have := HZ9.out; have := HZ10.out; have := HZ11.out; omega)).trans HKa211.out)
      have HOw12 := Lib.hid (HOw11.out.btw hm (by have := HZ6.out; have := HZ7.out; have := HZ8.out; have := HZ9.out; have := HZ10.out; have := HZ11.out; omega))
      have HBs5_12 : Hid (Below w5.heap.size w5 w12) := Lib.hid (HBs5_11.out.trans (hm.below.mono (by have := HZ6.out; have := HZ7.out; have := HZ8.out; have := HZ9.out; have := HZ10.out; have := HZ11.out; omega)))
      clear hm
      have HKwb012 := Lib.hid (hkb)
      clear hkb
      clear ca10 fa10 lta1 ca20 fa20 lta2 cwb00 fwb00 ltwb0
      have lta1 := lt_of_block HKa112.out
      obtain ⟨ca10, fa10⟩ := cell1 HKa112.out
      have lta2 := lt_of_block HKa212.out
      obtain ⟨ca20, fa20⟩ := cell1 HKa212.out
      have ltwb0 := lt_of_block HKwb012.out
      obtain ⟨cwb00, fwb00⟩ := cell1 HKwb012.out
      refine hK.out _ _ (⟨ca10, ca20⟩) (fun hHeld => ?_)
      clear hK K
      try simp only [Act.put]
      refine take1 (i := 12) (v := ?v23) (some 9) rfl rfl (by kernel_rfl) (by kernel_rfl) (by kernel_rfl) (fun _ _ _ h => h) (Or.inl ⟨by rfl, ?y23⟩) (by assumption) ?r23
      case y23 => (intro w hSw; (try dsimp only at hSw); go_simp; (first | done | with_reducible rfl))
      try simp only [Act.put, List.setIfInBounds_toArray, List.set_cons_zero, List.set_cons_succ]
      refine wpAnyH_done (by kernel_rfl) ?_ _
      go_wp2_with fail
      go_meet
      exact ⟨w6.heap.size, pw0, kw0, rfl, rfl, HKwb012.out, HOw12.out.reads, HBs5_12.out⟩
  case rest =>
    obtain ⟨bw0, pw0, kw0, rfl, rfl, hkq0, hrq0, hb⟩ := hcut
    rename World => w6
    have HB6 : Hid (Below w.heap.size w w6) := Lib.hid (HB5.out.trans (hb.mono HB5.out.size))
    have HZ6 : Hid (w5.heap.size ≤ w6.heap.size) := Lib.hid hb.size
    have HRf06 := Lib.hid (HRf00.out.below HB6.out (Nat.le_refl _))
    have HRf16 := Lib.hid (HRf10.out.below HB6.out (Nat.le_refl _))
    have HRf26 := Lib.hid (HRf20.out.below HB6.out (Nat.le_refl _))
    have HKa16 := Lib.hid ((hb.block _ (lt_of_block HKa15.out)).trans HKa15.out)
    have HKa26 := Lib.hid ((hb.block _ (lt_of_block HKa25.out)).trans HKa25.out)
    clear hb
    have hltw0 := lt_of_block hkq0
    have HKwb06 := Lib.hid (hkq0)
    have HRw06 := Lib.hid (hrq0)
    have HBs6_6 : Hid (Below w6.heap.size w6 w6) := Lib.hid (Below.refl _ _)
    clear hkq0 hrq0
    clear ca10 fa10 lta1 ca20 fa20 lta2
    have lta1 := lt_of_block HKa16.out
    obtain ⟨ca10, fa10⟩ := cell1 HKa16.out
    have lta2 := lt_of_block HKa26.out
    obtain ⟨ca20, fa20⟩ := cell1 HKa26.out
    have ltwb0 := lt_of_block HKwb06.out
    obtain ⟨cwb00, fwb00⟩ := cell1 HKwb06.out
    go_wp2_with fail
    refine (toUnitS_any _ us0 _ HRf06.out hn0).mono ?_
    rintro e w7 ⟨⟨sx0, rfl, ho⟩, hb⟩
    have HB7 : Hid (Below w.heap.size w w7) := Lib.hid (HB6.out.trans (hb.mono HB6.out.size))
    have HZ7 : Hid (w6.heap.size ≤ w7.heap.size) := Lib.hid hb.size
    have HRf07 := Lib.hid (HRf00.out.below HB7.out (Nat.le_refl _))
    have HRf17 := Lib.hid (HRf10.out.below HB7.out (Nat.le_refl _))
    have HRf27 := Lib.hid (HRf20.out.below HB7.out (Nat.le_refl _))
    have HKa17 := Lib.hid ((hb.block _ (lt_of_block HKa16.out)).trans HKa16.out)
    have HKa27 := Lib.hid ((hb.block _ (lt_of_block HKa26.out)).trans HKa26.out)
    have HKwb07 := Lib.hid ((hb.block _ (lt_of_block HKwb06.out)).trans HKwb06.out)
    have HRw07 := Lib.hid (HRw06.out.below hb (Nat.le_refl _))
    have HBs6_7 : Hid (Below w6.heap.size w6 w7) := Lib.hid (HBs6_6.out.trans (hb.mono HBs6_6.out.size))
    clear hb
    obtain ⟨px0, kx0, rfl⟩ := own_form ho
    have HOx07 := Lib.hid (Ow.mk' ho)
    clear ho
    clear ca10 fa10 lta1 ca20 fa20 lta2 cwb00 fwb00 ltwb0
    have lta1 := lt_of_block HKa17.out
    obtain ⟨ca10, fa10⟩ := cell1 HKa17.out
    have lta2 := lt_of_block HKa27.out
    obtain ⟨ca20, fa20⟩ := cell1 HKa27.out
    have ltwb0 := lt_of_block HKwb07.out
    obtain ⟨cwb00, fwb00⟩ := cell1 HKwb07.out
    go_wp2_with fail
    refine (toAmount_any _ cs1 _ HRf17.out hn1).mono ?_
    rintro e w8 ⟨⟨sx1, rfl, ho⟩, hb⟩
    have HB8 : Hid (Below w.heap.size w w8) := Lib.hid (HB7.out.trans (hb.mono HB7.out.size))
    have HZ8 : Hid (w7.heap.size ≤ w8.heap.size) := Lib.hid hb.size
    have HRf08 := Lib.hid (HRf00.out.below HB8.out (Nat.le_refl _))
    have HRf18 := Lib.hid (HRf10.out.below HB8.out (Nat.le_refl _))
    have HRf28 := Lib.hid (HRf20.out.below HB8.out (Nat.le_refl _))
    have HKa18 := Lib.hid ((hb.block _ (lt_of_block HKa17.out)).trans HKa17.out)
    have HKa28 := Lib.hid ((hb.block _ (lt_of_block HKa27.out)).trans HKa27.out)
    have HKwb08 := Lib.hid ((hb.block _ (lt_of_block HKwb07.out)).trans HKwb07.out)
    have HRw08 := Lib.hid (HRw07.out.below hb (Nat.le_refl _))
    have HOx08 := Lib.hid (HOx07.out.next hb)
    have HBs6_8 : Hid (Below w6.heap.size w6 w8) := Lib.hid (HBs6_7.out.trans (hb.mono HBs6_7.out.size))
    clear hb
    obtain ⟨px1, kx1, rfl⟩ := ho.form
    have HOx18 := Lib.hid (ho)
    clear ho
    clear ca10 fa10 lta1 ca20 fa20 lta2 cwb00 fwb00 ltwb0
    have lta1 := lt_of_block HKa18.out
    obtain ⟨ca10, fa10⟩ := cell1 HKa18.out
    have lta2 := lt_of_block HKa28.out
    obtain ⟨ca20, fa20⟩ := cell1 HKa28.out
    have ltwb0 := lt_of_block HKwb08.out
    obtain ⟨cwb00, fwb00⟩ := cell1 HKwb08.out
    go_wp2_with fail
    have hb : Below w8.heap.size w8 (w8.alloc (.cells #[.slice px1 cs1.length kx1] 34)) := (Below.refl _ _).alloc (Nat.le_refl _) _
    have hk : (w8.alloc (.cells #[.slice px1 cs1.length kx1] 34)).heap[w8.heap.size]? = some (.cells #[.slice px1 cs1.length kx1] 34 (0, 0)) := alloc_at rfl
    have hz : (w8.alloc (.cells #[.slice px1 cs1.length kx1] 34)).heap.size = w8.heap.size + 1 := by simp
    generalize w8.alloc (.cells #[.slice px1 cs1.length kx1] 34) = w9 at hb hk hz ⊢
    have HB9 : Hid (Below w.heap.size w w9) := Lib.hid (HB8.out.trans (hb.mono HB8.out.size))
    have HZ9 : Hid (w8.heap.size ≤ w9.heap.size) := Lib.hid hb.size
    have HRf09 := Lib.hid (HRf00.out.below HB9.out (Nat.le_refl _))
    have HRf19 := Lib.hid (HRf10.out.below HB9.out (Nat.le_refl _))
    have HRf29 := Lib.hid (HRf20.out.below HB9.out (Nat.le_refl _))
    have HKa19 := Lib.hid ((hb.block _ (lt_of_block HKa18.out)).trans HKa18.out)
    have HKa29 := Lib.hid ((hb.block _ (lt_of_block HKa28.out)).trans HKa28.out)
    have HKwb09 := Lib.hid ((hb.block _ (lt_of_block HKwb08.out)).trans HKwb08.out)
    have HRw09 := Lib.hid (HRw08.out.below hb (Nat.le_refl _))
    have HOx09 := Lib.hid (HOx08.out.next hb)
    have HOx19 := Lib.hid (HOx18.out.next hb)
    have HBs6_9 : Hid (Below w6.heap.size w6 w9) := Lib.hid (HBs6_8.out.trans (hb.mono HBs6_8.out.size))
    have HKx19 := Lib.hid hk
    replace HZ9 : Hid (w8.heap.size < w9.heap.size) := Lib.hid (by omega)
    have HE9 := Lib.hid hz
    clear hb hk hz
    refine (toAmount_any _ cs2 _ HRf29.out hn2).mono ?_
    rintro e w10 ⟨⟨sx2, rfl, ho⟩, hb⟩
    have HB10 : Hid (Below w.heap.size w w10) := Lib.hid (HB9.out.trans (hb.mono HB9.out.size))
    have HZ10 : Hid (w9.heap.size ≤ w10.heap.size) := Lib.hid hb.size
    have HRf010 := Lib.hid (HRf00.out.below HB10.out (Nat.le_refl _))
    have HRf110 := Lib.hid (HRf10.out.below HB10.out (Nat.le_refl _))
    have HRf210 := Lib.hid (HRf20.out.below HB10.out (Nat.le_refl _))
    have HKa110 := Lib.hid ((hb.block _ (lt_of_block HKa19.out)).trans HKa19.out)
    have HKa210 := Lib.hid ((hb.block _ (lt_of_block HKa29.out)).trans HKa29.out)
    have HKwb010 := Lib.hid ((hb.block _ (lt_of_block HKwb09.out)).trans HKwb09.out)
    have HRw010 := Lib.hid (HRw09.out.below hb (Nat.le_refl _))
    have HOx010 := Lib.hid (HOx09.out.next hb)
    have HOx110 := Lib.hid (HOx19.out.next hb)
    have HKx110 := Lib.hid ((hb.block _ (lt_of_block HKx19.out)).trans HKx19.out)
    have HBs6_10 : Hid (Below w6.heap.size w6 w10) := Lib.hid (HBs6_9.out.trans (hb.mono HBs6_9.out.size))
    clear hb
    obtain ⟨px2, kx2, rfl⟩ := ho.form
    have HOx210 := Lib.hid (ho)
    clear ho
    clear ca10 fa10 lta1 ca20 fa20 lta2 cwb00 fwb00 ltwb0
    have lta1 := lt_of_block HKa110.out
    obtain ⟨ca10, fa10⟩ := cell1 HKa110.out
    have lta2 := lt_of_block HKa210.out
    obtain ⟨ca20, fa20⟩ := cell1 HKa210.out
    have ltwb0 := lt_of_block HKwb010.out
    obtain ⟨cwb00, fwb00⟩ := cell1 HKwb010.out
    have ltx1 := lt_of_block HKx110.out
    obtain ⟨cx10, fx10⟩ := cell1 HKx110.out
    go_wp2_with fail
    have hb : Below w10.heap.size w10 (w10.alloc (.cells #[.slice px2 cs2.length kx2] 34)) := (Below.refl _ _).alloc (Nat.le_refl _) _
    have hk : (w10.alloc (.cells #[.slice px2 cs2.length kx2] 34)).heap[w10.heap.size]? = some (.cells #[.slice px2 cs2.length kx2] 34 (0, 0)) := alloc_at rfl
    have hz : (w10.alloc (.cells #[.slice px2 cs2.length kx2] 34)).heap.size = w10.heap.size + 1 := by simp
    generalize w10.alloc (.cells #[.slice px2 cs2.length kx2] 34) = w11 at hb hk hz ⊢
    have HB11 : Hid (Below w.heap.size w w11) := Lib.hid (HB10.out.trans (hb.mono HB10.out.size))
    have HZ11 : Hid (w10.heap.size ≤ w11.heap.size) := Lib.hid hb.size
    have HRf011 := Lib.hid (HRf00.out.below HB11.out (Nat.le_refl _))
    have HRf111 := Lib.hid (HRf10.out.below HB11.out (Nat.le_refl _))
    have HRf211 := Lib.hid (HRf20.out.below HB11.out (Nat.le_refl _))
    have HKa111 := Lib.hid ((hb.block _ (lt_of_block HKa110.out)).trans HKa110.out)
    have HKa211 := Lib.hid ((hb.block _ (lt_of_block HKa210.out)).trans HKa210.out)
    have HKwb011 := Lib.hid ((hb.block _ (lt_of_block HKwb010.out)).trans HKwb010.out)
    have HRw011 := Lib.hid (HRw010.out.below hb (Nat.le_refl _))
    have HOx011 := Lib.hid (HOx010.out.next hb)
    have HOx111 := Lib.hid (HOx110.out.next hb)
    have HKx111 := Lib.hid ((hb.block _ (lt_of_block HKx110.out)).trans HKx110.out)
    have HOx211 := Lib.hid (HOx210.out.next hb)
    have HBs6_11 : Hid (Below w6.heap.size w6 w11) := Lib.hid (HBs6_10.out.trans (hb.mono HBs6_10.out.size))
    have HKx211 := Lib.hid hk
    replace HZ11 : Hid (w10.heap.size < w11.heap.size) := Lib.hid (by omega)
    have HE11 := Lib.hid hz
    clear hb hk hz
    clear ca10 fa10 lta1 ca20 fa20 lta2 cwb00 fwb00 ltwb0 cx10 fx10 ltx1
    have lta1 := lt_of_block HKa111.out
    obtain ⟨ca10, fa10⟩ := cell1 HKa111.out
    have lta2 := lt_of_block HKa211.out
    obtain ⟨ca20, fa20⟩ := cell1 HKa211.out
    have ltwb0 := lt_of_block HKwb011.out
    obtain ⟨cwb00, fwb00⟩ := cell1 HKwb011.out
    have ltx1 := lt_of_block HKx111.out
    obtain ⟨cx10, fx10⟩ := cell1 HKx111.out
    have ltx2 := lt_of_block HKx211.out
    obtain ⟨cx20, fx20⟩ := cell1 HKx211.out
    refine (HI.out _ _ _ _ (RowsR.of_own unC_len HOx011.out.1) HOx111.out.reads HOx211.out.reads).mono ?_
    rintro e w12 ⟨⟨tg0, rfl, ho⟩, hb⟩
    have HB12 : Hid (Below w.heap.size w w12) := Lib.hid (HB11.out.trans (hb.mono HB11.out.size))
    have HZ12 : Hid (w11.heap.size ≤ w12.heap.size) := Lib.hid hb.size
    have HRf012 := Lib.hid (HRf00.out.below HB12.out (Nat.le_refl _))
    have HRf112 := Lib.hid (HRf10.out.below HB12.out (Nat.le_refl _))
    have HRf212 := Lib.hid (HRf20.out.below HB12.out (Nat.le_refl _))
    have HKa112 := Lib.hid ((hb.block _ (lt_of_block HKa111.out)).trans HKa111.out)
    have HKa212 := Lib.hid ((hb.block _ (lt_of_block HKa211.out)).trans HKa211.out)
    have HKwb012 := Lib.hid ((hb.block _ (lt_of_block HKwb011.out)).trans HKwb011.out)
    have HRw012 := Lib.hid (HRw011.out.below hb (Nat.le_refl _))
    have HOx012 := Lib.hid (HOx011.out.next hb)
    have HOx112 := Lib.hid (HOx111.out.next hb)
    have HKx112 := Lib.hid ((hb.block _ (lt_of_block HKx111.out)).trans HKx111.out)
    have HOx212 := Lib.hid (HOx211.out.next hb)
    have HKx212 := Lib.hid ((hb.block _ (lt_of_block HKx211.out)).trans HKx211.out)
    have HBs6_12 : Hid (Below w6.heap.size w6 w12) := Lib.hid (HBs6_11.out.trans (hb.mono HBs6_11.out.size))
    clear hb
    obtain ⟨pg0, kg0, rfl⟩ := ho.form
    have HOg12 := Lib.hid (ho)
    clear ho
    clear ca10 fa10 lta1 ca20 fa20 lta2 cwb00 fwb00 ltwb0 cx10 fx10 ltx1 cx20 fx20 ltx2
    have lta1 := lt_of_block HKa112.out
    obtain ⟨ca10, fa10⟩ := cell1 HKa112.out
    have lta2 := lt_of_block HKa212.out
    obtain ⟨ca20, fa20⟩ := cell1 HKa212.out
    have ltwb0 := lt_of_block HKwb012.out
    obtain ⟨cwb00, fwb00⟩ := cell1 HKwb012.out
    have ltx1 := lt_of_block HKx112.out
    obtain ⟨cx10, fx10⟩ := cell1 HKx112.out
    have ltx2 := lt_of_block HKx212.out
    obtain ⟨cx20, fx20⟩ := cell1 HKx212.out
    go_wp2_with fail
    have hb : Below w12.heap.size w12 (w12.alloc (.cells #[.slice pg0 qs0.length kg0] 34)) := (Below.refl _ _).alloc (Nat.le_refl _) _
    have hk : (w12.alloc (.cells #[.slice pg0 qs0.length kg0] 34)).heap[w12.heap.size]? = some (.cells #[.slice pg0 qs0.length kg0] 34 (0, 0)) := alloc_at rfl
    have hz : (w12.alloc (.cells #[.slice pg0 qs0.length kg0] 34)).heap.size = w12.heap.size + 1 := by simp
    generalize w12.alloc (.cells #[.slice pg0 qs0.length kg0] 34) = w13 at hb hk hz ⊢
    have HB13 : Hid (Below w.heap.size w w13) := Lib.hid (HB12.out.trans (hb.mono HB12.out.size))
    have HZ13 : Hid (w12.heap.size ≤ w13.heap.size) := Lib.hid hb.size
    have HRf013 := Lib.hid (HRf00.out.below HB13.out (Nat.le_refl _))
    have HRf113 := Lib.hid (HRf10.out.below HB13.out (Nat.le_refl _))
    have HRf213 := Lib.hid (HRf20.out.below HB13.out (Nat.le_refl _))
    have HKa113 := Lib.hid ((hb.block _ (lt_of_block HKa112.out)).trans HKa112.out)
    have HKa213 := Lib.hid ((hb.block _ (lt_of_block HKa212.out)).trans HKa212.out)
    have HKwb013 := Lib.hid ((hb.block _ (lt_of_block HKwb012.out)).trans HKwb012.out)
    have HRw013 := Lib.hid (HRw012.out.below hb (Nat.le_refl _))
    have HOx013 := Lib.hid (HOx012.out.next hb)
    have HOx113 := Lib.hid (HOx112.out.next hb)
    have HKx113 := Lib.hid ((hb.block _ (lt_of_block HKx112.out)).trans HKx112.out)
    have HOx213 := Lib.hid (HOx212.out.next hb)
    have HKx213 := Lib.hid ((hb.block _ (lt_of_block HKx212.out)).trans HKx212.out)
    have HOg13 := Lib.hid (HOg12.out.next hb)
    have HBs6_13 : Hid (Below w6.heap.size w6 w13) := Lib.hid (HBs6_12.out.trans (hb.mono HBs6_12.out.size))
    have HKgb013 := Lib.hid hk
    replace HZ13 : Hid (w12.heap.size < w13.heap.size) := Lib.hid (by omega)
    have HE13 := Lib.hid hz
    clear hb hk hz
    clear ca10 fa10 lta1 ca20 fa20 lta2 cwb00 fwb00 ltwb0 cx10 fx10 ltx1 cx20 fx20 ltx2
    have lta1 := lt_of_block HKa113.out
    obtain ⟨ca10, fa10⟩ := cell1 HKa113.out
    have lta2 := lt_of_block HKa213.out
    obtain ⟨ca20, fa20⟩ := cell1 HKa213.out
    have ltwb0 := lt_of_block HKwb013.out
    obtain ⟨cwb00, fwb00⟩ := cell1 HKwb013.out
    have ltx1 := lt_of_block HKx113.out
    obtain ⟨cx10, fx10⟩ := cell1 HKx113.out
    have ltx2 := lt_of_block HKx213.out
    obtain ⟨cx20, fx20⟩ := cell1 HKx213.out
    have ltgb0 := lt_of_block HKgb013.out
    obtain ⟨cgb00, fgb00⟩ := cell1 HKgb013.out
    refine (eqAmount_yes _ _ qs0 _ HOg13.out.reads HRw013.out).mono ?_
    rintro e w14 ⟨rfl, hb⟩
    have HB14 : Hid (Below w.heap.size w w14) := Lib.hid (HB13.out.trans (hb.mono HB13.out.size))
    have HZ14 : Hid (w13.heap.size ≤ w14.heap.size) := Lib.hid hb.size
    have HRf014 := Lib.hid (HRf00.out.below HB14.out (Nat.le_refl _))
    have HRf114 := Lib.hid (HRf10.out.below HB14.out (Nat.le_refl _))
    have HRf214 := Lib.hid (HRf20.out.below HB14.out (Nat.le_refl _))
    have HKa114 := Lib.hid ((hb.block _ (lt_of_block HKa113.out)).trans HKa113.out)
    have HKa214 := Lib.hid ((hb.block _ (lt_of_block HKa213.out)).trans HKa213.out)
    have HKwb014 := Lib.hid ((hb.block _ (lt_of_block HKwb013.out)).trans HKwb013.out)
    have HRw014 := Lib.hid (HRw013.out.below hb (Nat.le_refl _))
    have HOx014 := Lib.hid (HOx013.out.next hb)
    have HOx114 := Lib.hid (HOx113.out.next hb)
    have HKx114 := Lib.hid ((hb.block _ (lt_of_block HKx113.out)).trans HKx113.out)
    have HOx214 := Lib.hid (HOx213.out.next hb)
    have HKx214 := Lib.hid ((hb.block _ (lt_of_block HKx213.out)).trans HKx213.out)
    have HOg14 := Lib.hid (HOg13.out.next hb)
    have HKgb014 := Lib.hid ((hb.block _ (lt_of_block HKgb013.out)).trans HKgb013.out)
    have HBs6_14 : Hid (Below w6.heap.size w6 w14) := Lib.hid (HBs6_13.out.trans (hb.mono HBs6_13.out.size))
    clear hb
    clear ca10 fa10 lta1 ca20 fa20 lta2 cwb00 fwb00 ltwb0 cx10 fx10 ltx1 cx20 fx20 ltx2 cgb00 fgb00 ltgb0
    have lta1 := lt_of_block HKa114.out
    obtain ⟨ca10, fa10⟩ := cell1 HKa114.out
    have lta2 := lt_of_block HKa214.out
    obtain ⟨ca20, fa20⟩ := cell1 HKa214.out
    have ltwb0 := lt_of_block HKwb014.out
    obtain ⟨cwb00, fwb00⟩ := cell1 HKwb014.out
    have ltx1 := lt_of_block HKx114.out
    obtain ⟨cx10, fx10⟩ := cell1 HKx114.out
    have ltx2 := lt_of_block HKx214.out
    obtain ⟨cx20, fx20⟩ := cell1 HKx214.out
    have ltgb0 := lt_of_block HKgb014.out
    obtain ⟨cgb00, fgb00⟩ := cell1 HKgb014.out
    go_wp2_with fail
    refine (toUnitS_any _ us0 _ HRf014.out hn0).mono ?_
    rintro e w15 ⟨⟨sy0, rfl, ho⟩, hb⟩
    have HB15 : Hid (Below w.heap.size w w15) := Lib.hid (HB14.out.trans (hb.mono HB14.out.size))
    have HZ15 : Hid (w14.heap.size ≤ w15.heap.size) := Lib.hid hb.size
    have HRf015 := Lib.hid (HRf00.out.below HB15.out (Nat.le_refl _))
    have HRf115 := Lib.hid (HRf10.out.below HB15.out (Nat.le_refl _))
    have HRf215 := Lib.hid (HRf20.out.below HB15.out (Nat.le_refl _))
    have HKa115 := Lib.hid ((hb.block _ (lt_of_block HKa114.out)).trans HKa114.out)
    have HKa215 := Lib.hid ((hb.block _ (lt_of_block HKa214.out)).trans HKa214.out)
    have HKwb015 := Lib.hid ((hb.block _ (lt_of_block HKwb014.out)).trans HKwb014.out)
    have HRw015 := Lib.hid (HRw014.out.below hb (Nat.le_refl _))
    have HOx015 := Lib.hid (HOx014.out.next hb)
    have HOx115 := Lib.hid (HOx114.out.next hb)
    have HKx115 := Lib.hid ((hb.block _ (lt_of_block HKx114.out)).trans HKx114.out)
    have HOx215 := Lib.hid (HOx214.out.next hb)
    have HKx215 := Lib.hid ((hb.block _ (lt_of_block HKx214.out)).trans HKx214.out)
    have HOg15 := Lib.hid (HOg14.out.next hb)
    have HKgb015 := Lib.hid ((hb.block _ (lt_of_block HKgb014.out)).trans HKgb014.out)
    have HBs6_15 : Hid (Below w6.heap.size w6 w15) := Lib.hid (HBs6_14.out.trans (hb.mono HBs6_14.out.size))
    clear hb
    obtain ⟨py0, ky0, rfl⟩ := own_form ho
    have HRy015 := Lib.hid (RowsR.of_own unC_len ho)
    have HBs15_15 : Hid (Below w15.heap.size w15 w15) := Lib.hid (Below.refl _ _)
    clear ho
    clear ca10 fa10 lta1 ca20 fa20 lta2 cwb00 fwb00 ltwb0 cx10 fx10 ltx1 cx20 fx20 ltx2 cgb00 fgb00 ltgb0
    have lta1 := lt_of_block HKa115.out
    obtain ⟨ca10, fa10⟩ := cell1 HKa115.out
    have lta2 := lt_of_block HKa215.out
    obtain ⟨ca20, fa20⟩ := cell1 HKa215.out
    have ltwb0 := lt_of_block HKwb015.out
    obtain ⟨cwb00, fwb00⟩ := cell1 HKwb015.out
    have ltx1 := lt_of_block HKx115.out
    obtain ⟨cx10, fx10⟩ := cell1 HKx115.out
    have ltx2 := lt_of_block HKx215.out
    obtain ⟨cx20, fx20⟩ := cell1 HKx215.out
    have ltgb0 := lt_of_block HKgb015.out
    obtain ⟨cgb00, fgb00⟩ := cell1 HKgb015.out
    go_wp2_with fail
    refine (eqUnitS_yes _ _ us0 _ (RowsR.of_own unC_len HOx015.out.1) HRy015.out).mono ?_
    rintro e w16 ⟨rfl, hb⟩
    have HB16 : Hid (Below w.heap.size w w16) := Lib.hid (HB15.out.trans (hb.mono HB15.out.size))
    have HZ16 : Hid (w15.heap.size ≤ w16.heap.size) := Lib.hid hb.size
    have HRf016 := Lib.hid (HRf00.out.below HB16.out (Nat.le_refl _))
    have HRf116 := Lib.hid (HRf10.out.below HB16.out (Nat.le_refl _))
    have HRf216 := Lib.hid (HRf20.out.below HB16.out (Nat.le_refl _))
    have HKa116 := Lib.hid ((hb.block _ (lt_of_block HKa115.out)).trans HKa115.out)
    have HKa216 := Lib.hid ((hb.block _ (lt_of_block HKa215.out)).trans HKa215.out)
    have HKwb016 := Lib.hid ((hb.block _ (lt_of_block HKwb015.out)).trans HKwb015.out)
    have HRw016 := Lib.hid (HRw015.out.below hb (Nat.le_refl _))
    have HOx016 := Lib.hid (HOx015.out.next hb)
    have HOx116 := Lib.hid (HOx115.out.next hb)
    have HKx116 := Lib.hid ((hb.block _ (lt_of_block HKx115.out)).trans HKx115.out)
    have HOx216 := Lib.hid (HOx215.out.next hb)
    have HKx216 := Lib.hid ((hb.block _ (lt_of_block HKx215.out)).trans HKx215.out)
    have HOg16 := Lib.hid (HOg15.out.next hb)
    have HKgb016 := Lib.hid ((hb.block _ (lt_of_block HKgb015.out)).trans HKgb015.out)
    have HRy016 := Lib.hid (HRy015.out.below hb (Nat.le_refl _))
    have HBs6_16 : Hid (Below w6.heap.size w6 w16) := Lib.hid (HBs6_15.out.trans (hb.mono HBs6_15.out.size))
    have HBs15_16 : Hid (Below w15.heap.size w15 w16) := Lib.hid (HBs15_15.out.trans (hb.mono HBs15_15.out.size))
    clear hb
    clear ca10 fa10 lta1 ca20 fa20 lta2 cwb00 fwb00 ltwb0 cx10 fx10 ltx1 cx20 fx20 ltx2 cgb00 fgb00 ltgb0
    have lta1 := lt_of_block HKa116.out
    obtain ⟨ca10, fa10⟩ := cell1 HKa116.out
    have lta2 := lt_of_block HKa216.out
    obtain ⟨ca20, fa20⟩ := cell1 HKa216.out
    have ltwb0 := lt_of_block HKwb016.out
    obtain ⟨cwb00, fwb00⟩ := cell1 HKwb016.out
    have ltx1 := lt_of_block HKx116.out
    obtain ⟨cx10, fx10⟩ := cell1 HKx116.out
    have ltx2 := lt_of_block HKx216.out
    obtain ⟨cx20, fx20⟩ := cell1 HKx216.out
    have ltgb0 := lt_of_block HKgb016.out
    obtain ⟨cgb00, fgb00⟩ := cell1 HKgb016.out
    go_wp2_with fail
    clear ca10 fa10 lta1 ca20 fa20 lta2 cwb00 fwb00 ltwb0 cx10 fx10 ltx1 cx20 fx20 ltx2 cgb00 fgb00 ltgb0
    have lta1 := lt_of_block HKa116.out
    obtain ⟨ca10, fa10⟩ := cell1 HKa116.out
    have lta2 := lt_of_block HKa216.out
    obtain ⟨ca20, fa20⟩ := cell1 HKa216.out
    have ltwb0 := lt_of_block HKwb016.out
    obtain ⟨cwb00, fwb00⟩ := cell1 HKwb016.out
    have ltx1 := lt_of_block HKx116.out
    obtain ⟨cx10, fx10⟩ := cell1 HKx116.out
    have ltx2 := lt_of_block HKx216.out
    obtain ⟨cx20, fx20⟩ := cell1 HKx216.out
    have ltgb0 := lt_of_block HKgb016.out
    obtain ⟨cgb00, fgb00⟩ := cell1 HKgb016.out
    go_region_held3 (fun w' => w'.cell? ⟨w8.heap.size, 0, none⟩ = some (.slice px1 cs1.length kx1) ∧ w'.cell? ⟨w.heap.size, 0, none⟩ = some (.slice ad1 cs1.length cp1))
      (first
        | go_keep
        | exact ⟨(hq1.cell (p := ⟨w8.heap.size, 0, none⟩) ltx1).trans cx10, (hq1.cell (p := ⟨w.heap.size, 0, none⟩) lta1).trans ca10⟩)
      (first
        | (go_at_call 20; refine (toAmount_any _ cs1 _ (HRf10.out.below HB16.out.drew (Nat.le_refl _)) hn1).mono ?_; rintro e w17 ⟨⟨s7, rfl, hown7⟩, hq1⟩; obtain ⟨p7, k7, rfl⟩ := hown7.form)
        | (go_at_call 22; refine (eqAmount_yes _ _ cs1 _ (HOx116.out.reads.below ((Below.refl _ w16).drew.trans hq1) (Nat.le_refl _)) hown7.reads).mono ?_; rintro e w17 ⟨rfl, hq2⟩; replace hq1 := hq1.trans (hq2.mono hq1.size); clear hq2))
    have hb := (Below.refl _ w16).drew.trans hq1
    clear hq1 hown7
    have HB17 : Hid (Below w.heap.size w w17) := Lib.hid (HB16.out.trans (hb.mono HB16.out.size))
    have HZ17 : Hid (w16.heap.size ≤ w17.heap.size) := Lib.hid hb.size
    have HRf017 := Lib.hid (HRf00.out.below HB17.out (Nat.le_refl _))
    have HRf117 := Lib.hid (HRf10.out.below HB17.out (Nat.le_refl _))
    have HRf217 := Lib.hid (HRf20.out.below HB17.out (Nat.le_refl _))
    have HKa117 := Lib.hid ((hb.block _ (lt_of_block HKa116.out)).trans HKa116.out)
    have HKa217 := Lib.hid ((hb.block _ (lt_of_block HKa216.out)).trans HKa216.out)
    have HKwb017 := Lib.hid ((hb.block _ (lt_of_block HKwb016.out)).trans HKwb016.out)
    have HRw017 := Lib.hid (HRw016.out.below hb (Nat.le_refl _))
    have HOx017 := Lib.hid (HOx016.out.next hb)
    have HOx117 := Lib.hid (HOx116.out.next hb)
    have HKx117 := Lib.hid ((hb.block _ (lt_of_block HKx116.out)).trans HKx116.out)
    have HOx217 := Lib.hid (HOx216.out.next hb)
    have HKx217 := Lib.hid ((hb.block _ (lt_of_block HKx216.out)).trans HKx216.out)
    have HOg17 := Lib.hid (HOg16.out.next hb)
    have HKgb017 := Lib.hid ((hb.block _ (lt_of_block HKgb016.out)).trans HKgb016.out)
    have HBs6_17 : Hid (Below w6.heap.size w6 w17) := Lib.hid (HBs6_16.out.trans (hb.mono HBs6_16.out.size))
    clear hb
    clear ca10 fa10 lta1 ca20 fa20 lta2 cwb00 fwb00 ltwb0 cx10 fx10 ltx1 cx20 fx20 ltx2 cgb00 fgb00 ltgb0
    have lta1 := lt_of_block HKa117.out
    obtain ⟨ca10, fa10⟩ := cell1 HKa117.out
    have lta2 := lt_of_block HKa217.out
    obtain ⟨ca20, fa20⟩ := cell1 HKa217.out
    have ltwb0 := lt_of_block HKwb017.out
    obtain ⟨cwb00, fwb00⟩ := cell1 HKwb017.out
    have ltx1 := lt_of_block HKx117.out
    obtain ⟨cx10, fx10⟩ := cell1 HKx117.out
    have ltx2 := lt_of_block HKx217.out
    obtain ⟨cx20, fx20⟩ := cell1 HKx217.out
    have ltgb0 := lt_of_block HKgb017.out
    obtain ⟨cgb00, fgb00⟩ := cell1 HKgb017.out
    go_wp2_with fail
    clear ca10 fa10 lta1 ca20 fa20 lta2 cwb00 fwb00 ltwb0 cx10 fx10 ltx1 cx20 fx20 ltx2 cgb00 fgb00 ltgb0
    have lta1 := lt_of_block HKa117.out
    obtain ⟨ca10, fa10⟩ := cell1 HKa117.out
    have lta2 := lt_of_block HKa217.out
    obtain ⟨ca20, fa20⟩ := cell1 HKa217.out
    have ltwb0 := lt_of_block HKwb017.out
    obtain ⟨cwb00, fwb00⟩ := cell1 HKwb017.out
    have ltx1 := lt_of_block HKx117.out
    obtain ⟨cx10, fx10⟩ := cell1 HKx117.out
    have ltx2 := lt_of_block HKx217.out
    obtain ⟨cx20, fx20⟩ := cell1 HKx217.out
    have ltgb0 := lt_of_block HKgb017.out
    obtain ⟨cgb00, fgb00⟩ := cell1 HKgb017.out
    go_region_held3 (fun w' => w'.cell? ⟨w10.heap.size, 0, none⟩ = some (.slice px2 cs2.length kx2) ∧ w'.cell? ⟨w.heap.size + 1, 0, none⟩ = some (.slice ad2 cs2.length cp2))
      (first
        | go_keep
        | exact ⟨(hq1.cell (p := ⟨w10.heap.size, 0, none⟩) ltx2).trans cx20, (hq1.cell (p := ⟨w.heap.size + 1, 0, none⟩) lta2).trans ca20⟩)
      (first
        | (go_at_call 20; refine (toAmount_any _ cs2 _ (HRf20.out.below HB17.out.drew (Nat.le_refl _)) hn2).mono ?_; rintro e w18 ⟨⟨s7, rfl, hown7⟩, hq1⟩; obtain ⟨p7, k7, rfl⟩ := hown7.form)
        | (go_at_call 22; refine (eqAmount_yes _ _ cs2 _ (HOx217.out.reads.below ((Below.refl _ w17).drew.trans hq1) (Nat.le_refl _)) hown7.reads).mono ?_; rintro e w18 ⟨rfl, hq2⟩; replace hq1 := hq1.trans (hq2.mono hq1.size); clear hq2))
    have hb := (Below.refl _ w17).drew.trans hq1
    clear hq1 hown7
    have HB18 : Hid (Below w.heap.size w w18) := Lib.hid (HB17.out.trans (hb.mono HB17.out.size))
    have HZ18 : Hid (w17.heap.size ≤ w18.heap.size) := Lib.hid hb.size
    have HRf018 := Lib.hid (HRf00.out.below HB18.out (Nat.le_refl _))
    have HRf118 := Lib.hid (HRf10.out.below HB18.out (Nat.le_refl _))
    have HRf218 := Lib.hid (HRf20.out.below HB18.out (Nat.le_refl _))
    have HKa118 := Lib.hid ((hb.block _ (lt_of_block HKa117.out)).trans HKa117.out)
    have HKa218 := Lib.hid ((hb.block _ (lt_of_block HKa217.out)).trans HKa217.out)
    have HKwb018 := Lib.hid ((hb.block _ (lt_of_block HKwb017.out)).trans HKwb017.out)
    have HRw018 := Lib.hid (HRw017.out.below hb (Nat.le_refl _))
    have HOx018 := Lib.hid (HOx017.out.next hb)
    have HOx118 := Lib.hid (HOx117.out.next hb)
    have HKx118 := Lib.hid ((hb.block _ (lt_of_block HKx117.out)).trans HKx117.out)
    have HOx218 := Lib.hid (HOx217.out.next hb)
    have HKx218 := Lib.hid ((hb.block _ (lt_of_block HKx217.out)).trans HKx217.out)
    have HOg18 := Lib.hid (HOg17.out.next hb)
    have HKgb018 := Lib.hid ((hb.block _ (lt_of_block HKgb017.out)).trans HKgb017.out)
    have HBs6_18 : Hid (Below w6.heap.size w6 w18) := Lib.hid (HBs6_17.out.trans (hb.mono HBs6_17.out.size))
    clear hb
    clear ca10 fa10 lta1 ca20 fa20 lta2 cwb00 fwb00 ltwb0 cx10 fx10 ltx1 cx20 fx20 ltx2 cgb00 fgb00 ltgb0
    have lta1 := lt_of_block HKa118.out
    obtain ⟨ca10, fa10⟩ := cell1 HKa118.out
    have lta2 := lt_of_block HKa218.out
    obtain ⟨ca20, fa20⟩ := cell1 HKa218.out
    have ltwb0 := lt_of_block HKwb018.out
    obtain ⟨cwb00, fwb00⟩ := cell1 HKwb018.out
    have ltx1 := lt_of_block HKx118.out
    obtain ⟨cx10, fx10⟩ := cell1 HKx118.out
    have ltx2 := lt_of_block HKx218.out
    obtain ⟨cx20, fx20⟩ := cell1 HKx218.out
    have ltgb0 := lt_of_block HKgb018.out
    obtain ⟨cgb00, fgb00⟩ := cell1 HKgb018.out
    go_wp2_with fail
    refine (markUnitS_any _ us0.length (1) _ _ _ _ _ HOx018.out hn0 (by omega) (by have := HZ1.out; have := HZ2.out; have := HZ3.out; have := HZ4.out; have := HZ5.out; have := HZ6.out; have := HZ7.out; have := HZ8.out; have := HZ9.out; have := HZ10.out; have := HZ11.out; have := HZ12.out; have := HZ13.out; have := HZ14.out; have := HZ15.out; have := HZ16.out; have := HZ17.out; have := HZ18.out;  omega)).mono ?_
    rintro e w19 ⟨rfl, ho, hm⟩
    have HZ19 : Hid (w18.heap.size ≤ w19.heap.size) := Lib.hid hm.size
    have HB19 : Hid (Below w.heap.size w w19) := Lib.hid (HB18.out.trans (hm.below.mono (by have := HZ1.out; have := HZ2.out; have := HZ3.out; have := HZ4.out; have := HZ5.out; have := HZ6.out; have := HZ7.out; have := HZ8.out; have := HZ9.out; have := HZ10.out; have := HZ11.out; have := HZ12.out; have := HZ13.out; have := HZ14.out; have := HZ15.out; have := HZ16.out; have := HZ17.out; have := HZ18.out; have := HB0.out.size; omega)))
    have HRf019 := Lib.hid (HRf00.out.below HB19.out (Nat.le_refl _))
    have HRf119 := Lib.hid (HRf10.out.below HB19.out (Nat.le_refl _))
    have HRf219 := Lib.hid (HRf20.out.below HB19.out (Nat.le_refl _))
    have HKa119 := Lib.hid ((hm.block _ (by have := lt_of_block HKa118.out; have := HZ1.out; have := HZ2.out; have := HZ3.out; have := HZ4.out; have := HZ5.out; have := HZ6.out; have := HZ7.out; have := HZ8.out; have := HZ9.out; have := HZ10.out; have := HZ11.out; have := HZ12.out; have := HZ13.out; have := HZ14.out; have := HZ15.out; have := HZ16.out; have := HZ17.out; have := HZ18.out; omega)).trans HKa118.out)
    have HKa219 := Lib.hid ((hm.block _ (by have := lt_of_block HKa218.out; have := HZ1.out; have := HZ2.out; have := HZ3.out; have := HZ4.out; have := HZ5.out; have := HZ6.out; have := HZ7.out; have := HZ8.out; have := HZ9.out; have := HZ10.out; have := HZ11.out; have := HZ12.out; have := HZ13.out; have := HZ14.out; have := HZ15.out; have := HZ16.out; have := HZ17.out; have := HZ18.out; omega)).trans HKa218.out)
    have HKwb019 := Lib.hid ((hm.block _ (by have := lt_of_block HKwb018.out; have := HZ1.out; have := HZ2.out; have := HZ3.out; have := HZ4.out; have := HZ5.out; have := HZ6.out; have := HZ7.out; have := HZ8.out; have := HZ9.out; have := HZ10.out; have := HZ11.out; have := HZ12.out; have := HZ13.out; have := HZ14.out; have := HZ15.out; have := HZ16.out; have := HZ17.out; have := HZ18.out; omega)).trans HKwb018.out)
    have HRw019 := Lib.hid (HRw06.out.below (HBs6_18.out.trans (hm.below.mono (by have := HZ1.out; have := HZ2.out; have := HZ3.out; have := HZ4.out; have := HZ5.out; have := HZ6.out; have := HZ7.out; have := HZ8.out; have := HZ9.out; have := HZ10.out; have := HZ11.out; have := HZ12.out; have := HZ13.out; have := HZ14.out; have := HZ15.out; have := HZ16.out; have := HZ17.out; have := HZ18.out; omega))) (Nat.le_refl _))
    have HOx119 := Lib.hid (HOx118.out.btw hm (by have := HZ1.out; have := HZ2.out; have := HZ3.out; have := HZ4.out; have := HZ5.out; have := HZ6.out; have := HZ7.out; have := HZ8.out; have := HZ9.out; have := HZ10.out; have := HZ11.out; have := HZ12.out; have := HZ13.out; have := HZ14.out; have := HZ15.out; have := HZ16.out; have := HZ17.out; have := HZ18.out; omega))
    have HKx119 := Lib.hid ((hm.block _ (by have := lt_of_block HKx118.out; have := HZ1.out; have := HZ2.out; have := HZ3.out; have := HZ4.out; have := HZ5.out; have := HZ6.out; have := HZ7.out; have := HZ8.out; have := HZ9.out; have := HZ10.out; have := HZ11.out; have := HZ12.out; have := HZ13.out; have := HZ14.out; have := HZ15.out; have := HZ16.out; have := HZ17.out; have := HZ18.out; omega)).trans HKx118.out)
    have HOx219 := Lib.hid (HOx218.out.btw hm (by have := HZ1.out; have := HZ2.out; have := HZ3.out; have := HZ4.out; have := HZ5.out; have := HZ6.out; have := HZ7.out; have := HZ8.out; have := HZ9.out; have := HZ10.out; have := HZ11.out; have := HZ12.out; have := HZ13.out; have := HZ14.out; have := HZ15.out; have := HZ16.out; have := HZ17.out; have := HZ18.out; omega))
    have HKx219 := Lib.hid ((hm.block _ (by have := lt_of_block HKx218.out; have := HZ1.out; have := HZ2.out; have := HZ3.out; have := HZ4.out; have := HZ5.out; have := HZ6.out; have := HZ7.out; have := HZ8.out; have := HZ9.out; have := HZ10.out; have := HZ11.out; have := HZ12.out; have := HZ13.out; have := HZ14.out; have := HZ15.out; have := HZ16.out; have := HZ17.out; have := HZ18.out; omega)).trans HKx218.out)
    have HOg19 := Lib.hid (HOg18.out.btw hm (by have := HZ1.out; have := HZ2.out; have := HZ3.out; have := HZ4.out; have := HZ5.out; have := HZ6.out; have := HZ7.out; have := HZ8.out; have := HZ9.out; have := HZ10.out; have := HZ11.out; have := HZ12.out; have := HZ13.out; have := HZ14.out; have := HZ15.out; have := HZ16.out; have := HZ17.out; have := HZ18.out; omega))
    have HKgb019 := Lib.hid ((hm.block _ (by have := lt_of_block HKgb018.out; have := HZ1.out; have := HZ2.out; have := HZ3.out; have := HZ4.out; have := HZ5.out; have := HZ6.out; have := HZ7.out; have := HZ8.out; have := HZ9.out; have := HZ10.out; have := HZ11.out; have := HZ12.out; have := HZ13.out; have := HZ14.out; have := HZ15.out; have := HZ16.out; have := HZ17.out; have := HZ18.out; omega)).trans HKgb018.out)
    have HBs6_19 : Hid (Below w6.heap.size w6 w19) := Lib.hid (HBs6_18.out.trans (hm.below.mono (by have := HZ1.out; have := HZ2.out; have := HZ3.out; have := HZ4.out; have := HZ5.out; have := HZ6.out; have := HZ7.out; have := HZ8.out; have := HZ9.out; have := HZ10.out; have := HZ11.out; have := HZ12.out; have := HZ13.out; have := HZ14.out; have := HZ15.out; have := HZ16.out; have := HZ17.out; have := HZ18.out; omega)))
    clear hm
    clear ho
    clear ca10 fa10 lta1 ca20 fa20 lta2 cwb00 fwb00 ltwb0 cx10 fx10 ltx1 cx20 fx20 ltx2 cgb00 fgb00 ltgb0
    have lta1 := lt_of_block HKa119.out
    obtain ⟨ca10, fa10⟩ := cell1 HKa119.out
    have lta2 := lt_of_block HKa219.out
    obtain ⟨ca20, fa20⟩ := cell1 HKa219.out
    have ltwb0 := lt_of_block HKwb019.out
    obtain ⟨cwb00, fwb00⟩ := cell1 HKwb019.out
    have ltx1 := lt_of_block HKx119.out
    obtain ⟨cx10, fx10⟩ := cell1 HKx119.out
    have ltx2 := lt_of_block HKx219.out
    obtain ⟨cx20, fx20⟩ := cell1 HKx219.out
    have ltgb0 := lt_of_block HKgb019.out
    obtain ⟨cgb00, fgb00⟩ := cell1 HKgb019.out
    go_wp2_with fail
    refine (markAmount_at _ cs1 _ _ _ HOx119.out hn1 (1 + 2 * (us0.length : Int)) (by omega) (by have := HZ1.out; have := HZ2.out; have := HZ3.out; have := HZ4.out; have := HZ5.out; have := HZ6.out; have := HZ7.out; have := HZ8.out; have := HZ9.out; have := HZ10.out; have := HZ11.out; have := HZ12.out; have := HZ13.out; have := HZ14.out; have := HZ15.out; have := HZ16.out; have := HZ17.out; have := HZ18.out; have := HZ19.out;  omega) (by have := HZ1.out; have := HZ2.out; have := HZ3.out; have := HZ4.out; have := HZ5.out; have := HZ6.out; have := HZ7.out; have := HZ8.out; have := HZ9.out; have := HZ10.out; have := HZ11.out; have := HZ12.out; have := HZ13.out; have := HZ14.out; have := HZ15.out; have := HZ16.out; have := HZ17.out; have := HZ18.out; have := HZ19.out;  omega) (by have := HZ1.out; have := HZ2.out; have := HZ3.out; have := HZ4.out; have := HZ5.out; have := HZ6.out; have := HZ7.out; have := HZ8.out; have := HZ9.out; have := HZ10.out; have := HZ11.out; have := HZ12.out; have := HZ13.out; have := HZ14.out; have := HZ15.out; have := HZ16.out; have := HZ17.out; have := HZ18.out; have := HZ19.out;  omega)).mono ?_
    rintro e w20 ⟨rfl, ho, hm⟩
    have HZ20 : Hid (w19.heap.size ≤ w20.heap.size) := Lib.hid hm.size
    have HB20 : Hid (Below w.heap.size w w20) := Lib.hid (HB19.out.trans (hm.below.mono (by have := HZ1.out; have := HZ2.out; have := HZ3.out; have := HZ4.out; have := HZ5.out; have := HZ6.out; have := HZ7.out; have := HZ8.out; have := HZ9.out; have := HZ10.out; have := HZ11.out; have := HZ12.out; have := HZ13.out; have := HZ14.out; have := HZ15.out; have := HZ16.out; have := HZ17.out; have := HZ18.out; have := HZ19.out; have := HB0.out.size; omega)))
    have HRf020 := Lib.hid (HRf00.out.below HB20.out (Nat.le_refl _))
    have HRf120 := Lib.hid (HRf10.out.below HB20.out (Nat.le_refl _))
    have HRf220 := Lib.hid (HRf20.out.below HB20.out (Nat.le_refl _))
    have HKa120 := Lib.hid ((hm.block _ (by have := lt_of_block HKa119.out; have := HZ1.out; have := HZ2.out; have := HZ3.out; have := HZ4.out; have := HZ5.out; have := HZ6.out; have := HZ7.out; have := HZ8.out; have := HZ9.out; have := HZ10.out; have := HZ11.out; have := HZ12.out; have := HZ13.out; have := HZ14.out; have := HZ15.out; have := HZ16.out; have := HZ17.out; have := HZ18.out; have := HZ19.out; omega)).trans HKa119.out)
    have HKa220 := Lib.hid ((hm.block _ (by have := lt_of_block HKa219.out; have := HZ1.out; have := HZ2.out; have := HZ3.out; have := HZ4.out; have := HZ5.out; have := HZ6.out; have := HZ7.out; have := HZ8.out; have := HZ9.out; have := HZ10.out; have := HZ11.out; have := HZ12.out; have := HZ13.out; have := HZ14.out; have := HZ15.out; have := HZ16.out; have := HZ17.out; have := HZ18.out; have := HZ19.out; omega)).trans HKa219.out)
    have HKwb020 := Lib.hid ((hm.block _ (by have := lt_of_block HKwb019.out; have := HZ1.out; have := HZ2.out; have := HZ3.out; have := HZ4.out; have := HZ5.out; have := HZ6.out; have := HZ7.out; have := HZ8.out; have := HZ9.out; have := HZ10.out; have := HZ11.out; have := HZ12.out; have := HZ13.out; have := HZ14.out; have := HZ15.out; have := HZ16.out; have := HZ17.out; have := HZ18.out; have := HZ19.out; omega)).trans HKwb019.out)
    have HRw020 := Lib.hid (HRw06.out.below (HBs6_19.out.trans (hm.below.mono (by have := HZ1.out; have := HZ2.out; have := HZ3.out; have := HZ4.out; have := HZ5.out; have := HZ6.out; have := HZ7.out; have := HZ8.out; have := HZ9.out; have := HZ10.out; have := HZ11.out; have := HZ12.out; have := HZ13.out; have := HZ14.out; have := HZ15.out; have := HZ16.out; have := HZ17.out; have := HZ18.out; have := HZ19.out; omega))) (Nat.le_refl _))
    have HOx220 := Lib.hid (HOx219.out.btw hm (by have := HZ1.out; have := HZ2.out; have := HZ3.out; have := HZ4.out; have := HZ5.out; have := HZ6.out; have := HZ7.out; have := HZ8.out; have := HZ9.out; have := HZ10.out; have := HZ11.out; have := HZ12.out; have := HZ13.out; have := HZ14.out; have := HZ15.out; have := HZ16.out; have := HZ17.out; have := HZ18.out; have := HZ19.out; omega))
    have HKx220 := Lib.hid ((hm.block _ (by have := lt_of_block HKx219.out; have := HZ1.out; have := HZ2.out; have := HZ3.out; have := HZ4.out; have := HZ5.out; have := HZ6.out; have := HZ7.out; have := HZ8.out; have := HZ9.out; have := HZ10.out; have := HZ11.out; have := HZ12.out; have := HZ13.out; have := HZ14.out; have := HZ15.out; have := HZ16.out; have := HZ17.out; have := HZ18.out; have := HZ19.out; omega)).trans HKx219.out)
    have HOg20 := Lib.hid (HOg19.out.btw hm (by have := HZ1.out; have := HZ2.out; have := HZ3.out; have := HZ4.out; have := HZ5.out; have := HZ6.out; have := HZ7.out; have := HZ8.out; have := HZ9.out; have := HZ10.out; have := HZ11.out; have := HZ12.out; have := HZ13.out; have := HZ14.out; have := HZ15.out; have := HZ16.out; have := HZ17.out; have := HZ18.out; have := HZ19.out; omega))
    have HKgb020 := Lib.hid ((hm.block _ (by have := lt_of_block HKgb019.out; have := HZ1.out; have := HZ2.out; have := HZ3.out; have := HZ4.out; have := HZ5.out; have := HZ6.out; have := HZ7.out; have := HZ8.out; have := HZ9.out; have := HZ10.out; have := HZ11.out; have := HZ12.out; have := HZ13.out; have := HZ14.out; have := HZ15.out; have := HZ16.out; have := HZ17.out; have := HZ18.out; have := HZ19.out; omega)).trans HKgb019.out)
    have HBs6_20 : Hid (Below w6.heap.size w6 w20) := Lib.hid (HBs6_19.out.trans (hm.below.mono (by have := HZ1.out; have := HZ2.out; have := HZ3.out; have := HZ4.out; have := HZ5.out; have := HZ6.out; have := HZ7.out; have := HZ8.out; have := HZ9.out; have := HZ10.out; have := HZ11.out; have := HZ12.out; have := HZ13.out; have := HZ14.out; have := HZ15.out; have := HZ16.out; have := HZ17.out; have := HZ18.out; have := HZ19.out; omega)))
    clear hm
    clear ho
    clear ca10 fa10 lta1 ca20 fa20 lta2 cwb00 fwb00 ltwb0 cx10 fx10 ltx1 cx20 fx20 ltx2 cgb00 fgb00 ltgb0
    have lta1 := lt_of_block HKa120.out
    obtain ⟨ca10, fa10⟩ := cell1 HKa120.out
    have lta2 := lt_of_block HKa220.out
    obtain ⟨ca20, fa20⟩ := cell1 HKa220.out
    have ltwb0 := lt_of_block HKwb020.out
    obtain ⟨cwb00, fwb00⟩ := cell1 HKwb020.out
    have ltx2 := lt_of_block HKx220.out
    obtain ⟨cx20, fx20⟩ := cell1 HKx220.out
    have ltgb0 := lt_of_block HKgb020.out
    obtain ⟨cgb00, fgb00⟩ := cell1 HKgb020.out
    go_wp2_with fail
    refine (markAmount_at _ cs2 _ _ _ HOx220.out hn2 (1 + 2 * (us0.length : Int) + (cs1.length : Int)) (by omega) (by have := HZ1.out; have := HZ2.out; have := HZ3.out; have := HZ4.out; have := HZ5.out; have := HZ6.out; have := HZ7.out; have := HZ8.out; have := HZ9.out; have := HZ10.out; have := HZ11.out; have := HZ12.out; have := HZ13.out; have := HZ14.out; have := HZ15.out; have := HZ16.out; have := HZ17.out; have := HZ18.out; have := HZ19.out; have := HZ20.out;  omega) (by have := HZ1.out; have := HZ2.out; have := HZ3.out; have := HZ4.out; have := HZ5.out; have := HZ6.out; have := HZ7.out; have := HZ8.out; have := HZ9.out; have := HZ10.out; have := HZ11.out; have := HZ12.out; have := HZ13.out; have := HZ14.out; have := HZ15.out; have := HZ16.out; have := HZ17.out; have := HZ18.out; have := HZ19.out; have := HZ20.out;  omega) (by have := HZ1.out; have := HZ2.out; have := HZ3.out; have := HZ4.out; have := HZ5.out; have := HZ6.out; have := HZ7.out; have := HZ8.out; have := HZ9.out; have := HZ10.out; have := HZ11.out; have := HZ12.out; have := HZ13.out; have := HZ14.out; have := HZ15.out; have := HZ16.out; have := HZ17.out; have := HZ18.out; have := HZ19.out; have := HZ20.out;  omega)).mono ?_
    rintro e w21 ⟨rfl, ho, hm⟩
    have HZ21 : Hid (w20.heap.size ≤ w21.heap.size) := Lib.hid hm.size
    have HB21 : Hid (Below w.heap.size w w21) := Lib.hid (HB20.out.trans (hm.below.mono (by have := HZ1.out; have := HZ2.out; have := HZ3.out; have := HZ4.out; have := HZ5.out; have := HZ6.out; have := HZ7.out; have := HZ8.out; have := HZ9.out; have := HZ10.out; have := HZ11.out; have := HZ12.out; have := HZ13.out; have := HZ14.out; have := HZ15.out; have := HZ16.out; have := HZ17.out; have := HZ18.out; have := HZ19.out; have := HZ20.out; have := HB0.out.size; omega)))
    have HRf021 := Lib.hid (HRf00.out.below HB21.out (Nat.le_refl _))
    have HRf121 := Lib.hid (HRf10.out.below HB21.out (Nat.le_refl _))
    have HRf221 := Lib.hid (HRf20.out.below HB21.out (Nat.le_refl _))
    have HKa121 := Lib.hid ((hm.block _ (by have := lt_of_block HKa120.out; have := HZ1.out; have := HZ2.out; have := HZ3.out; have := HZ4.out; have := HZ5.out; have := HZ6.out; have := HZ7.out; have := HZ8.out; have := HZ9.out; have := HZ10.out; have := HZ11.out; have := HZ12.out; have := HZ13.out; have := HZ14.out; have := HZ15.out; have := HZ16.out; have := HZ17.out; have := HZ18.out; have := HZ19.out; have := HZ20.out; omega)).trans HKa120.out)
    have HKa221 := Lib.hid ((hm.block _ (by have := lt_of_block HKa220.out; have := HZ1.out; have := HZ2.out; have := HZ3.out; have := HZ4.out; have := HZ5.out; have := HZ6.out; have := HZ7.out; have := HZ8.out; have := HZ9.out; have := HZ10.out; have := HZ11.out; have := HZ12.out; have := HZ13.out; have := HZ14.out; have := HZ15.out; have := HZ16.out; have := HZ17.out; have := HZ18.out; have := HZ19.out; have := HZ20.out; omega)).trans HKa220.out)
    have HKwb021 := Lib.hid ((hm.block _ (by have := lt_of_block HKwb020.out; have := HZ1.out; have := HZ2.out; have := HZ3.out; have := HZ4.out; have := HZ5.out; have := HZ6.out; have := HZ7.out; have := HZ8.out; have := HZ9.out; have := HZ10.out; have := HZ11.out; have := HZ12.out; have := HZ13.out; have := HZ14.out; have := HZ15.out; have := HZ16.out; have := HZ17.out; have := HZ18.out; have := HZ19.out; have := HZ20.out; omega)).trans HKwb020.out)
    have HRw021 := Lib.hid (HRw06.out.below (HBs6_20.out.trans (hm.below.mono (by have := HZ1.out; have := HZ2.out; have := HZ3.out; have := HZ4.out; have := HZ5.out; have := HZ6.out; have := HZ7.out; have := HZ8.out; have := HZ9.out; have := HZ10.out; have := HZ11.out; have := HZ12.out; have := HZ13.out; have := HZ14.out; have := HZ15.out; have := HZ16.out; have := HZ17.out; have := HZ18.out; have := HZ19.out; have := HZ20.out; omega))) (Nat.le_refl _))
    have HOg21 := Lib.hid (HOg20.out.btw hm (by have := HZ1.out; have := HZ2.out; have := HZ3.out; have := HZ4.out; have := HZ5.out; have := HZ6.out; have := HZ7.out; have := HZ8.out; have := HZ9.out; have := HZ10.out; have := HZ11.out; have := HZ12.out; have := HZ13.out; have := HZ14.out; have := HZ15.out; have := HZ16.out; have := HZ17.out; have := HZ18.out; have := HZ19.out; have := HZ20.out; omega))
    have HKgb021 := Lib.hid ((hm.block _ (by have := lt_of_block HKgb020.out; have := HZ1.out; have := HZ2.out; have := HZ3.out; have := HZ4.out; have := HZ5.out; have := HZ6.out; have := HZ7.out; have := HZ8.out; have := HZ9.out; have := HZ10.out; have := HZ11.out; have := HZ12.out; have := HZ13.out; have := HZ14.out; have := HZ15.out; have := HZ16.out; have := HZ17.out; have := HZ18.out; have := HZ19.out; have := HZ20.out; omega)).trans HKgb020.out)
    have HBs6_21 : Hid (Below w6.heap.size w6 w21) := Lib.hid (HBs6_20.out.trans (hm.below.mono (by have := HZ1.out; have := HZ2.out; have := HZ3.out; have := HZ4.out; have := HZ5.out; have := HZ6.out; have := HZ7.out; have := HZ8.out; have := HZ9.out; have := HZ10.out; have := HZ11.out; have := HZ12.out; have := HZ13.out; have := HZ14.out; have := HZ15.out; have := HZ16.out; have := HZ17.out; have := HZ18.out; have := HZ19.out; have := HZ20.out; omega)))
    clear hm
    clear ho
    have hxk : ¬ (1 + 2 * (us0.length : Int) + (cs1.length : Int) + (cs2.length : Int) < 0) := by omega
    clear ca10 fa10 lta1 ca20 fa20 lta2 cwb00 fwb00 ltwb0 cx20 fx20 ltx2 cgb00 fgb00 ltgb0
    have lta1 := lt_of_block HKa121.out
    obtain ⟨ca10, fa10⟩ := cell1 HKa121.out
    have lta2 := lt_of_block HKa221.out
    obtain ⟨ca20, fa20⟩ := cell1 HKa221.out
    have ltwb0 := lt_of_block HKwb021.out
    obtain ⟨cwb00, fwb00⟩ := cell1 HKwb021.out
    have ltgb0 := lt_of_block HKgb021.out
    obtain ⟨cgb00, fgb00⟩ := cell1 HKgb021.out
    go_wp2_with fail
    refine (eqAmount_yes _ _ qs0 _ HOg21.out.reads HRw021.out).mono ?_
    rintro e w22 ⟨rfl, hb⟩
    have HB22 : Hid (Below w.heap.size w w22) := Lib.hid (HB21.out.trans (hb.mono HB21.out.size))
    have HZ22 : Hid (w21.heap.size ≤ w22.heap.size) := Lib.hid hb.size
    have HRf022 := Lib.hid (HRf00.out.below HB22.out (Nat.le_refl _))
    have HRf122 := Lib.hid (HRf10.out.below HB22.out (Nat.le_refl _))
    have HRf222 := Lib.hid (HRf20.out.below HB22.out (Nat.le_refl _))
    have HKa122 := Lib.hid ((hb.block _ (lt_of_block HKa121.out)).trans HKa121.out)
    have HKa222 := Lib.hid ((hb.block _ (lt_of_block HKa221.out)).trans HKa221.out)
    have HKwb022 := Lib.hid ((hb.block _ (lt_of_block HKwb021.out)).trans HKwb021.out)
    have HRw022 := Lib.hid (HRw021.out.below hb (Nat.le_refl _))
    have HOg22 := Lib.hid (HOg21.out.next hb)
    have HKgb022 := Lib.hid ((hb.block _ (lt_of_block HKgb021.out)).trans HKgb021.out)
    have HBs6_22 : Hid (Below w6.heap.size w6 w22) := Lib.hid (HBs6_21.out.trans (hb.mono HBs6_21.out.size))
    clear hb
    clear ca10 fa10 lta1 ca20 fa20 lta2 cwb00 fwb00 ltwb0 cgb00 fgb00 ltgb0
    have lta1 := lt_of_block HKa122.out
    obtain ⟨ca10, fa10⟩ := cell1 HKa122.out
    have lta2 := lt_of_block HKa222.out
    obtain ⟨ca20, fa20⟩ := cell1 HKa222.out
    have ltwb0 := lt_of_block HKwb022.out
    obtain ⟨cwb00, fwb00⟩ := cell1 HKwb022.out
    have ltgb0 := lt_of_block HKgb022.out
    obtain ⟨cgb00, fgb00⟩ := cell1 HKgb022.out
    go_wp2_with fail
    refine (markAmount_at _ qs0 _ _ _ HOg22.out (by omega) (1) (by omega) (by have := HZ1.out; have := HZ2.out; have := HZ3.out; have := HZ4.out; have := HZ5.out; have := HZ6.out; have := HZ7.out; have := HZ8.out; have := HZ9.out; have := HZ10.out; have := HZ11.out; have := HZ12.out; have := HZ13.out; have := HZ14.out; have := HZ15.out; have := HZ16.out; have := HZ17.out; have := HZ18.out; have := HZ19.out; have := HZ20.out; have := HZ21.out; have := HZ22.out;  omega) (by have := HZ1.out; have := HZ2.out; have := HZ3.out; have := HZ4.out; have := HZ5.out; have := HZ6.out; have := HZ7.out; have := HZ8.out; have := HZ9.out; have := HZ10.out; have := HZ11.out; have := HZ12.out; have := HZ13.out; have := HZ14.out; have := HZ15.out; have := HZ16.out; have := HZ17.out; have := HZ18.out; have := HZ19.out; have := HZ20.out; have := HZ21.out; have := HZ22.out;  omega) (by have := HZ1.out; have := HZ2.out; have := HZ3.out; have := HZ4.out; have := HZ5.out; have := HZ6.out; have := HZ7.out; have := HZ8.out; have := HZ9.out; have := HZ10.out; have := HZ11.out; have := HZ12.out; have := HZ13.out; have := HZ14.out; have := HZ15.out; have := HZ16.out; have := HZ17.out; have := HZ18.out; have := HZ19.out; have := HZ20.out; have := HZ21.out; have := HZ22.out;  omega)).mono ?_
    rintro e w23 ⟨rfl, ho, hm⟩
    have HZ23 : Hid (w22.heap.size ≤ w23.heap.size) := Lib.hid hm.size
    have HB23 : Hid (Below w.heap.size w w23) := Lib.hid (HB22.out.trans (hm.below.mono (by have := HZ1.out; have := HZ2.out; have := HZ3.out; have := HZ4.out; have := HZ5.out; have := HZ6.out; have := HZ7.out; have := HZ8.out; have := HZ9.out; have := HZ10.out; have := HZ11.out; have := HZ12.out; have := HZ13.out; have := HZ14.out; have := HZ15.out; have := HZ16.out; have := HZ17.out; have := HZ18.out; have := HZ19.out; have := HZ20.out; have := HZ21.out; have := HZ22.out; have := HB0.out.size; omega)))
    have HRf023 := Lib.hid (HRf00.out.below HB23.out (Nat.le_refl _))
    have HRf123 := Lib.hid (HRf10.out.below HB23.out (Nat.le_refl _))
    have HRf223 := Lib.hid (HRf20.out.below HB23.out (Nat.le_refl _))
    have HKa123 := Lib.hid ((hm.block _ (by have := lt_of_block HKa122.out; have := HZ1.out; have := HZ2.out; have := HZ3.out; have := HZ4.out; have := HZ5.out; have := HZ6.out; have := HZ7.out; have := HZ8.out; have := HZ9.out; have := HZ10.out; have := HZ11.out; have := HZ12.out; have := HZ13.out; have := HZ14.out; have := HZ15.out; have := HZ16.out; have := HZ17.out; have := HZ18.out; have := HZ19.out; have := HZ20.out; have := HZ21.out; have := HZ22.out; omega)).trans HKa122.out)
    have HKa223 := Lib.hid ((hm.block _ (by have := lt_of_block HKa222.out; have := HZ1.out; have := HZ2.out; have := HZ3.out; have := HZ4.out; have := HZ5.out; have := HZ6.out; have := HZ7.out; have := HZ8.out; have := HZ9.out; have := HZ10.out; have := HZ11.out; have := HZ12.out; have := HZ13.out; have := HZ14.out; have := HZ15.out; have := HZ16.out; have := HZ17.out; have := HZ18.out; have := HZ19.out; have := HZ20.out; have := HZ21.out; have := HZ22.out; omega)).trans HKa222.out)
    have HKwb023 := Lib.hid ((hm.block _ (by have := lt_of_block HKwb022.out; have := HZ1.out; have := HZ2.out; have := HZ3.out; have := HZ4.out; have := HZ5.out; have := HZ6.out; have := HZ7.out; have := HZ8.out; have := HZ9.out; have := HZ10.out; have := HZ11.out; have := HZ12.out; have := HZ13.out; have := HZ14.out; have := HZ15.out; have := HZ16.out; have := HZ17.out; have := HZ18.out; have := HZ19.out; have := HZ20.out; have := HZ21.out; have := HZ22.out; omega)).trans HKwb022.out)
    have HRw023 := Lib.hid (HRw06.out.below (HBs6_22.out.trans (hm.below.mono (by have := HZ1.out; have := HZ2.out; have := HZ3.out; have := HZ4.out; have := HZ5.out; have := HZ6.out; have := HZ7.out; have := HZ8.out; have := HZ9.out; have := HZ10.out; have := HZ11.out; have := HZ12.out; have := HZ13.out; have := HZ14.out; have := HZ15.out; have := HZ16.out; have := HZ17.out; have := HZ18.out; have := HZ19.out; have := HZ20.out; have := HZ21.out; have := HZ22.out; omega))) (Nat.le_refl _))
    have HKgb023 := Lib.hid ((hm.block _ (by have := lt_of_block HKgb022.out; have := HZ1.out; have := HZ2.out; have := HZ3.out; have := HZ4.out; have := HZ5.out; have := HZ6.out; have := HZ7.out; have := HZ8.out; have := HZ9.out; have := HZ10.out; have := HZ11.out; have := HZ12.out; have := HZ13.out; have := HZ14.out; have := HZ15.out; have := HZ16.out; have := HZ17.out; have := HZ18.out; have := HZ19.out; have := HZ20.out; have := HZ21.out; have := HZ22.out; omega)).trans HKgb022.out)
    have HBs6_23 : Hid (Below w6.heap.size w6 w23) := Lib.hid (HBs6_22.out.trans (hm.below.mono (by have := HZ1.out; have := HZ2.out; have := HZ3.out; have := HZ4.out; have := HZ5.out; have := HZ6.out; have := HZ7.out; have := HZ8.out; have := HZ9.out; have := HZ10.out; have := HZ11.out; have := HZ12.out; have := HZ13.out; have := HZ14.out; have := HZ15.out; have := HZ16.out; have := HZ17.out; have := HZ18.out; have := HZ19.out; have := HZ20.out; have := HZ21.out; have := HZ22.out; omega)))
    clear hm
    have HOg23 := Lib.hid (ho)
    clear ho
    clear ca10 fa10 lta1 ca20 fa20 lta2 cwb00 fwb00 ltwb0 cgb00 fgb00 ltgb0
    have lta1 := lt_of_block HKa123.out
    obtain ⟨ca10, fa10⟩ := cell1 HKa123.out
    have lta2 := lt_of_block HKa223.out
    obtain ⟨ca20, fa20⟩ := cell1 HKa223.out
    have ltwb0 := lt_of_block HKwb023.out
    obtain ⟨cwb00, fwb00⟩ := cell1 HKwb023.out
    have ltgb0 := lt_of_block HKgb023.out
    obtain ⟨cgb00, fgb00⟩ := cell1 HKgb023.out
    go_wp2_with fail
    refine (heldAmount_any _ qs0.length (1) _ (by have := HOg23.out.reads; exact this) (by omega) (by omega)).mono ?_
    rintro e w24 ⟨rfl, hb⟩
    have HB24 : Hid (Below w.heap.size w w24) := Lib.hid (HB23.out.trans (hb.mono HB23.out.size))
    have HZ24 : Hid (w23.heap.size ≤ w24.heap.size) := Lib.hid hb.size
    have HRf024 := Lib.hid (HRf00.out.below HB24.out (Nat.le_refl _))
    have HRf124 := Lib.hid (HRf10.out.below HB24.out (Nat.le_refl _))
    have HRf224 := Lib.hid (HRf20.out.below HB24.out (Nat.le_refl _))
    have HKa124 := Lib.hid ((hb.block _ (lt_of_block HKa123.out)).trans HKa123.out)
    have HKa224 := Lib.hid ((hb.block _ (lt_of_block HKa223.out)).trans HKa223.out)
    have HKwb024 := Lib.hid ((hb.block _ (lt_of_block HKwb023.out)).trans HKwb023.out)
    have HRw024 := Lib.hid (HRw023.out.below hb (Nat.le_refl _))
    have HOg24 := Lib.hid (HOg23.out.next hb)
    have HKgb024 := Lib.hid ((hb.block _ (lt_of_block HKgb023.out)).trans HKgb023.out)
    have HBs6_24 : Hid (Below w6.heap.size w6 w24) := Lib.hid (HBs6_23.out.trans (hb.mono HBs6_23.out.size))
    clear hb
    clear ca10 fa10 lta1 ca20 fa20 lta2 cwb00 fwb00 ltwb0 cgb00 fgb00 ltgb0
    have lta1 := lt_of_block HKa124.out
    obtain ⟨ca10, fa10⟩ := cell1 HKa124.out
    have lta2 := lt_of_block HKa224.out
    obtain ⟨ca20, fa20⟩ := cell1 HKa224.out
    have ltwb0 := lt_of_block HKwb024.out
    obtain ⟨cwb00, fwb00⟩ := cell1 HKwb024.out
    have ltgb0 := lt_of_block HKgb024.out
    obtain ⟨cgb00, fgb00⟩ := cell1 HKgb024.out
    go_wp2_with fail
    clear ca10 fa10 lta1 ca20 fa20 lta2 cwb00 fwb00 ltwb0 cgb00 fgb00 ltgb0
    have lta1 := lt_of_block HKa124.out
    obtain ⟨ca10, fa10⟩ := cell1 HKa124.out
    have lta2 := lt_of_block HKa224.out
    obtain ⟨ca20, fa20⟩ := cell1 HKa224.out
    have ltwb0 := lt_of_block HKwb024.out
    obtain ⟨cwb00, fwb00⟩ := cell1 HKwb024.out
    have ltgb0 := lt_of_block HKgb024.out
    obtain ⟨cgb00, fgb00⟩ := cell1 HKgb024.out
    go_cut [18, 19] from 115 (fun z0 z1 wc => ∃ (b0 : Nat) (pa0 : Option Addr) (ka0 : Nat), z0 = .pointer (some ⟨b0, 0, none⟩) ∧ z1 = .bool r1 ∧ wc.heap[b0]? = some (.cells #[.slice pa0 qs0.length ka0] 34 (0, 0)) ∧ RowsR 1 inC wc (.slice pa0 qs0.length ka0) qs0 ∧ Below w24.heap.size w24 wc)
    case first =>
      clear ca10 fa10 lta1 ca20 fa20 lta2 cwb00 fwb00 ltwb0 cgb00 fgb00 ltgb0
      have lta1 := lt_of_block HKa124.out
      obtain ⟨ca10, fa10⟩ := cell1 HKa124.out
      have lta2 := lt_of_block HKa224.out
      obtain ⟨ca20, fa20⟩ := cell1 HKa224.out
      have hla1 : w.heap.size < w24.heap.size := lta1
      have hla2 : w.heap.size + 1 < w24.heap.size := lta2
      have HBs24_24 : Hid (Below w24.heap.size w24 w24) := Lib.hid (Below.refl _ _)
      refine wp_region_held_drew (S := (fun w' => w'.cell? ⟨w.heap.size, 0, none⟩ = some (.slice ad1 cs1.length cp1) ∧ w'.cell? ⟨w.heap.size + 1, 0, none⟩ = some (.slice ad2 cs2.length cp2))) (by kernel_rfl) (⟨ca10, ca20⟩) (fun hHeld => ?_)
      have hb : Below w24.heap.size w24 w24.drew := (Below.refl _ _).drew
      generalize w24.drew = w25 at hb hHeld ⊢
      have HB25 : Hid (Below w.heap.size w w25) := Lib.hid (HB24.out.trans (hb.mono HB24.out.size))
      have HZ25 : Hid (w24.heap.size ≤ w25.heap.size) := Lib.hid hb.size
      have HRf025 := Lib.hid (HRf00.out.below HB25.out (Nat.le_refl _))
      have HRf125 := Lib.hid (HRf10.out.below HB25.out (Nat.le_refl _))
      have HRf225 := Lib.hid (HRf20.out.below HB25.out (Nat.le_refl _))
      have HKa125 := Lib.hid ((hb.block _ (lt_of_block HKa124.out)).trans HKa124.out)
      have HKa225 := Lib.hid ((hb.block _ (lt_of_block HKa224.out)).trans HKa224.out)
      have HBs24_25 : Hid (Below w24.heap.size w24 w25) := Lib.hid (HBs24_24.out.trans (hb.mono HBs24_24.out.size))
      clear hb
      clear ca10 fa10 lta1 ca20 fa20 lta2
      have lta1 := lt_of_block HKa125.out
      obtain ⟨ca10, fa10⟩ := cell1 HKa125.out
      have lta2 := lt_of_block HKa225.out
      obtain ⟨ca20, fa20⟩ := cell1 HKa225.out
      refine take1 (i := 0) (v := ?v24) (some 116) rfl rfl (by kernel_rfl) (by kernel_rfl) (by kernel_rfl) (fun _ _ _ h => h) (Or.inl ⟨by rfl, ?y24⟩) (by assumption) ?r24
      case y24 => (intro w hSw; (try dsimp only at hSw); go_simp; (first | done | with_reducible rfl))
      try simp only [Act.put, List.setIfInBounds_toArray, List.set_cons_zero, List.set_cons_succ]
      refine take1 (i := 2) (v := ?v25) (some 118) rfl rfl (by kernel_rfl) (by kernel_rfl) (by kernel_rfl) (fun _ _ _ h => h) (Or.inl ⟨by rfl, ?y25⟩) (by assumption) ?r25
      case y25 => (intro w hSw; (try dsimp only at hSw); go_simp; (first | done | with_reducible rfl))
      try simp only [Act.put, List.setIfInBounds_toArray, List.set_cons_zero, List.set_cons_succ]
      refine take1 (i := 4) (v := ?v26) (some 120) rfl rfl (by kernel_rfl) (by kernel_rfl) (by kernel_rfl) (fun _ _ _ h => h) (Or.inl ⟨by rfl, ?y26⟩) (by assumption) ?r26
      case y26 => (intro w hSw; (try dsimp only at hSw); go_simp; (first | done | with_reducible rfl))
      try simp only [Act.put, List.setIfInBounds_toArray, List.set_cons_zero, List.set_cons_succ]
      refine wpAnyH_ready (rs := [1, 10]) (by kernel_rfl) (by simp) ?_
      refine AllReadyH.cons rfl (fun K hK => ?_) (AllReadyH.cons rfl (fun K hK => ?_) AllReadyH.nil)
      · go_simp
        go_at_call 15
        refine (toUnitS_any _ us0 _ HRf025.out hn0).mono ?_
        rintro e w26 ⟨⟨shc0, rfl, ho⟩, hb⟩
        have HB26 : Hid (Below w.heap.size w w26) := Lib.hid (HB25.out.trans (hb.mono HB25.out.size))
        have HZ26 : Hid (w25.heap.size ≤ w26.heap.size) := Lib.hid hb.size
        have HRf026 := Lib.hid (HRf00.out.below HB26.out (Nat.le_refl _))
        have HRf126 := Lib.hid (HRf10.out.below HB26.out (Nat.le_refl _))
        have HRf226 := Lib.hid (HRf20.out.below HB26.out (Nat.le_refl _))
        have HKa126 := Lib.hid ((hb.block _ (lt_of_block HKa125.out)).trans HKa125.out)
        have HKa226 := Lib.hid ((hb.block _ (lt_of_block HKa225.out)).trans HKa225.out)
        have HBs24_26 : Hid (Below w24.heap.size w24 w26) := Lib.hid (HBs24_25.out.trans (hb.mono HBs24_25.out.size))
        clear hb
        obtain ⟨phc0, khc0, rfl⟩ := own_form ho
        have HRhc026 := Lib.hid (RowsR.of_own unC_len ho)
        have HBs26_26 : Hid (Below w26.heap.size w26 w26) := Lib.hid (Below.refl _ _)
        clear ho
        clear ca10 fa10 lta1 ca20 fa20 lta2
        have lta1 := lt_of_block HKa126.out
        obtain ⟨ca10, fa10⟩ := cell1 HKa126.out
        have lta2 := lt_of_block HKa226.out
        obtain ⟨ca20, fa20⟩ := cell1 HKa226.out
        try go_simp
        refine hK.out _ _ (⟨ca10, ca20⟩) (fun hHeld => ?_)
        clear hK K
        try simp only [Act.put, List.setIfInBounds_toArray, List.set_cons_zero, List.set_cons_succ]
        refine wpAnyH_ready (rs := [3, 10]) (by kernel_rfl) (by simp) ?_
        refine AllReadyH.cons rfl (fun K hK => ?_) (AllReadyH.cons rfl (fun K hK => ?_) AllReadyH.nil)
        · go_simp
          go_at_call 20
          refine (toAmount_any _ cs1 _ HRf126.out hn1).mono ?_
          rintro e w27 ⟨⟨shc1, rfl, ho⟩, hb⟩
          have HB27 : Hid (Below w.heap.size w w27) := Lib.hid (HB26.out.trans (hb.mono HB26.out.size))
          have HZ27 : Hid (w26.heap.size ≤ w27.heap.size) := Lib.hid hb.size
          have HRf027 := Lib.hid (HRf00.out.below HB27.out (Nat.le_refl _))
          have HRf127 := Lib.hid (HRf10.out.below HB27.out (Nat.le_refl _))
          have HRf227 := Lib.hid (HRf20.out.below HB27.out (Nat.le_refl _))
          have HKa127 := Lib.hid ((hb.block _ (lt_of_block HKa126.out)).trans HKa126.out)
          have HKa227 := Lib.hid ((hb.block _ (lt_of_block HKa226.out)).trans HKa226.out)
          have HRhc027 := Lib.hid (HRhc026.out.below hb (Nat.le_refl _))
          have HBs24_27 : Hid (Below w24.heap.size w24 w27) := Lib.hid (HBs24_26.out.trans (hb.mono HBs24_26.out.size))
          have HBs26_27 : Hid (Below w26.heap.size w26 w27) := Lib.hid (HBs26_26.out.trans (hb.mono HBs26_26.out.size))
          clear hb
          obtain ⟨phc1, khc1, rfl⟩ := ho.form
          have HRhc127 := Lib.hid (ho.reads)
          have HBs27_27 : Hid (Below w27.heap.size w27 w27) := Lib.hid (Below.refl _ _)
          clear ho
          clear ca10 fa10 lta1 ca20 fa20 lta2
          have lta1 := lt_of_block HKa127.out
          obtain ⟨ca10, fa10⟩ := cell1 HKa127.out
          have lta2 := lt_of_block HKa227.out
          obtain ⟨ca20, fa20⟩ := cell1 HKa227.out
          try go_simp
          refine hK.out _ _ (⟨ca10, ca20⟩) (fun hHeld => ?_)
          clear hK K
          try simp only [Act.put, List.setIfInBounds_toArray, List.set_cons_zero, List.set_cons_succ]
          refine wpAnyH_ready (rs := [5, 10]) (by kernel_rfl) (by simp) ?_
          refine AllReadyH.cons rfl (fun K hK => ?_) (AllReadyH.cons rfl (fun K hK => ?_) AllReadyH.nil)
          · go_simp
            go_at_call 20
            refine (toAmount_any _ cs2 _ HRf227.out hn2).mono ?_
            rintro e w28 ⟨⟨shc2, rfl, ho⟩, hb⟩
            have HB28 : Hid (Below w.heap.size w w28) := Lib.hid (HB27.out.trans (hb.mono HB27.out.size))
            have HZ28 : Hid (w27.heap.size ≤ w28.heap.size) := Lib.hid hb.size
            have HRf028 := Lib.hid (HRf00.out.below HB28.out (Nat.le_refl _))
            have HRf128 := Lib.hid (HRf10.out.below HB28.out (Nat.le_refl _))
            have HRf228 := Lib.hid (HRf20.out.below HB28.out (Nat.le_refl _))
            have HKa128 := Lib.hid ((hb.block _ (lt_of_block HKa127.out)).trans HKa127.out)
            have HKa228 := Lib.hid ((hb.block _ (lt_of_block HKa227.out)).trans HKa227.out)
            have HRhc028 := Lib.hid (HRhc027.out.below hb (Nat.le_refl _))
            have HRhc128 := Lib.hid (HRhc127.out.below hb (Nat.le_refl _))
            have HBs24_28 : Hid (Below w24.heap.size w24 w28) := Lib.hid (HBs24_27.out.trans (hb.mono HBs24_27.out.size))
            have HBs26_28 : Hid (Below w26.heap.size w26 w28) := Lib.hid (HBs26_27.out.trans (hb.mono HBs26_27.out.size))
            have HBs27_28 : Hid (Below w27.heap.size w27 w28) := Lib.hid (HBs27_27.out.trans (hb.mono HBs27_27.out.size))
            clear hb
            obtain ⟨phc2, khc2, rfl⟩ := ho.form
            have HRhc228 := Lib.hid (ho.reads)
            have HBs28_28 : Hid (Below w28.heap.size w28 w28) := Lib.hid (Below.refl _ _)
            clear ho
            clear ca10 fa10 lta1 ca20 fa20 lta2
            have lta1 := lt_of_block HKa128.out
            obtain ⟨ca10, fa10⟩ := cell1 HKa128.out
            have lta2 := lt_of_block HKa228.out
            obtain ⟨ca20, fa20⟩ := cell1 HKa228.out
            try go_simp
            refine hK.out _ _ (⟨ca10, ca20⟩) (fun hHeld => ?_)
            clear hK K
            try simp only [Act.put, List.setIfInBounds_toArray, List.set_cons_zero, List.set_cons_succ]
            refine wpAnyH_ready (rs := [6, 10]) (by kernel_rfl) (by simp) ?_
            refine AllReadyH.cons rfl (fun K hK => ?_) (AllReadyH.cons rfl (fun K hK => ?_) AllReadyH.nil)
            · go_simp
              go_at_call 31
              refine (HI.out _ _ _ _ HRhc028.out HRhc128.out HRhc228.out).mono ?_
              rintro e w29 ⟨⟨th0, rfl, ho⟩, hb⟩
              have HB29 : Hid (Below w.heap.size w w29) := Lib.hid (HB28.out.trans (hb.mono HB28.out.size))
              have HZ29 : Hid (w28.heap.size ≤ w29.heap.size) := Lib.hid hb.size
              have HRf029 := Lib.hid (HRf00.out.below HB29.out (Nat.le_refl _))
              have HRf129 := Lib.hid (HRf10.out.below HB29.out (Nat.le_refl _))
              have HRf229 := Lib.hid (HRf20.out.below HB29.out (Nat.le_refl _))
              have HKa129 := Lib.hid ((hb.block _ (lt_of_block HKa128.out)).trans HKa128.out)
              have HKa229 := Lib.hid ((hb.block _ (lt_of_block HKa228.out)).trans HKa228.out)
              have HRhc029 := Lib.hid (HRhc028.out.below hb (Nat.le_refl _))
              have HRhc129 := Lib.hid (HRhc128.out.below hb (Nat.le_refl _))
              have HRhc229 := Lib.hid (HRhc228.out.below hb (Nat.le_refl _))
              have HBs24_29 : Hid (Below w24.heap.size w24 w29) := Lib.hid (HBs24_28.out.trans (hb.mono HBs24_28.out.size))
              have HBs26_29 : Hid (Below w26.heap.size w26 w29) := Lib.hid (HBs26_28.out.trans (hb.mono HBs26_28.out.size))
              have HBs27_29 : Hid (Below w27.heap.size w27 w29) := Lib.hid (HBs27_28.out.trans (hb.mono HBs27_28.out.size))
              have HBs28_29 : Hid (Below w28.heap.size w28 w29) := Lib.hid (HBs28_28.out.trans (hb.mono HBs28_28.out.size))
              clear hb
              obtain ⟨ph0, kh0, rfl⟩ := ho.form
              have HOh29 := Lib.hid (ho)
              clear ho
              clear ca10 fa10 lta1 ca20 fa20 lta2
              have lta1 := lt_of_block HKa129.out
              obtain ⟨ca10, fa10⟩ := cell1 HKa129.out
              have lta2 := lt_of_block HKa229.out
              obtain ⟨ca20, fa20⟩ := cell1 HKa229.out
              try go_simp
              refine hK.out _ _ (⟨ca10, ca20⟩) (fun hHeld => ?_)
              clear hK K
              try simp only [Act.put, List.setIfInBounds_toArray, List.set_cons_zero, List.set_cons_succ]
              refine take1 (i := 7) (v := ?v27) (some 115) rfl rfl (by kernel_rfl) (by kernel_rfl) (by kernel_rfl) (fun _ _ _ h => h) (Or.inl ⟨by rfl, ?y27⟩) (by assumption) ?r27
              case y27 => (intro w hSw; (try dsimp only at hSw); go_simp; (first | done | with_reducible rfl))
              try simp only [Act.put, List.setIfInBounds_toArray, List.set_cons_zero, List.set_cons_succ]
              refine take1 (i := 8) (v := ?v28) (some 123) rfl rfl (by kernel_rfl) (by kernel_rfl) (by kernel_rfl) (fun _ _ _ h => h) (Or.inl ⟨by rfl, ?y28⟩) (by assumption) ?r28
              case y28 => (intro w hSw; (try dsimp only at hSw); go_simp; (first | done | with_reducible rfl))
              try simp only [Act.put, List.setIfInBounds_toArray, List.set_cons_zero, List.set_cons_succ]
              refine take1 (i := 9) (v := ?v29) (some 124) rfl rfl (by kernel_rfl) (by kernel_rfl) (by kernel_rfl) (fun _ _ _ h => h) (Or.inl ⟨by rfl, ?y29⟩) (by assumption) ?r29
              case y29 => (intro w hSw; (try dsimp only at hSw); go_simp; (first | done | with_reducible rfl))
              try simp only [Act.put, List.setIfInBounds_toArray, List.set_cons_zero, List.set_cons_succ]
              refine wpAnyH_ready (rs := [10]) (by kernel_rfl) (by simp) ?_
              refine AllReadyH.cons rfl (fun K hK => ?_) AllReadyH.nil
              go_simp
              have hb : Below w29.heap.size w29 (w29.alloc (.cells #[.slice none 0 0] 34)) := (Below.refl _ _).alloc (Nat.le_refl _) _
              have hk : (w29.alloc (.cells #[.slice none 0 0] 34)).heap[w29.heap.size]? = some (.cells #[.slice none 0 0] 34 (0, 0)) := alloc_at rfl
              have hz : (w29.alloc (.cells #[.slice none 0 0] 34)).heap.size = w29.heap.size + 1 := by simp
              generalize w29.alloc (.cells #[.slice none 0 0] 34) = w30 at hb hk hz ⊢
              have HB30 : Hid (Below w.heap.size w w30) := Lib.hid (HB29.out.trans (hb.mono HB29.out.size))
              have HZ30 : Hid (w29.heap.size ≤ w30.heap.size) := Lib.hid hb.size
              have HRf030 := Lib.hid (HRf00.out.below HB30.out (Nat.le_refl _))
              have HRf130 := Lib.hid (HRf10.out.below HB30.out (Nat.le_refl _))
              have HRf230 := Lib.hid (HRf20.out.below HB30.out (Nat.le_refl _))
              have HKa130 := Lib.hid ((hb.block _ (lt_of_block HKa129.out)).trans HKa129.out)
              have HKa230 := Lib.hid ((hb.block _ (lt_of_block HKa229.out)).trans HKa229.out)
              have HOh30 := Lib.hid (HOh29.out.next hb)
              have HBs24_30 : Hid (Below w24.heap.size w24 w30) := Lib.hid (HBs24_29.out.trans (hb.mono HBs24_29.out.size))
              have HKhb030 := Lib.hid hk
              replace HZ30 : Hid (w29.heap.size < w30.heap.size) := Lib.hid (by omega)
              have HE30 := Lib.hid hz
              clear hb hk hz
              clear ca10 fa10 lta1 ca20 fa20 lta2
              have lta1 := lt_of_block HKa130.out
              obtain ⟨ca10, fa10⟩ := cell1 HKa130.out
              have lta2 := lt_of_block HKa230.out
              obtain ⟨ca20, fa20⟩ := cell1 HKa230.out
              have lthb0 := lt_of_block HKhb030.out
              obtain ⟨chb00, fhb00⟩ := cell1 HKhb030.out
              refine hK.out _ _ (⟨ca10, ca20⟩) (fun hHeld => ?_)
              clear hK K
              try simp only [Act.put, List.setIfInBounds_toArray, List.set_cons_zero, List.set_cons_succ]
              refine wpAnyH_ready (rs := [11]) (by kernel_rfl) (by simp) ?_
              refine AllReadyH.cons rfl (fun K hK => ?_) AllReadyH.nil
              go_simp
              have hkb := box1_set HKhb030.out (.slice ph0 qs0.length kh0)
              have hm : Btw w29.heap.size (w29.heap.size + 1) w30 (w30.setCell ⟨w29.heap.size, 0, none⟩ (.slice ph0 qs0.length kh0)) := (Btw.refl (w29.heap.size) (w29.heap.size + 1) w30).setCell (p := ⟨w29.heap.size, 0, none⟩) (Nat.le_refl _) (Nat.lt_succ_self _) _
              generalize w30.setCell ⟨w29.heap.size, 0, none⟩ (.slice ph0 qs0.length kh0) = w31 at hkb hm ⊢
              have HZ31 : Hid (w30.heap.size ≤ w31.heap.size) := Lib.hid hm.size
              have HB31 : Hid (Below w.heap.size w w31) := Lib.hid (HB30.out.trans (hm.below.mono (by have := HZ25.out; have := HZ26.out; have := HZ27.out; have := HZ28.out; have := HZ29.out; have := HZ30.out; have := HB24.out.size; omega)))
              have HRf031 := Lib.hid (HRf00.out.below HB31.out (Nat.le_refl _))
              have HRf131 := Lib.hid (HRf10.out.below HB31.out (Nat.le_refl _))
              have HRf231 := Lib.hid (HRf20.out.below HB31.out (Nat.le_refl _))
              have HKa131 := Lib.hid ((hm.block _ (by have := lt_of_block HKa130.out; have := HZ25.out; have := HZ26.out; have := HZ27.out; have := HZ28.out; have := HZ29.out; have := HZ30.out; omega)).trans HKa130.out)
              have HKa231 := Lib.hid ((hm.block _ (by have := lt_of_block HKa230.out; have := HZ25.out; have := HZ26.out; have := HZ27.out; have := HZ28.out; have := HZ29.out; have := HZ30.out; omega)).trans HKa230.out)
              have HOh31 := Lib.hid (HOh30.out.btw hm (by have := HZ25.out; have := HZ26.out; have := HZ27.out; have := HZ28.out; have := HZ29.out; have := HZ30.out; omega))
              have HBs24_31 : Hid (Below w24.heap.size w24 w31) := Lib.hid (HBs24_30.out.trans (hm.below.mono (by have := HZ25.out; have := HZ26.out; have := HZ27.out; have := HZ28.out; have := HZ29.out; have := HZ30.out; omega)))
              clear hm
              have HKhb031 := Lib.hid (hkb)
              clear hkb
              clear ca10 fa10 lta1 ca20 fa20 lta2 chb00 fhb00 lthb0
              have lta1 := lt_of_block HKa131.out
              obtain ⟨ca10, fa10⟩ := cell1 HKa131.out
              have lta2 := lt_of_block HKa231.out
              obtain ⟨ca20, fa20⟩ := cell1 HKa231.out
              have lthb0 := lt_of_block HKhb031.out
              obtain ⟨chb00, fhb00⟩ := cell1 HKhb031.out
              refine hK.out _ _ (⟨ca10, ca20⟩) (fun hHeld => ?_)
              clear hK K
              try simp only [Act.put]
              refine take1 (i := 12) (v := ?v30) (some 19) rfl rfl (by kernel_rfl) (by kernel_rfl) (by kernel_rfl) (fun _ _ _ h => h) (Or.inl ⟨by rfl, ?y30⟩) (by assumption) ?r30
              case y30 => (intro w hSw; (try dsimp only at hSw); go_simp; (first | done | with_reducible rfl))
              try simp only [Act.put, List.setIfInBounds_toArray, List.set_cons_zero, List.set_cons_succ]
              refine wpAnyH_done (by kernel_rfl) ?_ _
              go_wp2_with fail
              go_meet
              exact ⟨w29.heap.size, ph0, kh0, rfl, rfl, HKhb031.out, HOh31.out.reads, HBs24_31.out⟩
            · go_simp
              have hb : Below w28.heap.size w28 (w28.alloc (.cells #[.slice none 0 0] 34)) := (Below.refl _ _).alloc (Nat.le_refl _) _
              have hk : (w28.alloc (.cells #[.slice none 0 0] 34)).heap[w28.heap.size]? = some (.cells #[.slice none 0 0] 34 (0, 0)) := alloc_at rfl
              have hz : (w28.alloc (.cells #[.slice none 0 0] 34)).heap.size = w28.heap.size + 1 := by simp
              generalize w28.alloc (.cells #[.slice none 0 0] 34) = w29 at hb hk hz ⊢
              have HB29 : Hid (Below w.heap.size w w29) := Lib.hid (HB28.out.trans (hb.mono HB28.out.size))
              have HZ29 : Hid (w28.heap.size ≤ w29.heap.size) := Lib.hid hb.size
              have HRf029 := Lib.hid (HRf00.out.below HB29.out (Nat.le_refl _))
              have HRf129 := Lib.hid (HRf10.out.below HB29.out (Nat.le_refl _))
              have HRf229 := Lib.hid (HRf20.out.below HB29.out (Nat.le_refl _))
              have HKa129 := Lib.hid ((hb.block _ (lt_of_block HKa128.out)).trans HKa128.out)
              have HKa229 := Lib.hid ((hb.block _ (lt_of_block HKa228.out)).trans HKa228.out)
              have HRhc029 := Lib.hid (HRhc028.out.below hb (Nat.le_refl _))
              have HRhc129 := Lib.hid (HRhc128.out.below hb (Nat.le_refl _))
              have HRhc229 := Lib.hid (HRhc228.out.below hb (Nat.le_refl _))
              have HBs24_29 : Hid (Below w24.heap.size w24 w29) := Lib.hid (HBs24_28.out.trans (hb.mono HBs24_28.out.size))
              have HBs26_29 : Hid (Below w26.heap.size w26 w29) := Lib.hid (HBs26_28.out.trans (hb.mono HBs26_28.out.size))
              have HBs27_29 : Hid (Below w27.heap.size w27 w29) := Lib.hid (HBs27_28.out.trans (hb.mono HBs27_28.out.size))
              have HBs28_29 : Hid (Below w28.heap.size w28 w29) := Lib.hid (HBs28_28.out.trans (hb.mono HBs28_28.out.size))
              have HKhb029 := Lib.hid hk
              replace HZ29 : Hid (w28.heap.size < w29.heap.size) := Lib.hid (by omega)
              have HE29 := Lib.hid hz
              clear hb hk hz
              clear ca10 fa10 lta1 ca20 fa20 lta2
              have lta1 := lt_of_block HKa129.out
              obtain ⟨ca10, fa10⟩ := cell1 HKa129.out
              have lta2 := lt_of_block HKa229.out
              obtain ⟨ca20, fa20⟩ := cell1 HKa229.out
              have lthb0 := lt_of_block HKhb029.out
              obtain ⟨chb00, fhb00⟩ := cell1 HKhb029.out
              refine hK.out _ _ (⟨ca10, ca20⟩) (fun hHeld => ?_)
              clear hK K
              try simp only [Act.put, List.setIfInBounds_toArray, List.set_cons_zero, List.set_cons_succ]
              refine wpAnyH_ready (rs := [6]) (by kernel_rfl) (by simp) ?_
              refine AllReadyH.cons rfl (fun K hK => ?_) AllReadyH.nil
              go_simp
              go_at_call 31
              refine (HI.out _ _ _ _ HRhc029.out HRhc129.out HRhc229.out).mono ?_
              rintro e w30 ⟨⟨th0, rfl, ho⟩, hb⟩
              have HB30 : Hid (Below w.heap.size w w30) := Lib.hid (HB29.out.trans (hb.mono HB29.out.size))
              have HZ30 : Hid (w29.heap.size ≤ w30.heap.size) := Lib.hid hb.size
              have HRf030 := Lib.hid (HRf00.out.below HB30.out (Nat.le_refl _))
              have HRf130 := Lib.hid (HRf10.out.below HB30.out (Nat.le_refl _))
              have HRf230 := Lib.hid (HRf20.out.below HB30.out (Nat.le_refl _))
              have HKa130 := Lib.hid ((hb.block _ (lt_of_block HKa129.out)).trans HKa129.out)
              have HKa230 := Lib.hid ((hb.block _ (lt_of_block HKa229.out)).trans HKa229.out)
              have HRhc030 := Lib.hid (HRhc029.out.below hb (Nat.le_refl _))
              have HRhc130 := Lib.hid (HRhc129.out.below hb (Nat.le_refl _))
              have HRhc230 := Lib.hid (HRhc229.out.below hb (Nat.le_refl _))
              have HKhb030 := Lib.hid ((hb.block _ (lt_of_block HKhb029.out)).trans HKhb029.out)
              have HBs24_30 : Hid (Below w24.heap.size w24 w30) := Lib.hid (HBs24_29.out.trans (hb.mono HBs24_29.out.size))
              have HBs26_30 : Hid (Below w26.heap.size w26 w30) := Lib.hid (HBs26_29.out.trans (hb.mono HBs26_29.out.size))
              have HBs27_30 : Hid (Below w27.heap.size w27 w30) := Lib.hid (HBs27_29.out.trans (hb.mono HBs27_29.out.size))
              have HBs28_30 : Hid (Below w28.heap.size w28 w30) := Lib.hid (HBs28_29.out.trans (hb.mono HBs28_29.out.size))
              clear hb
              obtain ⟨ph0, kh0, rfl⟩ := ho.form
              have HOh30 := Lib.hid (ho)
              clear ho
              clear ca10 fa10 lta1 ca20 fa20 lta2 chb00 fhb00 lthb0
              have lta1 := lt_of_block HKa130.out
              obtain ⟨ca10, fa10⟩ := cell1 HKa130.out
              have lta2 := lt_of_block HKa230.out
              obtain ⟨ca20, fa20⟩ := cell1 HKa230.out
              have lthb0 := lt_of_block HKhb030.out
              obtain ⟨chb00, fhb00⟩ := cell1 HKhb030.out
              try go_simp
              refine hK.out _ _ (⟨ca10, ca20⟩) (fun hHeld => ?_)
              clear hK K
              try simp only [Act.put, List.setIfInBounds_toArray, List.set_cons_zero, List.set_cons_succ]
              refine take1 (i := 7) (v := ?v31) (some 115) rfl rfl (by kernel_rfl) (by kernel_rfl) (by kernel_rfl) (fun _ _ _ h => h) (Or.inl ⟨by rfl, ?y31⟩) (by assumption) ?r31
              case y31 => (intro w hSw; (try dsimp only at hSw); go_simp; (first | done | with_reducible rfl))
              try simp only [Act.put, List.setIfInBounds_toArray, List.set_cons_zero, List.set_cons_succ]
              refine take1 (i := 8) (v := ?v32) (some 123) rfl rfl (by kernel_rfl) (by kernel_rfl) (by kernel_rfl) (fun _ _ _ h => h) (Or.inl ⟨by rfl, ?y32⟩) (by assumption) ?r32
              case y32 => (intro w hSw; (try dsimp only at hSw); go_simp; (first | done | with_reducible rfl))
              try simp only [Act.put, List.setIfInBounds_toArray, List.set_cons_zero, List.set_cons_succ]
              refine take1 (i := 9) (v := ?v33) (some 124) rfl rfl (by kernel_rfl) (by kernel_rfl) (by kernel_rfl) (fun _ _ _ h => h) (Or.inl ⟨by rfl, ?y33⟩) (by assumption) ?r33
              case y33 => (intro w hSw; (try dsimp only at hSw); go_simp; (first | done | with_reducible rfl))
              try simp only [Act.put, List.setIfInBounds_toArray, List.set_cons_zero, List.set_cons_succ]
              refine wpAnyH_ready (rs := [11]) (by kernel_rfl) (by simp) ?_
              refine AllReadyH.cons rfl (fun K hK => ?_) AllReadyH.nil
              go_simp
              have hkb := box1_set HKhb030.out (.slice ph0 qs0.length kh0)
              have hm : Btw w28.heap.size (w28.heap.size + 1) w30 (w30.setCell ⟨w28.heap.size, 0, none⟩ (.slice ph0 qs0.length kh0)) := (Btw.refl (w28.heap.size) (w28.heap.size + 1) w30).setCell (p := ⟨w28.heap.size, 0, none⟩) (Nat.le_refl _) (Nat.lt_succ_self _) _
              generalize w30.setCell ⟨w28.heap.size, 0, none⟩ (.slice ph0 qs0.length kh0) = w31 at hkb hm ⊢
              have HZ31 : Hid (w30.heap.size ≤ w31.heap.size) := Lib.hid hm.size
              have HB31 : Hid (Below w.heap.size w w31) := Lib.hid (HB30.out.trans (hm.below.mono (by have := HZ25.out; have := HZ26.out; have := HZ27.out; have := HZ28.out; have := HZ29.out; have := HZ30.out; have := HB24.out.size; omega)))
              have HRf031 := Lib.hid (HRf00.out.below HB31.out (Nat.le_refl _))
              have HRf131 := Lib.hid (HRf10.out.below HB31.out (Nat.le_refl _))
              have HRf231 := Lib.hid (HRf20.out.below HB31.out (Nat.le_refl _))
              have HKa131 := Lib.hid ((hm.block _ (by have := lt_of_block HKa130.out; have := HZ25.out; have := HZ26.out; have := HZ27.out; have := HZ28.out; have := HZ29.out; have := HZ30.out; omega)).trans HKa130.out)
              have HKa231 := Lib.hid ((hm.block _ (by have := lt_of_block HKa230.out; have := HZ25.out; have := HZ26.out; have := HZ27.out; have := HZ28.out; have := HZ29.out; have := HZ30.out; omega)).trans HKa230.out)
              have HOh31 := Lib.hid (HOh30.out.btw hm (by have := HZ25.out; have := HZ26.out; have := HZ27.out; have := HZ28.out; have := HZ29.out; have := HZ30.out; omega))
              have HBs24_31 : Hid (Below w24.heap.size w24 w31) := Lib.hid (HBs24_30.out.trans (hm.below.mono (by have := HZ25.out; have := HZ26.out; have := HZ27.out; have := HZ28.out; have := HZ29.out; have := HZ30.out; omega)))
              clear hm
              have HKhb031 := Lib.hid (hkb)
              clear hkb
              clear ca10 fa10 lta1 ca20 fa20 lta2 chb00 fhb00 lthb0
              have lta1 := lt_of_block HKa131.out
              obtain ⟨ca10, fa10⟩ := cell1 HKa131.out
              have lta2 := lt_of_block HKa231.out
              obtain ⟨ca20, fa20⟩ := cell1 HKa231.out
              have lthb0 := lt_of_block HKhb031.out
              obtain ⟨chb00, fhb00⟩ := cell1 HKhb031.out
              refine hK.out _ _ (⟨ca10, ca20⟩) (fun hHeld => ?_)
              clear hK K
              try simp only [Act.put]
              refine take1 (i := 12) (v := ?v34) (some 19) rfl rfl (by kernel_rfl) (by kernel_rfl) (by kernel_rfl) (fun _ _ _ h => h) (Or.inl ⟨by rfl, ?y34⟩) (by assumption) ?r34
              case y34 => (intro w hSw; (try dsimp only at hSw); go_simp; (first | done | with_reducible rfl))
              try simp only [Act.put, List.setIfInBounds_toArray, List.set_cons_zero, List.set_cons_succ]
              refine wpAnyH_done (by kernel_rfl) ?_ _
              go_wp2_with fail
              go_meet
              exact ⟨w28.heap.size, ph0, kh0, rfl, rfl, HKhb031.out, HOh31.out.reads, HBs24_31.out⟩
          · go_simp
            have hb : Below w27.heap.size w27 (w27.alloc (.cells #[.slice none 0 0] 34)) := (Below.refl _ _).alloc (Nat.le_refl _) _
            have hk : (w27.alloc (.cells #[.slice none 0 0] 34)).heap[w27.heap.size]? = some (.cells #[.slice none 0 0] 34 (0, 0)) := alloc_at rfl
            have hz : (w27.alloc (.cells #[.slice none 0 0] 34)).heap.size = w27.heap.size + 1 := by simp
            generalize w27.alloc (.cells #[.slice none 0 0] 34) = w28 at hb hk hz ⊢
            have HB28 : Hid (Below w.heap.size w w28) := Lib.hid (HB27.out.trans (hb.mono HB27.out.size))
            have HZ28 : Hid (w27.heap.size ≤ w28.heap.size) := Lib.hid hb.size
            have HRf028 := Lib.hid (HRf00.out.below HB28.out (Nat.le_refl _))
            have HRf128 := Lib.hid (HRf10.out.below HB28.out (Nat.le_refl _))
            have HRf228 := Lib.hid (HRf20.out.below HB28.out (Nat.le_refl _))
            have HKa128 := Lib.hid ((hb.block _ (lt_of_block HKa127.out)).trans HKa127.out)
            have HKa228 := Lib.hid ((hb.block _ (lt_of_block HKa227.out)).trans HKa227.out)
            have HRhc028 := Lib.hid (HRhc027.out.below hb (Nat.le_refl _))
            have HRhc128 := Lib.hid (HRhc127.out.below hb (Nat.le_refl _))
            have HBs24_28 : Hid (Below w24.heap.size w24 w28) := Lib.hid (HBs24_27.out.trans (hb.mono HBs24_27.out.size))
            have HBs26_28 : Hid (Below w26.heap.size w26 w28) := Lib.hid (HBs26_27.out.trans (hb.mono HBs26_27.out.size))
            have HBs27_28 : Hid (Below w27.heap.size w27 w28) := Lib.hid (HBs27_27.out.trans (hb.mono HBs27_27.out.size))
            have HKhb028 := Lib.hid hk
            replace HZ28 : Hid (w27.heap.size < w28.heap.size) := Lib.hid (by omega)
            have HE28 := Lib.hid hz
            clear hb hk hz
            clear ca10 fa10 lta1 ca20 fa20 lta2
            have lta1 := lt_of_block HKa128.out
            obtain ⟨ca10, fa10⟩ := cell1 HKa128.out
            have lta2 := lt_of_block HKa228.out
            obtain ⟨ca20, fa20⟩ := cell1 HKa228.out
            have lthb0 := lt_of_block HKhb028.out
            obtain ⟨chb00, fhb00⟩ := cell1 HKhb028.out
            refine hK.out _ _ (⟨ca10, ca20⟩) (fun hHeld => ?_)
            clear hK K
            try simp only [Act.put, List.setIfInBounds_toArray, List.set_cons_zero, List.set_cons_succ]
            refine wpAnyH_ready (rs := [5]) (by kernel_rfl) (by simp) ?_
            refine AllReadyH.cons rfl (fun K hK => ?_) AllReadyH.nil
            go_simp
            go_at_call 20
            refine (toAmount_any _ cs2 _ HRf228.out hn2).mono ?_
            rintro e w29 ⟨⟨shc2, rfl, ho⟩, hb⟩
            have HB29 : Hid (Below w.heap.size w w29) := Lib.hid (HB28.out.trans (hb.mono HB28.out.size))
            have HZ29 : Hid (w28.heap.size ≤ w29.heap.size) := Lib.hid hb.size
            have HRf029 := Lib.hid (HRf00.out.below HB29.out (Nat.le_refl _))
            have HRf129 := Lib.hid (HRf10.out.below HB29.out (Nat.le_refl _))
            have HRf229 := Lib.hid (HRf20.out.below HB29.out (Nat.le_refl _))
            have HKa129 := Lib.hid ((hb.block _ (lt_of_block HKa128.out)).trans HKa128.out)
            have HKa229 := Lib.hid ((hb.block _ (lt_of_block HKa228.out)).trans HKa228.out)
            have HRhc029 := Lib.hid (HRhc028.out.below hb (Nat.le_refl _))
            have HRhc129 := Lib.hid (HRhc128.out.below hb (Nat.le_refl _))
            have HKhb029 := Lib.hid ((hb.block _ (lt_of_block HKhb028.out)).trans HKhb028.out)
            have HBs24_29 : Hid (Below w24.heap.size w24 w29) := Lib.hid (HBs24_28.out.trans (hb.mono HBs24_28.out.size))
            have HBs26_29 : Hid (Below w26.heap.size w26 w29) := Lib.hid (HBs26_28.out.trans (hb.mono HBs26_28.out.size))
            have HBs27_29 : Hid (Below w27.heap.size w27 w29) := Lib.hid (HBs27_28.out.trans (hb.mono HBs27_28.out.size))
            clear hb
            obtain ⟨phc2, khc2, rfl⟩ := ho.form
            have HRhc229 := Lib.hid (ho.reads)
            have HBs29_29 : Hid (Below w29.heap.size w29 w29) := Lib.hid (Below.refl _ _)
            clear ho
            clear ca10 fa10 lta1 ca20 fa20 lta2 chb00 fhb00 lthb0
            have lta1 := lt_of_block HKa129.out
            obtain ⟨ca10, fa10⟩ := cell1 HKa129.out
            have lta2 := lt_of_block HKa229.out
            obtain ⟨ca20, fa20⟩ := cell1 HKa229.out
            have lthb0 := lt_of_block HKhb029.out
            obtain ⟨chb00, fhb00⟩ := cell1 HKhb029.out
            try go_simp
            refine hK.out _ _ (⟨ca10, ca20⟩) (fun hHeld => ?_)
            clear hK K
            try simp only [Act.put, List.setIfInBounds_toArray, List.set_cons_zero, List.set_cons_succ]
            refine wpAnyH_ready (rs := [6]) (by kernel_rfl) (by simp) ?_
            refine AllReadyH.cons rfl (fun K hK => ?_) AllReadyH.nil
            go_simp
            go_at_call 31
            refine (HI.out _ _ _ _ HRhc029.out HRhc129.out HRhc229.out).mono ?_
            rintro e w30 ⟨⟨th0, rfl, ho⟩, hb⟩
            have HB30 : Hid (Below w.heap.size w w30) := Lib.hid (HB29.out.trans (hb.mono HB29.out.size))
            have HZ30 : Hid (w29.heap.size ≤ w30.heap.size) := Lib.hid hb.size
            have HRf030 := Lib.hid (HRf00.out.below HB30.out (Nat.le_refl _))
            have HRf130 := Lib.hid (HRf10.out.below HB30.out (Nat.le_refl _))
            have HRf230 := Lib.hid (HRf20.out.below HB30.out (Nat.le_refl _))
            have HKa130 := Lib.hid ((hb.block _ (lt_of_block HKa129.out)).trans HKa129.out)
            have HKa230 := Lib.hid ((hb.block _ (lt_of_block HKa229.out)).trans HKa229.out)
            have HRhc030 := Lib.hid (HRhc029.out.below hb (Nat.le_refl _))
            have HRhc130 := Lib.hid (HRhc129.out.below hb (Nat.le_refl _))
            have HKhb030 := Lib.hid ((hb.block _ (lt_of_block HKhb029.out)).trans HKhb029.out)
            have HRhc230 := Lib.hid (HRhc229.out.below hb (Nat.le_refl _))
            have HBs24_30 : Hid (Below w24.heap.size w24 w30) := Lib.hid (HBs24_29.out.trans (hb.mono HBs24_29.out.size))
            have HBs26_30 : Hid (Below w26.heap.size w26 w30) := Lib.hid (HBs26_29.out.trans (hb.mono HBs26_29.out.size))
            have HBs27_30 : Hid (Below w27.heap.size w27 w30) := Lib.hid (HBs27_29.out.trans (hb.mono HBs27_29.out.size))
            have HBs29_30 : Hid (Below w29.heap.size w29 w30) := Lib.hid (HBs29_29.out.trans (hb.mono HBs29_29.out.size))
            clear hb
            obtain ⟨ph0, kh0, rfl⟩ := ho.form
            have HOh30 := Lib.hid (ho)
            clear ho
            clear ca10 fa10 lta1 ca20 fa20 lta2 chb00 fhb00 lthb0
            have lta1 := lt_of_block HKa130.out
            obtain ⟨ca10, fa10⟩ := cell1 HKa130.out
            have lta2 := lt_of_block HKa230.out
            obtain ⟨ca20, fa20⟩ := cell1 HKa230.out
            have lthb0 := lt_of_block HKhb030.out
            obtain ⟨chb00, fhb00⟩ := cell1 HKhb030.out
            try go_simp
            refine hK.out _ _ (⟨ca10, ca20⟩) (fun hHeld => ?_)
            clear hK K
            try simp only [Act.put, List.setIfInBounds_toArray, List.set_cons_zero, List.set_cons_succ]
            refine take1 (i := 7) (v := ?v35) (some 115) rfl rfl (by kernel_rfl) (by kernel_rfl) (by kernel_rfl) (fun _ _ _ h => h) (Or.inl ⟨by rfl, ?y35⟩) (by assumption) ?r35
            case y35 => (intro w hSw; (try dsimp only at hSw); go_simp; (first | done | with_reducible rfl))
            try simp only [Act.put, List.setIfInBounds_toArray, List.set_cons_zero, List.set_cons_succ]
            refine take1 (i := 8) (v := ?v36) (some 123) rfl rfl (by kernel_rfl) (by kernel_rfl) (by kernel_rfl) (fun _ _ _ h => h) (Or.inl ⟨by rfl, ?y36⟩) (by assumption) ?r36
            case y36 => (intro w hSw; (try dsimp only at hSw); go_simp; (first | done | with_reducible rfl))
            try simp only [Act.put, List.setIfInBounds_toArray, List.set_cons_zero, List.set_cons_succ]
            refine take1 (i := 9) (v := ?v37) (some 124) rfl rfl (by kernel_rfl) (by kernel_rfl) (by kernel_rfl) (fun _ _ _ h => h) (Or.inl ⟨by rfl, ?y37⟩) (by assumption) ?r37
            case y37 => (intro w hSw; (try dsimp only at hSw); go_simp; (first | done | with_reducible rfl))
            try simp only [Act.put, List.setIfInBounds_toArray, List.set_cons_zero, List.set_cons_succ]
            refine wpAnyH_ready (rs := [11]) (by kernel_rfl) (by simp) ?_
            refine AllReadyH.cons rfl (fun K hK => ?_) AllReadyH.nil
            go_simp
            have hkb := box1_set HKhb030.out (.slice ph0 qs0.length kh0)
            have hm : Btw w27.heap.size (w27.heap.size + 1) w30 (w30.setCell ⟨w27.heap.size, 0, none⟩ (.slice ph0 qs0.length kh0)) := (Btw.refl (w27.heap.size) (w27.heap.size + 1) w30).setCell (p := ⟨w27.heap.size, 0, none⟩) (Nat.le_refl _) (Nat.lt_succ_self _) _
            generalize w30.setCell ⟨w27.heap.size, 0, none⟩ (.slice ph0 qs0.length kh0) = w31 at hkb hm ⊢
            have HZ31 : Hid (w30.heap.size ≤ w31.heap.size) := Lib.hid hm.size
            have HB31 : Hid (Below w.heap.size w w31) := Lib.hid (HB30.out.trans (hm.below.mono (by have := HZ25.out; have := HZ26.out; have := HZ27.out; have := HZ28.out; have := HZ29.out; have := HZ30.out; have := HB24.out.size; omega)))
            have HRf031 := Lib.hid (HRf00.out.below HB31.out (Nat.le_refl _))
            have HRf131 := Lib.hid (HRf10.out.below HB31.out (Nat.le_refl _))
            have HRf231 := Lib.hid (HRf20.out.below HB31.out (Nat.le_refl _))
            have HKa131 := Lib.hid ((hm.block _ (by have := lt_of_block HKa130.out; have := HZ25.out; have := HZ26.out; have := HZ27.out; have := HZ28.out; have := HZ29.out; have := HZ30.out; omega)).trans HKa130.out)
            have HKa231 := Lib.hid ((hm.block _ (by have := lt_of_block HKa230.out; have := HZ25.out; have := HZ26.out; have := HZ27.out; have := HZ28.out; have := HZ29.out; have := HZ30.out; omega)).trans HKa230.out)
            have HOh31 := Lib.hid (HOh30.out.btw hm (by have := HZ25.out; have := HZ26.out; have := HZ27.out; have := HZ28.out; have := HZ29.out; have := HZ30.out; omega))
            have HBs24_31 : Hid (Below w24.heap.size w24 w31) := Lib.hid (HBs24_30.out.trans (hm.below.mono (by have := HZ25.out; have := HZ26.out; have := HZ27.out; have := HZ28.out; have := HZ29.out; have := HZ30.out; omega)))
            clear hm
            have HKhb031 := Lib.hid (hkb)
            clear hkb
            clear ca10 fa10 lta1 ca20 fa20 lta2 chb00 fhb00 lthb0
            have lta1 := lt_of_block HKa131.out
            obtain ⟨ca10, fa10⟩ := cell1 HKa131.out
            have lta2 := lt_of_block HKa231.out
            obtain ⟨ca20, fa20⟩ := cell1 HKa231.out
            have lthb0 := lt_of_block HKhb031.out
            obtain ⟨chb00, fhb00⟩ := cell1 HKhb031.out
            refine hK.out _ _ (⟨ca10, ca20⟩) (fun hHeld => ?_)
            clear hK K
            try simp only [Act.put]
            refine take1 (i := 12) (v := ?v38) (some 19) rfl rfl (by kernel_rfl) (by kernel_rfl) (by kernel_rfl) (fun _ _ _ h => h) (Or.inl ⟨by rfl, ?y38⟩) (by assumption) ?r38
            case y38 => (intro w hSw; (try dsimp only at hSw); go_simp; (first | done | with_reducible rfl))
            try simp only [Act.put, List.setIfInBounds_toArray, List.set_cons_zero, List.set_cons_succ]
            refine wpAnyH_done (by kernel_rfl) ?_ _
            go_wp2_with fail
            go_meet
            exact ⟨w27.heap.size, ph0, kh0, rfl, rfl, HKhb031.out, HOh31.out.reads, HBs24_31.out⟩
        · go_simp
          have hb : Below w26.heap.size w26 (w26.alloc (.cells #[.slice none 0 0] 34)) := (Below.refl _ _).alloc (Nat.le_refl _) _
          have hk : (w26.alloc (.cells #[.slice none 0 0] 34)).heap[w26.heap.size]? = some (.cells #[.slice none 0 0] 34 (0, 0)) := alloc_at rfl
          have hz : (w26.alloc (.cells #[.slice none 0 0] 34)).heap.size = w26.heap.size + 1 := by simp
          generalize w26.alloc (.cells #[.slice none 0 0] 34) = w27 at hb hk hz ⊢
          have HB27 : Hid (Below w.heap.size w w27) := Lib.hid (HB26.out.trans (hb.mono HB26.out.size))
          have HZ27 : Hid (w26.heap.size ≤ w27.heap.size) := Lib.hid hb.size
          have HRf027 := Lib.hid (HRf00.out.below HB27.out (Nat.le_refl _))
          have HRf127 := Lib.hid (HRf10.out.below HB27.out (Nat.le_refl _))
          have HRf227 := Lib.hid (HRf20.out.below HB27.out (Nat.le_refl _))
          have HKa127 := Lib.hid ((hb.block _ (lt_of_block HKa126.out)).trans HKa126.out)
          have HKa227 := Lib.hid ((hb.block _ (lt_of_block HKa226.out)).trans HKa226.out)
          have HRhc027 := Lib.hid (HRhc026.out.below hb (Nat.le_refl _))
          have HBs24_27 : Hid (Below w24.heap.size w24 w27) := Lib.hid (HBs24_26.out.trans (hb.mono HBs24_26.out.size))
          have HBs26_27 : Hid (Below w26.heap.size w26 w27) := Lib.hid (HBs26_26.out.trans (hb.mono HBs26_26.out.size))
          have HKhb027 := Lib.hid hk
          replace HZ27 : Hid (w26.heap.size < w27.heap.size) := Lib.hid (by omega)
          have HE27 := Lib.hid hz
          clear hb hk hz
          clear ca10 fa10 lta1 ca20 fa20 lta2
          have lta1 := lt_of_block HKa127.out
          obtain ⟨ca10, fa10⟩ := cell1 HKa127.out
          have lta2 := lt_of_block HKa227.out
          obtain ⟨ca20, fa20⟩ := cell1 HKa227.out
          have lthb0 := lt_of_block HKhb027.out
          obtain ⟨chb00, fhb00⟩ := cell1 HKhb027.out
          refine hK.out _ _ (⟨ca10, ca20⟩) (fun hHeld => ?_)
          clear hK K
          try simp only [Act.put, List.setIfInBounds_toArray, List.set_cons_zero, List.set_cons_succ]
          refine wpAnyH_ready (rs := [3]) (by kernel_rfl) (by simp) ?_
          refine AllReadyH.cons rfl (fun K hK => ?_) AllReadyH.nil
          go_simp
          go_at_call 20
          refine (toAmount_any _ cs1 _ HRf127.out hn1).mono ?_
          rintro e w28 ⟨⟨shc1, rfl, ho⟩, hb⟩
          have HB28 : Hid (Below w.heap.size w w28) := Lib.hid (HB27.out.trans (hb.mono HB27.out.size))
          have HZ28 : Hid (w27.heap.size ≤ w28.heap.size) := Lib.hid hb.size
          have HRf028 := Lib.hid (HRf00.out.below HB28.out (Nat.le_refl _))
          have HRf128 := Lib.hid (HRf10.out.below HB28.out (Nat.le_refl _))
          have HRf228 := Lib.hid (HRf20.out.below HB28.out (Nat.le_refl _))
          have HKa128 := Lib.hid ((hb.block _ (lt_of_block HKa127.out)).trans HKa127.out)
          have HKa228 := Lib.hid ((hb.block _ (lt_of_block HKa227.out)).trans HKa227.out)
          have HRhc028 := Lib.hid (HRhc027.out.below hb (Nat.le_refl _))
          have HKhb028 := Lib.hid ((hb.block _ (lt_of_block HKhb027.out)).trans HKhb027.out)
          have HBs24_28 : Hid (Below w24.heap.size w24 w28) := Lib.hid (HBs24_27.out.trans (hb.mono HBs24_27.out.size))
          have HBs26_28 : Hid (Below w26.heap.size w26 w28) := Lib.hid (HBs26_27.out.trans (hb.mono HBs26_27.out.size))
          clear hb
          obtain ⟨phc1, khc1, rfl⟩ := ho.form
          have HRhc128 := Lib.hid (ho.reads)
          have HBs28_28 : Hid (Below w28.heap.size w28 w28) := Lib.hid (Below.refl _ _)
          clear ho
          clear ca10 fa10 lta1 ca20 fa20 lta2 chb00 fhb00 lthb0
          have lta1 := lt_of_block HKa128.out
          obtain ⟨ca10, fa10⟩ := cell1 HKa128.out
          have lta2 := lt_of_block HKa228.out
          obtain ⟨ca20, fa20⟩ := cell1 HKa228.out
          have lthb0 := lt_of_block HKhb028.out
          obtain ⟨chb00, fhb00⟩ := cell1 HKhb028.out
          try go_simp
          refine hK.out _ _ (⟨ca10, ca20⟩) (fun hHeld => ?_)
          clear hK K
          try simp only [Act.put, List.setIfInBounds_toArray, List.set_cons_zero, List.set_cons_succ]
          refine wpAnyH_ready (rs := [5]) (by kernel_rfl) (by simp) ?_
          refine AllReadyH.cons rfl (fun K hK => ?_) AllReadyH.nil
          go_simp
          go_at_call 20
          refine (toAmount_any _ cs2 _ HRf228.out hn2).mono ?_
          rintro e w29 ⟨⟨shc2, rfl, ho⟩, hb⟩
          have HB29 : Hid (Below w.heap.size w w29) := Lib.hid (HB28.out.trans (hb.mono HB28.out.size))
          have HZ29 : Hid (w28.heap.size ≤ w29.heap.size) := Lib.hid hb.size
          have HRf029 := Lib.hid (HRf00.out.below HB29.out (Nat.le_refl _))
          have HRf129 := Lib.hid (HRf10.out.below HB29.out (Nat.le_refl _))
          have HRf229 := Lib.hid (HRf20.out.below HB29.out (Nat.le_refl _))
          have HKa129 := Lib.hid ((hb.block _ (lt_of_block HKa128.out)).trans HKa128.out)
          have HKa229 := Lib.hid ((hb.block _ (lt_of_block HKa228.out)).trans HKa228.out)
          have HRhc029 := Lib.hid (HRhc028.out.below hb (Nat.le_refl _))
          have HKhb029 := Lib.hid ((hb.block _ (lt_of_block HKhb028.out)).trans HKhb028.out)
          have HRhc129 := Lib.hid (HRhc128.out.below hb (Nat.le_refl _))
          have HBs24_29 : Hid (Below w24.heap.size w24 w29) := Lib.hid (HBs24_28.out.trans (hb.mono HBs24_28.out.size))
          have HBs26_29 : Hid (Below w26.heap.size w26 w29) := Lib.hid (HBs26_28.out.trans (hb.mono HBs26_28.out.size))
          have HBs28_29 : Hid (Below w28.heap.size w28 w29) := Lib.hid (HBs28_28.out.trans (hb.mono HBs28_28.out.size))
          clear hb
          obtain ⟨phc2, khc2, rfl⟩ := ho.form
          have HRhc229 := Lib.hid (ho.reads)
          have HBs29_29 : Hid (Below w29.heap.size w29 w29) := Lib.hid (Below.refl _ _)
          clear ho
          clear ca10 fa10 lta1 ca20 fa20 lta2 chb00 fhb00 lthb0
          have lta1 := lt_of_block HKa129.out
          obtain ⟨ca10, fa10⟩ := cell1 HKa129.out
          have lta2 := lt_of_block HKa229.out
          obtain ⟨ca20, fa20⟩ := cell1 HKa229.out
          have lthb0 := lt_of_block HKhb029.out
          obtain ⟨chb00, fhb00⟩ := cell1 HKhb029.out
          try go_simp
          refine hK.out _ _ (⟨ca10, ca20⟩) (fun hHeld => ?_)
          clear hK K
          try simp only [Act.put, List.setIfInBounds_toArray, List.set_cons_zero, List.set_cons_succ]
          refine wpAnyH_ready (rs := [6]) (by kernel_rfl) (by simp) ?_
          refine AllReadyH.cons rfl (fun K hK => ?_) AllReadyH.nil
          go_simp
          go_at_call 31
          refine (HI.out _ _ _ _ HRhc029.out HRhc129.out HRhc229.out).mono ?_
          rintro e w30 ⟨⟨th0, rfl, ho⟩, hb⟩
          have HB30 : Hid (Below w.heap.size w w30) := Lib.hid (HB29.out.trans (hb.mono HB29.out.size))
          have HZ30 : Hid (w29.heap.size ≤ w30.heap.size) := Lib.hid hb.size
          have HRf030 := Lib.hid (HRf00.out.below HB30.out (Nat.le_refl _))
          have HRf130 := Lib.hid (HRf10.out.below HB30.out (Nat.le_refl _))
          have HRf230 := Lib.hid (HRf20.out.below HB30.out (Nat.le_refl _))
          have HKa130 := Lib.hid ((hb.block _ (lt_of_block HKa129.out)).trans HKa129.out)
          have HKa230 := Lib.hid ((hb.block _ (lt_of_block HKa229.out)).trans HKa229.out)
          have HRhc030 := Lib.hid (HRhc029.out.below hb (Nat.le_refl _))
          have HKhb030 := Lib.hid ((hb.block _ (lt_of_block HKhb029.out)).trans HKhb029.out)
          have HRhc130 := Lib.hid (HRhc129.out.below hb (Nat.le_refl _))
          have HRhc230 := Lib.hid (HRhc229.out.below hb (Nat.le_refl _))
          have HBs24_30 : Hid (Below w24.heap.size w24 w30) := Lib.hid (HBs24_29.out.trans (hb.mono HBs24_29.out.size))
          have HBs26_30 : Hid (Below w26.heap.size w26 w30) := Lib.hid (HBs26_29.out.trans (hb.mono HBs26_29.out.size))
          have HBs28_30 : Hid (Below w28.heap.size w28 w30) := Lib.hid (HBs28_29.out.trans (hb.mono HBs28_29.out.size))
          have HBs29_30 : Hid (Below w29.heap.size w29 w30) := Lib.hid (HBs29_29.out.trans (hb.mono HBs29_29.out.size))
          clear hb
          obtain ⟨ph0, kh0, rfl⟩ := ho.form
          have HOh30 := Lib.hid (ho)
          clear ho
          clear ca10 fa10 lta1 ca20 fa20 lta2 chb00 fhb00 lthb0
          have lta1 := lt_of_block HKa130.out
          obtain ⟨ca10, fa10⟩ := cell1 HKa130.out
          have lta2 := lt_of_block HKa230.out
          obtain ⟨ca20, fa20⟩ := cell1 HKa230.out
          have lthb0 := lt_of_block HKhb030.out
          obtain ⟨chb00, fhb00⟩ := cell1 HKhb030.out
          try go_simp
          refine hK.out _ _ (⟨ca10, ca20⟩) (fun hHeld => ?_)
          clear hK K
          try simp only [Act.put, List.setIfInBounds_toArray, List.set_cons_zero, List.set_cons_succ]
          refine take1 (i := 7) (v := ?v39) (some 115) rfl rfl (by kernel_rfl) (by kernel_rfl) (by kernel_rfl) (fun _ _ _ h => h) (Or.inl ⟨by rfl, ?y39⟩) (by assumption) ?r39
          case y39 => (intro w hSw; (try dsimp only at hSw); go_simp; (first | done | with_reducible rfl))
          try simp only [Act.put, List.setIfInBounds_toArray, List.set_cons_zero, List.set_cons_succ]
          refine take1 (i := 8) (v := ?v40) (some 123) rfl rfl (by kernel_rfl) (by kernel_rfl) (by kernel_rfl) (fun _ _ _ h => h) (Or.inl ⟨by rfl, ?y40⟩) (by assumption) ?r40
          case y40 => (intro w hSw; (try dsimp only at hSw); go_simp; (first | done | with_reducible rfl))
          try simp only [Act.put, List.setIfInBounds_toArray, List.set_cons_zero, List.set_cons_succ]
          refine take1 (i := 9) (v := ?v41) (some 124) rfl rfl (by kernel_rfl) (by kernel_rfl) (by kernel_rfl) (fun _ _ _ h => h) (Or.inl ⟨by rfl, ?y41⟩) (by assumption) ?r41
          case y41 => (intro w hSw; (try dsimp only at hSw); go_simp; (first | done | with_reducible rfl))
          try simp only [Act.put, List.setIfInBounds_toArray, List.set_cons_zero, List.set_cons_succ]
          refine wpAnyH_ready (rs := [11]) (by kernel_rfl) (by simp) ?_
          refine AllReadyH.cons rfl (fun K hK => ?_) AllReadyH.nil
          go_simp
          have hkb := box1_set HKhb030.out (.slice ph0 qs0.length kh0)
          have hm : Btw w26.heap.size (w26.heap.size + 1) w30 (w30.setCell ⟨w26.heap.size, 0, none⟩ (.slice ph0 qs0.length kh0)) := (Btw.refl (w26.heap.size) (w26.heap.size + 1) w30).setCell (p := ⟨w26.heap.size, 0, none⟩) (Nat.le_refl _) (Nat.lt_succ_self _) _
          generalize w30.setCell ⟨w26.heap.size, 0, none⟩ (.slice ph0 qs0.length kh0) = w31 at hkb hm ⊢
          have HZ31 : Hid (w30.heap.size ≤ w31.heap.size) := Lib.hid hm.size
          have HB31 : Hid (Below w.heap.size w w31) := Lib.hid (HB30.out.trans (hm.below.mono (by have := HZ25.out; have := HZ26.out; have := HZ27.out; have := HZ28.out; have := HZ29.out; have := HZ30.out; have := HB24.out.size; omega)))
          have HRf031 := Lib.hid (HRf00.out.below HB31.out (Nat.le_refl _))
          have HRf131 := Lib.hid (HRf10.out.below HB31.out (Nat.le_refl _))
          have HRf231 := Lib.hid (HRf20.out.below HB31.out (Nat.le_refl _))
          have HKa131 := Lib.hid ((hm.block _ (by have := lt_of_block HKa130.out; have := HZ25.out; have := HZ26.out; have := HZ27.out; have := HZ28.out; have := HZ29.out; have := HZ30.out; omega)).trans HKa130.out)
          have HKa231 := Lib.hid ((hm.block _ (by have := lt_of_block HKa230.out; have := HZ25.out; have := HZ26.out; have := HZ27.out; have := HZ28.out; have := HZ29.out; have := HZ30.out; omega)).trans HKa230.out)
          have HOh31 := Lib.hid (HOh30.out.btw hm (by have := HZ25.out; have := HZ26.out; have := HZ27.out; have := HZ28.out; have := HZ29.out; have := HZ30.out; omega))
          have HBs24_31 : Hid (Below w24.heap.size w24 w31) := Lib.hid (HBs24_30.out.trans (hm.below.mono (by have := HZ25.out; have := HZ26.out; have := HZ27.out; have := HZ28.out; have := HZ29.out; have := HZ30.out; omega)))
          clear hm
          have HKhb031 := Lib.hid (hkb)
          clear hkb
          clear ca10 fa10 lta1 ca20 fa20 lta2 chb00 fhb00 lthb0
          have lta1 := lt_of_block HKa131.out
          obtain ⟨ca10, fa10⟩ := cell1 HKa131.out
          have lta2 := lt_of_block HKa231.out
          obtain ⟨ca20, fa20⟩ := cell1 HKa231.out
          have lthb0 := lt_of_block HKhb031.out
          obtain ⟨chb00, fhb00⟩ := cell1 HKhb031.out
          refine hK.out _ _ (⟨ca10, ca20⟩) (fun hHeld => ?_)
          clear hK K
          try simp only [Act.put]
          refine take1 (i := 12) (v := ?v42) (some 19) rfl rfl (by kernel_rfl) (by kernel_rfl) (by kernel_rfl) (fun _ _ _ h => h) (Or.inl ⟨by rfl, ?y42⟩) (by assumption) ?r42
          case y42 => (intro w hSw; (try dsimp only at hSw); go_simp; (first | done | with_reducible rfl))
          try simp only [Act.put, List.setIfInBounds_toArray, List.set_cons_zero, List.set_cons_succ]
          refine wpAnyH_done (by kernel_rfl) ?_ _
          go_wp2_with fail
          go_meet
          exact ⟨w26.heap.size, ph0, kh0, rfl, rfl, HKhb031.out, HOh31.out.reads, HBs24_31.out⟩
      · go_simp
        have hb : Below w25.heap.size w25 (w25.alloc (.cells #[.slice none 0 0] 34)) := (Below.refl _ _).alloc (Nat.le_refl _) _
        have hk : (w25.alloc (.cells #[.slice none 0 0] 34)).heap[w25.heap.size]? = some (.cells #[.slice none 0 0] 34 (0, 0)) := alloc_at rfl
        have hz : (w25.alloc (.cells #[.slice none 0 0] 34)).heap.size = w25.heap.size + 1 := by simp
        generalize w25.alloc (.cells #[.slice none 0 0] 34) = w26 at hb hk hz ⊢
        have HB26 : Hid (Below w.heap.size w w26) := Lib.hid (HB25.out.trans (hb.mono HB25.out.size))
        have HZ26 : Hid (w25.heap.size ≤ w26.heap.size) := Lib.hid hb.size
        have HRf026 := Lib.hid (HRf00.out.below HB26.out (Nat.le_refl _))
        have HRf126 := Lib.hid (HRf10.out.below HB26.out (Nat.le_refl _))
        have HRf226 := Lib.hid (HRf20.out.below HB26.out (Nat.le_refl _))
        have HKa126 := Lib.hid ((hb.block _ (lt_of_block HKa125.out)).trans HKa125.out)
        have HKa226 := Lib.hid ((hb.block _ (lt_of_block HKa225.out)).trans HKa225.out)
        have HBs24_26 : Hid (Below w24.heap.size w24 w26) := Lib.hid (HBs24_25.out.trans (hb.mono HBs24_25.out.size))
        have HKhb026 := Lib.hid hk
        replace HZ26 : Hid (w25.heap.size < w26.heap.size) := Lib.hid (by omega)
        have HE26 := Lib.hid hz
        clear hb hk hz
        clear ca10 fa10 lta1 ca20 fa20 lta2
        have lta1 := lt_of_block HKa126.out
        obtain ⟨ca10, fa10⟩ := cell1 HKa126.out
        have lta2 := lt_of_block HKa226.out
        obtain ⟨ca20, fa20⟩ := cell1 HKa226.out
        have lthb0 := lt_of_block HKhb026.out
        obtain ⟨chb00, fhb00⟩ := cell1 HKhb026.out
        refine hK.out _ _ (⟨ca10, ca20⟩) (fun hHeld => ?_)
        clear hK K
        try simp only [Act.put, List.setIfInBounds_toArray, List.set_cons_zero, List.set_cons_succ]
        refine wpAnyH_ready (rs := [1]) (by kernel_rfl) (by simp) ?_
        refine AllReadyH.cons rfl (fun K hK => ?_) AllReadyH.nil
        go_simp
        go_at_call 15
        refine (toUnitS_any _ us0 _ HRf026.out hn0).mono ?_
        rintro e w27 ⟨⟨shc0, rfl, ho⟩, hb⟩
        have HB27 : Hid (Below w.heap.size w w27) := Lib.hid (HB26.out.trans (hb.mono HB26.out.size))
        have HZ27 : Hid (w26.heap.size ≤ w27.heap.size) := Lib.hid hb.size
        have HRf027 := Lib.hid (HRf00.out.below HB27.out (Nat.le_refl _))
        have HRf127 := Lib.hid (HRf10.out.below HB27.out (Nat.le_refl _))
        have HRf227 := Lib.hid (HRf20.out.below HB27.out (Nat.le_refl _))
        have HKa127 := Lib.hid ((hb.block _ (lt_of_block HKa126.out)).trans HKa126.out)
        have HKa227 := Lib.hid ((hb.block _ (lt_of_block HKa226.out)).trans HKa226.out)
        have HKhb027 := Lib.hid ((hb.block _ (lt_of_block HKhb026.out)).trans HKhb026.out)
        have HBs24_27 : Hid (Below w24.heap.size w24 w27) := Lib.hid (HBs24_26.out.trans (hb.mono HBs24_26.out.size))
        clear hb
        obtain ⟨phc0, khc0, rfl⟩ := own_form ho
        have HRhc027 := Lib.hid (RowsR.of_own unC_len ho)
        have HBs27_27 : Hid (Below w27.heap.size w27 w27) := Lib.hid (Below.refl _ _)
        clear ho
        clear ca10 fa10 lta1 ca20 fa20 lta2 chb00 fhb00 lthb0
        have lta1 := lt_of_block HKa127.out
        obtain ⟨ca10, fa10⟩ := cell1 HKa127.out
        have lta2 := lt_of_block HKa227.out
        obtain ⟨ca20, fa20⟩ := cell1 HKa227.out
        have lthb0 := lt_of_block HKhb027.out
        obtain ⟨chb00, fhb00⟩ := cell1 HKhb027.out
        try go_simp
        refine hK.out _ _ (⟨ca10, ca20⟩) (fun hHeld => ?_)
        clear hK K
        try simp only [Act.put, List.setIfInBounds_toArray, List.set_cons_zero, List.set_cons_succ]
        refine wpAnyH_ready (rs := [3]) (by kernel_rfl) (by simp) ?_
        refine AllReadyH.cons rfl (fun K hK => ?_) AllReadyH.nil
        go_simp
        go_at_call 20
        refine (toAmount_any _ cs1 _ HRf127.out hn1).mono ?_
        rintro e w28 ⟨⟨shc1, rfl, ho⟩, hb⟩
        have HB28 : Hid (Below w.heap.size w w28) := Lib.hid (HB27.out.trans (hb.mono HB27.out.size))
        have HZ28 : Hid (w27.heap.size ≤ w28.heap.size) := Lib.hid hb.size
        have HRf028 := Lib.hid (HRf00.out.below HB28.out (Nat.le_refl _))
        have HRf128 := Lib.hid (HRf10.out.below HB28.out (Nat.le_refl _))
        have HRf228 := Lib.hid (HRf20.out.below HB28.out (Nat.le_refl _))
        have HKa128 := Lib.hid ((hb.block _ (lt_of_block HKa127.out)).trans HKa127.out)
        have HKa228 := Lib.hid ((hb.block _ (lt_of_block HKa227.out)).trans HKa227.out)
        have HKhb028 := Lib.hid ((hb.block _ (lt_of_block HKhb027.out)).trans HKhb027.out)
        have HRhc028 := Lib.hid (HRhc027.out.below hb (Nat.le_refl _))
        have HBs24_28 : Hid (Below w24.heap.size w24 w28) := Lib.hid (HBs24_27.out.trans (hb.mono HBs24_27.out.size))
        have HBs27_28 : Hid (Below w27.heap.size w27 w28) := Lib.hid (HBs27_27.out.trans (hb.mono HBs27_27.out.size))
        clear hb
        obtain ⟨phc1, khc1, rfl⟩ := ho.form
        have HRhc128 := Lib.hid (ho.reads)
        have HBs28_28 : Hid (Below w28.heap.size w28 w28) := Lib.hid (Below.refl _ _)
        clear ho
        clear ca10 fa10 lta1 ca20 fa20 lta2 chb00 fhb00 lthb0
        have lta1 := lt_of_block HKa128.out
        obtain ⟨ca10, fa10⟩ := cell1 HKa128.out
        have lta2 := lt_of_block HKa228.out
        obtain ⟨ca20, fa20⟩ := cell1 HKa228.out
        have lthb0 := lt_of_block HKhb028.out
        obtain ⟨chb00, fhb00⟩ := cell1 HKhb028.out
        try go_simp
        refine hK.out _ _ (⟨ca10, ca20⟩) (fun hHeld => ?_)
        clear hK K
        try simp only [Act.put, List.setIfInBounds_toArray, List.set_cons_zero, List.set_cons_succ]
        refine wpAnyH_ready (rs := [5]) (by kernel_rfl) (by simp) ?_
        refine AllReadyH.cons rfl (fun K hK => ?_) AllReadyH.nil
        go_simp
        go_at_call 20
        refine (toAmount_any _ cs2 _ HRf228.out hn2).mono ?_
        rintro e w29 ⟨⟨shc2, rfl, ho⟩, hb⟩
        have HB29 : Hid (Below w.heap.size w w29) := Lib.hid (HB28.out.trans (hb.mono HB28.out.size))
        have HZ29 : Hid (w28.heap.size ≤ w29.heap.size) := Lib.hid hb.size
        have HRf029 := Lib.hid (HRf00.out.below HB29.out (Nat.le_refl _))
        have HRf129 := Lib.hid (HRf10.out.below HB29.out (Nat.le_refl _))
        have HRf229 := Lib.hid (HRf20.out.below HB29.out (Nat.le_refl _))
        have HKa129 := Lib.hid ((hb.block _ (lt_of_block HKa128.out)).trans HKa128.out)
        have HKa229 := Lib.hid ((hb.block _ (lt_of_block HKa228.out)).trans HKa228.out)
        have HKhb029 := Lib.hid ((hb.block _ (lt_of_block HKhb028.out)).trans HKhb028.out)
        have HRhc029 := Lib.hid (HRhc028.out.below hb (Nat.le_refl _))
        have HRhc129 := Lib.hid (HRhc128.out.below hb (Nat.le_refl _))
        have HBs24_29 : Hid (Below w24.heap.size w24 w29) := Lib.hid (HBs24_28.out.trans (hb.mono HBs24_28.out.size))
        have HBs27_29 : Hid (Below w27.heap.size w27 w29) := Lib.hid (HBs27_28.out.trans (hb.mono HBs27_28.out.size))
        have HBs28_29 : Hid (Below w28.heap.size w28 w29) := Lib.hid (HBs28_28.out.trans (hb.mono HBs28_28.out.size))
        clear hb
        obtain ⟨phc2, khc2, rfl⟩ := ho.form
        have HRhc229 := Lib.hid (ho.reads)
        have HBs29_29 : Hid (Below w29.heap.size w29 w29) := Lib.hid (Below.refl _ _)
        clear ho
        clear ca10 fa10 lta1 ca20 fa20 lta2 chb00 fhb00 lthb0
        have lta1 := lt_of_block HKa129.out
        obtain ⟨ca10, fa10⟩ := cell1 HKa129.out
        have lta2 := lt_of_block HKa229.out
        obtain ⟨ca20, fa20⟩ := cell1 HKa229.out
        have lthb0 := lt_of_block HKhb029.out
        obtain ⟨chb00, fhb00⟩ := cell1 HKhb029.out
        try go_simp
        refine hK.out _ _ (⟨ca10, ca20⟩) (fun hHeld => ?_)
        clear hK K
        try simp only [Act.put, List.setIfInBounds_toArray, List.set_cons_zero, List.set_cons_succ]
        refine wpAnyH_ready (rs := [6]) (by kernel_rfl) (by simp) ?_
        refine AllReadyH.cons rfl (fun K hK => ?_) AllReadyH.nil
        go_simp
        go_at_call 31
        refine (HI.out _ _ _ _ HRhc029.out HRhc129.out HRhc229.out).mono ?_
        rintro e w30 ⟨⟨th0, rfl, ho⟩, hb⟩
        have HB30 : Hid (Below w.heap.size w w30) := Lib.hid (HB29.out.trans (hb.mono HB29.out.size))
        have HZ30 : Hid (w29.heap.size ≤ w30.heap.size) := Lib.hid hb.size
        have HRf030 := Lib.hid (HRf00.out.below HB30.out (Nat.le_refl _))
        have HRf130 := Lib.hid (HRf10.out.below HB30.out (Nat.le_refl _))
        have HRf230 := Lib.hid (HRf20.out.below HB30.out (Nat.le_refl _))
        have HKa130 := Lib.hid ((hb.block _ (lt_of_block HKa129.out)).trans HKa129.out)
        have HKa230 := Lib.hid ((hb.block _ (lt_of_block HKa229.out)).trans HKa229.out)
        have HKhb030 := Lib.hid ((hb.block _ (lt_of_block HKhb029.out)).trans HKhb029.out)
        have HRhc030 := Lib.hid (HRhc029.out.below hb (Nat.le_refl _))
        have HRhc130 := Lib.hid (HRhc129.out.below hb (Nat.le_refl _))
        have HRhc230 := Lib.hid (HRhc229.out.below hb (Nat.le_refl _))
        have HBs24_30 : Hid (Below w24.heap.size w24 w30) := Lib.hid (HBs24_29.out.trans (hb.mono HBs24_29.out.size))
        have HBs27_30 : Hid (Below w27.heap.size w27 w30) := Lib.hid (HBs27_29.out.trans (hb.mono HBs27_29.out.size))
        have HBs28_30 : Hid (Below w28.heap.size w28 w30) := Lib.hid (HBs28_29.out.trans (hb.mono HBs28_29.out.size))
        have HBs29_30 : Hid (Below w29.heap.size w29 w30) := Lib.hid (HBs29_29.out.trans (hb.mono HBs29_29.out.size))
        clear hb
        obtain ⟨ph0, kh0, rfl⟩ := ho.form
        have HOh30 := Lib.hid (ho)
        clear ho
        clear ca10 fa10 lta1 ca20 fa20 lta2 chb00 fhb00 lthb0
        have lta1 := lt_of_block HKa130.out
        obtain ⟨ca10, fa10⟩ := cell1 HKa130.out
        have lta2 := lt_of_block HKa230.out
        obtain ⟨ca20, fa20⟩ := cell1 HKa230.out
        have lthb0 := lt_of_block HKhb030.out
        obtain ⟨chb00, fhb00⟩ := cell1 HKhb030.out
        try go_simp
        refine hK.out _ _ (⟨ca10, ca20⟩) (fun hHeld => ?_)
        clear hK K
        try simp only [Act.put, List.setIfInBounds_toArray, List.set_cons_zero, List.set_cons_succ]
        refine take1 (i := 7) (v := ?v43) (some 115) rfl rfl (by kernel_rfl) (by kernel_rfl) (by kernel_rfl) (fun _ _ _ h => h) (Or.inl ⟨by rfl, ?y43⟩) (by assumption) ?r43
        case y43 => (intro w hSw; (try dsimp only at hSw); go_simp; (first | done | with_reducible rfl))
        try simp only [Act.put, List.setIfInBounds_toArray, List.set_cons_zero, List.set_cons_succ]
        refine take1 (i := 8) (v := ?v44) (some 123) rfl rfl (by kernel_rfl) (by kernel_rfl) (by kernel_rfl) (fun _ _ _ h => h) (Or.inl ⟨by rfl, ?y44⟩) (by assumption) ?r44
        case y44 => (intro w hSw; (try dsimp only at hSw); go_simp; (first | done | with_reducible rfl))
        try simp only [Act.put, List.setIfInBounds_toArray, List.set_cons_zero, List.set_cons_succ]
        refine take1 (i := 9) (v := ?v45) (some 124) rfl rfl (by kernel_rfl) (by kernel_rfl) (by kernel_rfl) (fun _ _ _ h => h) (Or.inl ⟨by rfl, ?y45⟩) (by assumption) ?r45
        case y45 => (intro w hSw; (try dsimp only at hSw); go_simp; (first | done | with_reducible rfl))
        try simp only [Act.put, List.setIfInBounds_toArray, List.set_cons_zero, List.set_cons_succ]
        refine wpAnyH_ready (rs := [11]) (by kernel_rfl) (by simp) ?_
        refine AllReadyH.cons rfl (fun K hK => ?_) AllReadyH.nil
        go_simp
        have hkb := box1_set HKhb030.out (.slice ph0 qs0.length kh0)
        have hm : Btw w25.heap.size (w25.heap.size + 1) w30 (w30.setCell ⟨w25.heap.size, 0, none⟩ (.slice ph0 qs0.length kh0)) := (Btw.refl (w25.heap.size) (w25.heap.size + 1) w30).setCell (p := ⟨w25.heap.size, 0, none⟩) (Nat.le_refl _) (Nat.lt_succ_self _) _
        generalize w30.setCell ⟨w25.heap.size, 0, none⟩ (.slice ph0 qs0.length kh0) = w31 at hkb hm ⊢
        have HZ31 : Hid (w30.heap.size ≤ w31.heap.size) := Lib.hid hm.size
        have HB31 : Hid (Below w.heap.size w w31) := Lib.hid (HB30.out.trans (hm.below.mono (by have := HZ25.out; have := HZ26.out; have := HZ27.out; have := HZ28.out; have := HZ29.out; have := HZ30.out; have := HB24.out.size; omega)))
        have HRf031 := Lib.hid (HRf00.out.below HB31.out (Nat.le_refl _))
        have HRf131 := Lib.hid (HRf10.out.below HB31.out (Nat.le_refl _))
        have HRf231 := Lib.hid (HRf20.out.below HB31.out (Nat.le_refl _))
        have HKa131 := Lib.hid ((hm.block _ (by have := lt_of_block HKa130.out; have := HZ25.out; have := HZ26.out; have := HZ27.out; have := HZ28.out; have := HZ29.out; have := HZ30.out; omega)).trans HKa130.out)
        have HKa231 := Lib.hid ((hm.block _ (by have := lt_of_block HKa230.out; have := HZ25.out; have := HZ26.out; have := HZ27.out; have := HZ28.out; have := HZ29.out; have := HZ30.out; omega)).trans HKa230.out)
        have HOh31 := Lib.hid (HOh30.out.btw hm (by have := HZ25.out; have := HZ26.out; have := HZ27.out; have := HZ28.out; have := HZ29.out; have := HZ30.out; omega))
        have HBs24_31 : Hid (Below w24.heap.size w24 w31) := Lib.hid (HBs24_30.out.trans (hm.below.mono (by have := HZ25.out; have := HZ26.out; have := HZ27.out; have := HZ28.out; have := HZ29.out; have := HZ30.out; omega)))
        clear hm
        have HKhb031 := Lib.hid (hkb)
        clear hkb
        clear ca10 fa10 lta1 ca20 fa20 lta2 chb00 fhb00 lthb0
        have lta1 := lt_of_block HKa131.out
        obtain ⟨ca10, fa10⟩ := cell1 HKa131.out
        have lta2 := lt_of_block HKa231.out
        obtain ⟨ca20, fa20⟩ := cell1 HKa231.out
        have lthb0 := lt_of_block HKhb031.out
        obtain ⟨chb00, fhb00⟩ := cell1 HKhb031.out
        refine hK.out _ _ (⟨ca10, ca20⟩) (fun hHeld => ?_)
        clear hK K
        try simp only [Act.put]
        refine take1 (i := 12) (v := ?v46) (some 19) rfl rfl (by kernel_rfl) (by kernel_rfl) (by kernel_rfl) (fun _ _ _ h => h) (Or.inl ⟨by rfl, ?y46⟩) (by assumption) ?r46
        case y46 => (intro w hSw; (try dsimp only at hSw); go_simp; (first | done | with_reducible rfl))
        try simp only [Act.put, List.setIfInBounds_toArray, List.set_cons_zero, List.set_cons_succ]
        refine wpAnyH_done (by kernel_rfl) ?_ _
        go_wp2_with fail
        go_meet
        exact ⟨w25.heap.size, ph0, kh0, rfl, rfl, HKhb031.out, HOh31.out.reads, HBs24_31.out⟩
    case rest =>
      obtain ⟨bh0, ph0, kh0, rfl, rfl, hkq0, hrq0, hb⟩ := hcut
      rename World => w25
      have HB25 : Hid (Below w.heap.size w w25) := Lib.hid (HB24.out.trans (hb.mono HB24.out.size))
      have HZ25 : Hid (w24.heap.size ≤ w25.heap.size) := Lib.hid hb.size
      have HRf025 := Lib.hid (HRf00.out.below HB25.out (Nat.le_refl _))
      have HRf125 := Lib.hid (HRf10.out.below HB25.out (Nat.le_refl _))
      have HRf225 := Lib.hid (HRf20.out.below HB25.out (Nat.le_refl _))
      have HKa125 := Lib.hid ((hb.block _ (lt_of_block HKa124.out)).trans HKa124.out)
      have HKa225 := Lib.hid ((hb.block _ (lt_of_block HKa224.out)).trans HKa224.out)
      have HKwb025 := Lib.hid ((hb.block _ (lt_of_block HKwb024.out)).trans HKwb024.out)
      have HRw025 := Lib.hid (HRw024.out.below hb (Nat.le_refl _))
      have HOg25 := Lib.hid (HOg24.out.next hb)
      have HKgb025 := Lib.hid ((hb.block _ (lt_of_block HKgb024.out)).trans HKgb024.out)
      have HBs6_25 : Hid (Below w6.heap.size w6 w25) := Lib.hid (HBs6_24.out.trans (hb.mono HBs6_24.out.size))
      clear hb
      have hlth0 := lt_of_block hkq0
      have HKhb025 := Lib.hid (hkq0)
      have HRh025 := Lib.hid (hrq0)
      have HBs25_25 : Hid (Below w25.heap.size w25 w25) := Lib.hid (Below.refl _ _)
      clear hkq0 hrq0
      clear ca10 fa10 lta1 ca20 fa20 lta2 cwb00 fwb00 ltwb0 cgb00 fgb00 ltgb0
      have lta1 := lt_of_block HKa125.out
      obtain ⟨ca10, fa10⟩ := cell1 HKa125.out
      have lta2 := lt_of_block HKa225.out
      obtain ⟨ca20, fa20⟩ := cell1 HKa225.out
      have ltwb0 := lt_of_block HKwb025.out
      obtain ⟨cwb00, fwb00⟩ := cell1 HKwb025.out
      have ltgb0 := lt_of_block HKgb025.out
      obtain ⟨cgb00, fgb00⟩ := cell1 HKgb025.out
      have lthb0 := lt_of_block HKhb025.out
      obtain ⟨chb00, fhb00⟩ := cell1 HKhb025.out
      go_wp2_with fail
      refine (eqAmount_yes _ _ qs0 _ HRh025.out HRw025.out).mono ?_
      rintro e w26 ⟨rfl, hb⟩
      have HB26 : Hid (Below w.heap.size w w26) := Lib.hid (HB25.out.trans (hb.mono HB25.out.size))
      have HZ26 : Hid (w25.heap.size ≤ w26.heap.size) := Lib.hid hb.size
      have HRf026 := Lib.hid (HRf00.out.below HB26.out (Nat.le_refl _))
      have HRf126 := Lib.hid (HRf10.out.below HB26.out (Nat.le_refl _))
      have HRf226 := Lib.hid (HRf20.out.below HB26.out (Nat.le_refl _))
      have HKa126 := Lib.hid ((hb.block _ (lt_of_block HKa125.out)).trans HKa125.out)
      have HKa226 := Lib.hid ((hb.block _ (lt_of_block HKa225.out)).trans HKa225.out)
      have HKwb026 := Lib.hid ((hb.block _ (lt_of_block HKwb025.out)).trans HKwb025.out)
      have HRw026 := Lib.hid (HRw025.out.below hb (Nat.le_refl _))
      have HOg26 := Lib.hid (HOg25.out.next hb)
      have HKgb026 := Lib.hid ((hb.block _ (lt_of_block HKgb025.out)).trans HKgb025.out)
      have HKhb026 := Lib.hid ((hb.block _ (lt_of_block HKhb025.out)).trans HKhb025.out)
      have HRh026 := Lib.hid (HRh025.out.below hb (Nat.le_refl _))
      have HBs6_26 : Hid (Below w6.heap.size w6 w26) := Lib.hid (HBs6_25.out.trans (hb.mono HBs6_25.out.size))
      have HBs25_26 : Hid (Below w25.heap.size w25 w26) := Lib.hid (HBs25_25.out.trans (hb.mono HBs25_25.out.size))
      clear hb
      clear ca10 fa10 lta1 ca20 fa20 lta2 cwb00 fwb00 ltwb0 cgb00 fgb00 ltgb0 chb00 fhb00 lthb0
      have lta1 := lt_of_block HKa126.out
      obtain ⟨ca10, fa10⟩ := cell1 HKa126.out
      have lta2 := lt_of_block HKa226.out
      obtain ⟨ca20, fa20⟩ := cell1 HKa226.out
      have ltwb0 := lt_of_block HKwb026.out
      obtain ⟨cwb00, fwb00⟩ := cell1 HKwb026.out
      have ltgb0 := lt_of_block HKgb026.out
      obtain ⟨cgb00, fgb00⟩ := cell1 HKgb026.out
      have lthb0 := lt_of_block HKhb026.out
      obtain ⟨chb00, fhb00⟩ := cell1 HKhb026.out
      go_wp2_with fail
      refine (heldAmount_any _ qs0.length (1) _ (by have := HOg26.out.reads; exact this) (by omega) (by omega)).mono ?_
      rintro e w27 ⟨rfl, hb⟩
      have HB27 : Hid (Below w.heap.size w w27) := Lib.hid (HB26.out.trans (hb.mono HB26.out.size))
      have HZ27 : Hid (w26.heap.size ≤ w27.heap.size) := Lib.hid hb.size
      have HRf027 := Lib.hid (HRf00.out.below HB27.out (Nat.le_refl _))
      have HRf127 := Lib.hid (HRf10.out.below HB27.out (Nat.le_refl _))
      have HRf227 := Lib.hid (HRf20.out.below HB27.out (Nat.le_refl _))
      have HKa127 := Lib.hid ((hb.block _ (lt_of_block HKa126.out)).trans HKa126.out)
      have HKa227 := Lib.hid ((hb.block _ (lt_of_block HKa226.out)).trans HKa226.out)
      have HKwb027 := Lib.hid ((hb.block _ (lt_of_block HKwb026.out)).trans HKwb026.out)
      have HRw027 := Lib.hid (HRw026.out.below hb (Nat.le_refl _))
      have HOg27 := Lib.hid (HOg26.out.next hb)
      have HKgb027 := Lib.hid ((hb.block _ (lt_of_block HKgb026.out)).trans HKgb026.out)
      have HKhb027 := Lib.hid ((hb.block _ (lt_of_block HKhb026.out)).trans HKhb026.out)
      have HRh027 := Lib.hid (HRh026.out.below hb (Nat.le_refl _))
      have HBs6_27 : Hid (Below w6.heap.size w6 w27) := Lib.hid (HBs6_26.out.trans (hb.mono HBs6_26.out.size))
      have HBs25_27 : Hid (Below w25.heap.size w25 w27) := Lib.hid (HBs25_26.out.trans (hb.mono HBs25_26.out.size))
      clear hb
      clear ca10 fa10 lta1 ca20 fa20 lta2 cwb00 fwb00 ltwb0 cgb00 fgb00 ltgb0 chb00 fhb00 lthb0
      have lta1 := lt_of_block HKa127.out
      obtain ⟨ca10, fa10⟩ := cell1 HKa127.out
      have lta2 := lt_of_block HKa227.out
      obtain ⟨ca20, fa20⟩ := cell1 HKa227.out
      have ltwb0 := lt_of_block HKwb027.out
      obtain ⟨cwb00, fwb00⟩ := cell1 HKwb027.out
      have ltgb0 := lt_of_block HKgb027.out
      obtain ⟨cgb00, fgb00⟩ := cell1 HKgb027.out
      have lthb0 := lt_of_block HKhb027.out
      obtain ⟨chb00, fhb00⟩ := cell1 HKhb027.out
      go_wp2_with fail
      go_ret
      exact ⟨rfl, HB27.out⟩
end Go.Proofs.Ytlmnbecfaaeohaa
