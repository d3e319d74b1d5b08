/- The law on ConvertTo: it returns true where the model and the program give one answer. -/
import Derived.Test.YtlmnbecfaaeohaaAmts
import Derived.Test.YtlmnbecfaaeohaaUnits
import Derived.Test.YtlmnbecfaaeohaaKa
import Derived.Deep.RegionHeld3
import Derived.Deep.Cut
namespace Go.Proofs.Ytlmnbecfaaeohaa
set_option linter.unusedVariables false
open Go.RowKit

set_option maxRecDepth 100000 in
set_option maxHeartbeats 3200000 in
theorem lawConvertTo (w : World) (sv0 : Value) (us0 : List Un) (h0 : RowsR 2 unC w sv0 us0) (hs0 : ∀ u ∈ us0, u.nm.size ≤ maxLen) (sv1 : Value) (cs1 : List Int) (h1 : RowsR 1 inC w sv1 cs1) (sv2 : Value) (us2 : List Un) (h2 : RowsR 2 unC w sv2 us2) (hs2 : ∀ u ∈ us2, u.nm.size ≤ maxLen) (a3 : Int) (a4 : Int) (qs0 : List Int) (hq0 : qs0.length ≤ 1000) (r1 : Bool) 
    (hS : ∀ s0 s1 s2 w, RowsR 2 unC w s0 us0 → RowsR 1 inC w s1 cs1 → RowsR 2 unC w s2 us2 → Calls Try.prog 40 #[s0, .agg #[s1], s2, .int .i64 a3, .int .i64 a4] w fun e w' => (∃ t0, e = .returned (.tuple #[.agg #[t0], .bool r1]) ∧ OwA w.heap.size w'.heap.size w' t0 qs0) ∧ Below w.heap.size w w') 
    (hI : ∀ s0 s1 s2 w, RowsR 2 unC w s0 us0 → RowsR 1 inC w s1 cs1 → RowsR 2 unC w s2 us2 → Calls Try.prog 41 #[s0, .agg #[s1], s2, .int .i64 a3, .int .i64 a4] w fun e w' => (∃ t0, e = .returned (.tuple #[.agg #[t0], .bool r1]) ∧ OwA w.heap.size w'.heap.size w' t0 qs0) ∧ Below w.heap.size w w') :
    Calls Try.prog 12 #[sv0, .agg #[sv1], sv2, .int .i64 a3, .int .i64 a4] w fun e w' => e = .returned (.bool true) ∧ Below w.heap.size w w' := by
  have HS := Lib.hid hS
  have HI := Lib.hid hI
  obtain ⟨ad0, cp0, rfl⟩ := h0.form
  have hm0 : us0.length ≤ 9223372036854775807 := by obtain ⟨_, _, _, ⟨m, _⟩, _⟩ := h0; exact m
  obtain ⟨ad1, cp1, rfl⟩ := h1.form
  have hm1 : cs1.length ≤ 9223372036854775807 := by obtain ⟨_, _, _, ⟨m, _⟩, _⟩ := h1; exact m
  obtain ⟨ad2, cp2, rfl⟩ := h2.form
  have hm2 : us2.length ≤ 9223372036854775807 := by obtain ⟨_, _, _, ⟨m, _⟩, _⟩ := h2; exact m
  have hqk : ¬ (1 + (qs0.length : Int) < 0) := by omega
  have hqk' : ((1 + (qs0.length : Int)) != (1 + (qs0.length : Int))) = false := by simp
  have HB0 : Hid (Below w.heap.size w w) := Lib.hid (Below.refl _ _)
  have HRf00 := Lib.hid (h0)
  have HRf10 := Lib.hid (h1)
  have HRf20 := Lib.hid (h2)
  have HSZ0 := Lib.hid hs0
  have HSZ2 := Lib.hid hs2
  clear hS hI h0 h1 h2 hs0 hs2
  have hr1 : (r1 != r1) = false := by simp
  go_enter Try.func12, Try.ntmps12
  go_wp2_with fail
  have hb : Below w.heap.size w (w.alloc (.cells #[.slice ad1 cs1.length cp1] 31)) := (Below.refl _ _).alloc (Nat.le_refl _) _
  have hk : (w.alloc (.cells #[.slice ad1 cs1.length cp1] 31)).heap[w.heap.size]? = some (.cells #[.slice ad1 cs1.length cp1] 31 (0, 0)) := alloc_at rfl
  have hz : (w.alloc (.cells #[.slice ad1 cs1.length cp1] 31)).heap.size = w.heap.size + 1 := by simp
  generalize w.alloc (.cells #[.slice ad1 cs1.length cp1] 31) = w1 at hb hk hz ⊢
  have HB1 : Hid (Below w.heap.size w w1) := Lib.hid (HB0.out.trans (hb.mono HB0.out.size))
  have HZ1 : Hid (w.heap.size ≤ w1.heap.size) := Lib.hid hb.size
  have HRf01 := Lib.hid (HRf00.out.below HB1.out (Nat.le_refl _))
  have HRf11 := Lib.hid (HRf10.out.below HB1.out (Nat.le_refl _))
  have HRf21 := Lib.hid (HRf20.out.below HB1.out (Nat.le_refl _))
  have HKa11 := Lib.hid hk
  replace HZ1 : Hid (w.heap.size < w1.heap.size) := Lib.hid (by omega)
  have HE1 := Lib.hid hz
  clear hb hk hz
  refine (szUnitS_any _ us0 1048576 _ HRf01.out HSZ0.out (by omega) (by omega)).mono ?_
  rintro e w2 ⟨⟨l0, rfl, hl0, hk0⟩, hb⟩
  have HB2 : Hid (Below w.heap.size w w2) := Lib.hid (HB1.out.trans (hb.mono HB1.out.size))
  have HZ2 : Hid (w1.heap.size ≤ w2.heap.size) := Lib.hid hb.size
  have HRf02 := Lib.hid (HRf00.out.below HB2.out (Nat.le_refl _))
  have HRf12 := Lib.hid (HRf10.out.below HB2.out (Nat.le_refl _))
  have HRf22 := Lib.hid (HRf20.out.below HB2.out (Nat.le_refl _))
  have HKa12 := Lib.hid ((hb.block _ (lt_of_block HKa11.out)).trans HKa11.out)
  clear hb
  by_cases hr : l0 < 0
  · clear hk0
    have lta1 := lt_of_block HKa12.out
    obtain ⟨ca10, fa10⟩ := cell1 HKa12.out
    go_wp2_with fail
    go_ret
    exact ⟨rfl, HB2.out⟩
  have hn0 : us0.length ≤ 1048576 := by have := hk0 (by omega); omega
  clear hk0
  have lta1 := lt_of_block HKa12.out
  obtain ⟨ca10, fa10⟩ := cell1 HKa12.out
  go_wp2_with fail
  refine (szAmount_any _ cs1 l0 _ HRf12.out (by omega) (by omega)).mono ?_
  rintro e w3 ⟨⟨l1, rfl, hl1, hk1⟩, hb⟩
  have HB3 : Hid (Below w.heap.size w w3) := Lib.hid (HB2.out.trans (hb.mono HB2.out.size))
  have HZ3 : Hid (w2.heap.size ≤ w3.heap.size) := Lib.hid hb.size
  have HRf03 := Lib.hid (HRf00.out.below HB3.out (Nat.le_refl _))
  have HRf13 := Lib.hid (HRf10.out.below HB3.out (Nat.le_refl _))
  have HRf23 := Lib.hid (HRf20.out.below HB3.out (Nat.le_refl _))
  have HKa13 := Lib.hid ((hb.block _ (lt_of_block HKa12.out)).trans HKa12.out)
  clear hb
  by_cases hr : l1 < 0
  · clear hk1
    clear ca10 fa10 lta1
    have lta1 := lt_of_block HKa13.out
    obtain ⟨ca10, fa10⟩ := cell1 HKa13.out
    go_wp2_with fail
    go_ret
    exact ⟨rfl, HB3.out⟩
  have hn1 : cs1.length ≤ 1048576 := by have := hk1 (by omega); omega
  clear hk1
  clear ca10 fa10 lta1
  have lta1 := lt_of_block HKa13.out
  obtain ⟨ca10, fa10⟩ := cell1 HKa13.out
  go_wp2_with fail
  refine (szUnitS_any _ us2 l1 _ HRf23.out HSZ2.out (by omega) (by omega)).mono ?_
  rintro e w4 ⟨⟨l2, rfl, hl2, hk2⟩, hb⟩
  have HB4 : Hid (Below w.heap.size w w4) := Lib.hid (HB3.out.trans (hb.mono HB3.out.size))
  have HZ4 : Hid (w3.heap.size ≤ w4.heap.size) := Lib.hid hb.size
  have HRf04 := Lib.hid (HRf00.out.below HB4.out (Nat.le_refl _))
  have HRf14 := Lib.hid (HRf10.out.below HB4.out (Nat.le_refl _))
  have HRf24 := Lib.hid (HRf20.out.below HB4.out (Nat.le_refl _))
  have HKa14 := Lib.hid ((hb.block _ (lt_of_block HKa13.out)).trans HKa13.out)
  clear hb
  by_cases hr : l2 < 0
  · clear hk2
    clear ca10 fa10 lta1
    have lta1 := lt_of_block HKa14.out
    obtain ⟨ca10, fa10⟩ := cell1 HKa14.out
    go_wp2_with fail
    go_ret
    exact ⟨rfl, HB4.out⟩
  have hn2 : us2.length ≤ 1048576 := by have := hk2 (by omega); omega
  clear hk2
  clear ca10 fa10 lta1
  have lta1 := lt_of_block HKa14.out
  obtain ⟨ca10, fa10⟩ := cell1 HKa14.out
  go_wp2_with fail
  clear ca10 fa10 lta1
  have lta1 := lt_of_block HKa14.out
  obtain ⟨ca10, fa10⟩ := cell1 HKa14.out
  go_cut [12, 13] from 39 (fun z0 z1 wc => ∃ (b0 : Nat) (pa0 : Option Addr) (ka0 : Nat), z0 = .pointer (some ⟨b0, 0, none⟩) ∧ z1 = .bool r1 ∧ wc.heap[b0]? = some (.cells #[.slice pa0 qs0.length ka0] 34 (0, 0)) ∧ RowsR 1 inC wc (.slice pa0 qs0.length ka0) qs0 ∧ Below w4.heap.size w4 wc)
  case first =>
    have HBs4_4 : Hid (Below w4.heap.size w4 w4) := Lib.hid (Below.refl _ _)
    refine wp_region_held_drew (S := (fun w' => w'.cell? ⟨w.heap.size, 0, none⟩ = some (.slice ad1 cs1.length cp1))) (by kernel_rfl) (ca10) (fun hHeld => ?_)
    have hb : Below w4.heap.size w4 w4.drew := (Below.refl _ _).drew
    generalize w4.drew = w5 at hb hHeld ⊢
    have HB5 : Hid (Below w.heap.size w w5) := Lib.hid (HB4.out.trans (hb.mono HB4.out.size))
    have HZ5 : Hid (w4.heap.size ≤ w5.heap.size) := Lib.hid hb.size
    have HRf05 := Lib.hid (HRf00.out.below HB5.out (Nat.le_refl _))
    have HRf15 := Lib.hid (HRf10.out.below HB5.out (Nat.le_refl _))
    have HRf25 := Lib.hid (HRf20.out.below HB5.out (Nat.le_refl _))
    have HKa15 := Lib.hid ((hb.block _ (lt_of_block HKa14.out)).trans HKa14.out)
    have HBs4_5 : Hid (Below w4.heap.size w4 w5) := Lib.hid (HBs4_4.out.trans (hb.mono HBs4_4.out.size))
    clear hb
    clear ca10 fa10 lta1
    have lta1 := lt_of_block HKa15.out
    obtain ⟨ca10, fa10⟩ := cell1 HKa15.out
    refine take1 (i := 0) (v := ?v1) (some 40) rfl rfl (by kernel_rfl) (by kernel_rfl) (by kernel_rfl) (fun _ _ _ h => h) (Or.inl ⟨by rfl, ?y1⟩) (by assumption) ?r1
    case y1 => (intro w hSw; (try dsimp only at hSw); go_simp; (first | done | with_reducible rfl))
    try simp only [Act.put, List.setIfInBounds_toArray, List.set_cons_zero, List.set_cons_succ]
    refine take1 (i := 2) (v := ?v2) (some 42) rfl rfl (by kernel_rfl) (by kernel_rfl) (by kernel_rfl) (fun _ _ _ h => h) (Or.inl ⟨by rfl, ?y2⟩) (by assumption) ?r2
    case y2 => (intro w hSw; (try dsimp only at hSw); go_simp; (first | done | with_reducible rfl))
    try simp only [Act.put, List.setIfInBounds_toArray, List.set_cons_zero, List.set_cons_succ]
    refine take1 (i := 4) (v := ?v3) (some 44) rfl rfl (by kernel_rfl) (by kernel_rfl) (by kernel_rfl) (fun _ _ _ h => h) (Or.inl ⟨by rfl, ?y3⟩) (by assumption) ?r3
    case y3 => (intro w hSw; (try dsimp only at hSw); go_simp; (first | done | with_reducible rfl))
    try simp only [Act.put, List.setIfInBounds_toArray, List.set_cons_zero, List.set_cons_succ]
    refine take1 (i := 6) (v := ?v4) (some 46) rfl rfl (by kernel_rfl) (by kernel_rfl) (by kernel_rfl) (fun _ _ _ h => h) (Or.inl ⟨by rfl, ?y4⟩) (by assumption) ?r4
    case y4 => (intro w hSw; (try dsimp only at hSw); go_simp; (first | done | with_reducible rfl))
    try simp only [Act.put, List.setIfInBounds_toArray, List.set_cons_zero, List.set_cons_succ]
    refine take1 (i := 7) (v := ?v5) (some 47) rfl rfl (by kernel_rfl) (by kernel_rfl) (by kernel_rfl) (fun _ _ _ h => h) (Or.inl ⟨by rfl, ?y5⟩) (by assumption) ?r5
    case y5 => (intro w hSw; (try dsimp only at hSw); go_simp; (first | done | with_reducible rfl))
    try simp only [Act.put, List.setIfInBounds_toArray, List.set_cons_zero, List.set_cons_succ]
    refine wpAnyH_ready (rs := [1, 12]) (by kernel_rfl) (by simp) ?_
    refine AllReadyH.cons rfl (fun K hK => ?_) (AllReadyH.cons rfl (fun K hK => ?_) AllReadyH.nil)
    · go_simp
      go_at_call 15
      refine (toUnitS_any _ us0 _ HRf05.out hn0).mono ?_
      rintro e w6 ⟨⟨swc0, rfl, ho⟩, hb⟩
      have HB6 : Hid (Below w.heap.size w w6) := Lib.hid (HB5.out.trans (hb.mono HB5.out.size))
      have HZ6 : Hid (w5.heap.size ≤ w6.heap.size) := Lib.hid hb.size
      have HRf06 := Lib.hid (HRf00.out.below HB6.out (Nat.le_refl _))
      have HRf16 := Lib.hid (HRf10.out.below HB6.out (Nat.le_refl _))
      have HRf26 := Lib.hid (HRf20.out.below HB6.out (Nat.le_refl _))
      have HKa16 := Lib.hid ((hb.block _ (lt_of_block HKa15.out)).trans HKa15.out)
      have HBs4_6 : Hid (Below w4.heap.size w4 w6) := Lib.hid (HBs4_5.out.trans (hb.mono HBs4_5.out.size))
      clear hb
      obtain ⟨pwc0, kwc0, rfl⟩ := own_form ho
      have HRwc06 := Lib.hid (RowsR.of_own unC_len ho)
      have HBs6_6 : Hid (Below w6.heap.size w6 w6) := Lib.hid (Below.refl _ _)
      clear ho
      clear ca10 fa10 lta1
      have lta1 := lt_of_block HKa16.out
      obtain ⟨ca10, fa10⟩ := cell1 HKa16.out
      try go_simp
      refine hK.out _ _ (ca10) (fun hHeld => ?_)
      clear hK K
      try simp only [Act.put, List.setIfInBounds_toArray, List.set_cons_zero, List.set_cons_succ]
      refine wpAnyH_ready (rs := [3, 12]) (by kernel_rfl) (by simp) ?_
      refine AllReadyH.cons rfl (fun K hK => ?_) (AllReadyH.cons rfl (fun K hK => ?_) AllReadyH.nil)
      · go_simp
        go_at_call 20
        refine (toAmount_any _ cs1 _ HRf16.out hn1).mono ?_
        rintro e w7 ⟨⟨swc1, rfl, ho⟩, hb⟩
        have HB7 : Hid (Below w.heap.size w w7) := Lib.hid (HB6.out.trans (hb.mono HB6.out.size))
        have HZ7 : Hid (w6.heap.size ≤ w7.heap.size) := Lib.hid hb.size
        have HRf07 := Lib.hid (HRf00.out.below HB7.out (Nat.le_refl _))
        have HRf17 := Lib.hid (HRf10.out.below HB7.out (Nat.le_refl _))
        have HRf27 := Lib.hid (HRf20.out.below HB7.out (Nat.le_refl _))
        have HKa17 := Lib.hid ((hb.block _ (lt_of_block HKa16.out)).trans HKa16.out)
        have HRwc07 := Lib.hid (HRwc06.out.below hb (Nat.le_refl _))
        have HBs4_7 : Hid (Below w4.heap.size w4 w7) := Lib.hid (HBs4_6.out.trans (hb.mono HBs4_6.out.size))
        have HBs6_7 : Hid (Below w6.heap.size w6 w7) := Lib.hid (HBs6_6.out.trans (hb.mono HBs6_6.out.size))
        clear hb
        obtain ⟨pwc1, kwc1, rfl⟩ := ho.form
        have HRwc17 := Lib.hid (ho.reads)
        have HBs7_7 : Hid (Below w7.heap.size w7 w7) := Lib.hid (Below.refl _ _)
        clear ho
        clear ca10 fa10 lta1
        have lta1 := lt_of_block HKa17.out
        obtain ⟨ca10, fa10⟩ := cell1 HKa17.out
        try go_simp
        refine hK.out _ _ (ca10) (fun hHeld => ?_)
        clear hK K
        try simp only [Act.put, List.setIfInBounds_toArray, List.set_cons_zero, List.set_cons_succ]
        refine wpAnyH_ready (rs := [5, 12]) (by kernel_rfl) (by simp) ?_
        refine AllReadyH.cons rfl (fun K hK => ?_) (AllReadyH.cons rfl (fun K hK => ?_) AllReadyH.nil)
        · go_simp
          go_at_call 15
          refine (toUnitS_any _ us2 _ HRf27.out hn2).mono ?_
          rintro e w8 ⟨⟨swc2, rfl, ho⟩, hb⟩
          have HB8 : Hid (Below w.heap.size w w8) := Lib.hid (HB7.out.trans (hb.mono HB7.out.size))
          have HZ8 : Hid (w7.heap.size ≤ w8.heap.size) := Lib.hid hb.size
          have HRf08 := Lib.hid (HRf00.out.below HB8.out (Nat.le_refl _))
          have HRf18 := Lib.hid (HRf10.out.below HB8.out (Nat.le_refl _))
          have HRf28 := Lib.hid (HRf20.out.below HB8.out (Nat.le_refl _))
          have HKa18 := Lib.hid ((hb.block _ (lt_of_block HKa17.out)).trans HKa17.out)
          have HRwc08 := Lib.hid (HRwc07.out.below hb (Nat.le_refl _))
          have HRwc18 := Lib.hid (HRwc17.out.below hb (Nat.le_refl _))
          have HBs4_8 : Hid (Below w4.heap.size w4 w8) := Lib.hid (HBs4_7.out.trans (hb.mono HBs4_7.out.size))
          have HBs6_8 : Hid (Below w6.heap.size w6 w8) := Lib.hid (HBs6_7.out.trans (hb.mono HBs6_7.out.size))
          have HBs7_8 : Hid (Below w7.heap.size w7 w8) := Lib.hid (HBs7_7.out.trans (hb.mono HBs7_7.out.size))
          clear hb
          obtain ⟨pwc2, kwc2, rfl⟩ := own_form ho
          have HRwc28 := Lib.hid (RowsR.of_own unC_len ho)
          have HBs8_8 : Hid (Below w8.heap.size w8 w8) := Lib.hid (Below.refl _ _)
          clear ho
          clear ca10 fa10 lta1
          have lta1 := lt_of_block HKa18.out
          obtain ⟨ca10, fa10⟩ := cell1 HKa18.out
          try go_simp
          refine hK.out _ _ (ca10) (fun hHeld => ?_)
          clear hK K
          try simp only [Act.put, List.setIfInBounds_toArray, List.set_cons_zero, List.set_cons_succ]
          refine wpAnyH_ready (rs := [8, 12]) (by kernel_rfl) (by simp) ?_
          refine AllReadyH.cons rfl (fun K hK => ?_) (AllReadyH.cons rfl (fun K hK => ?_) AllReadyH.nil)
          · go_simp
            go_at_call 40
            refine (HS.out _ _ _ _ HRwc08.out HRwc18.out HRwc28.out).mono ?_
            rintro e w9 ⟨⟨tw0, rfl, ho⟩, hb⟩
            have HB9 : Hid (Below w.heap.size w w9) := Lib.hid (HB8.out.trans (hb.mono HB8.out.size))
            have HZ9 : Hid (w8.heap.size ≤ w9.heap.size) := Lib.hid hb.size
            have HRf09 := Lib.hid (HRf00.out.below HB9.out (Nat.le_refl _))
            have HRf19 := Lib.hid (HRf10.out.below HB9.out (Nat.le_refl _))
            have HRf29 := Lib.hid (HRf20.out.below HB9.out (Nat.le_refl _))
            have HKa19 := Lib.hid ((hb.block _ (lt_of_block HKa18.out)).trans HKa18.out)
            have HRwc09 := Lib.hid (HRwc08.out.below hb (Nat.le_refl _))
            have HRwc19 := Lib.hid (HRwc18.out.below hb (Nat.le_refl _))
            have HRwc29 := Lib.hid (HRwc28.out.below hb (Nat.le_refl _))
            have HBs4_9 : Hid (Below w4.heap.size w4 w9) := Lib.hid (HBs4_8.out.trans (hb.mono HBs4_8.out.size))
            have HBs6_9 : Hid (Below w6.heap.size w6 w9) := Lib.hid (HBs6_8.out.trans (hb.mono HBs6_8.out.size))
            have HBs7_9 : Hid (Below w7.heap.size w7 w9) := Lib.hid (HBs7_8.out.trans (hb.mono HBs7_8.out.size))
            have HBs8_9 : Hid (Below w8.heap.size w8 w9) := Lib.hid (HBs8_8.out.trans (hb.mono HBs8_8.out.size))
            clear hb
            obtain ⟨pw0, kw0, rfl⟩ := ho.form
            have HOw9 := Lib.hid (ho)
            clear ho
            clear ca10 fa10 lta1
            have lta1 := lt_of_block HKa19.out
            obtain ⟨ca10, fa10⟩ := cell1 HKa19.out
            try go_simp
            refine hK.out _ _ (ca10) (fun hHeld => ?_)
            clear hK K
            try simp only [Act.put, List.setIfInBounds_toArray, List.set_cons_zero, List.set_cons_succ]
            refine take1 (i := 9) (v := ?v6) (some 39) rfl rfl (by kernel_rfl) (by kernel_rfl) (by kernel_rfl) (fun _ _ _ h => h) (Or.inl ⟨by rfl, ?y6⟩) (by assumption) ?r6
            case y6 => (intro w hSw; (try dsimp only at hSw); go_simp; (first | done | with_reducible rfl))
            try simp only [Act.put, List.setIfInBounds_toArray, List.set_cons_zero, List.set_cons_succ]
            refine take1 (i := 10) (v := ?v7) (some 49) rfl rfl (by kernel_rfl) (by kernel_rfl) (by kernel_rfl) (fun _ _ _ h => h) (Or.inl ⟨by rfl, ?y7⟩) (by assumption) ?r7
            case y7 => (intro w hSw; (try dsimp only at hSw); go_simp; (first | done | with_reducible rfl))
            try simp only [Act.put, List.setIfInBounds_toArray, List.set_cons_zero, List.set_cons_succ]
            refine take1 (i := 11) (v := ?v8) (some 50) rfl rfl (by kernel_rfl) (by kernel_rfl) (by kernel_rfl) (fun _ _ _ h => h) (Or.inl ⟨by rfl, ?y8⟩) (by assumption) ?r8
            case y8 => (intro w hSw; (try dsimp only at hSw); go_simp; (first | done | with_reducible rfl))
            try simp only [Act.put, List.setIfInBounds_toArray, List.set_cons_zero, List.set_cons_succ]
            refine wpAnyH_ready (rs := [12]) (by kernel_rfl) (by simp) ?_
            refine AllReadyH.cons rfl (fun K hK => ?_) AllReadyH.nil
            go_simp
            have hb : Below w9.heap.size w9 (w9.alloc (.cells #[.slice none 0 0] 34)) := (Below.refl _ _).alloc (Nat.le_refl _) _
            have hk : (w9.alloc (.cells #[.slice none 0 0] 34)).heap[w9.heap.size]? = some (.cells #[.slice none 0 0] 34 (0, 0)) := alloc_at rfl
            have hz : (w9.alloc (.cells #[.slice none 0 0] 34)).heap.size = w9.heap.size + 1 := by simp
            generalize w9.alloc (.cells #[.slice none 0 0] 34) = w10 at hb hk hz ⊢
            have HB10 : Hid (Below w.heap.size w w10) := Lib.hid (HB9.out.trans (hb.mono HB9.out.size))
            have HZ10 : Hid (w9.heap.size ≤ w10.heap.size) := Lib.hid hb.size
            have HRf010 := Lib.hid (HRf00.out.below HB10.out (Nat.le_refl _))
            have HRf110 := Lib.hid (HRf10.out.below HB10.out (Nat.le_refl _))
            have HRf210 := Lib.hid (HRf20.out.below HB10.out (Nat.le_refl _))
            have HKa110 := Lib.hid ((hb.block _ (lt_of_block HKa19.out)).trans HKa19.out)
            have HOw10 := Lib.hid (HOw9.out.next hb)
            have HBs4_10 : Hid (Below w4.heap.size w4 w10) := Lib.hid (HBs4_9.out.trans (hb.mono HBs4_9.out.size))
            have HKwb010 := Lib.hid hk
            replace HZ10 : Hid (w9.heap.size < w10.heap.size) := Lib.hid (by omega)
            have HE10 := Lib.hid hz
            clear hb hk hz
            clear ca10 fa10 lta1
            have lta1 := lt_of_block HKa110.out
            obtain ⟨ca10, fa10⟩ := cell1 HKa110.out
            have ltwb0 := lt_of_block HKwb010.out
            obtain ⟨cwb00, fwb00⟩ := cell1 HKwb010.out
            refine hK.out _ _ (ca10) (fun hHeld => ?_)
            clear hK K
            try simp only [Act.put, List.setIfInBounds_toArray, List.set_cons_zero, List.set_cons_succ]
            refine wpAnyH_ready (rs := [13]) (by kernel_rfl) (by simp) ?_
            refine AllReadyH.cons rfl (fun K hK => ?_) AllReadyH.nil
            go_simp
            have hkb := box1_set HKwb010.out (.slice pw0 qs0.length kw0)
            have hm : Btw w9.heap.size (w9.heap.size + 1) w10 (w10.setCell ⟨w9.heap.size, 0, none⟩ (.slice pw0 qs0.length kw0)) := (Btw.refl (w9.heap.size) (w9.heap.size + 1) w10).setCell (p := ⟨w9.heap.size, 0, none⟩) (Nat.le_refl _) (Nat.lt_succ_self _) _
            generalize w10.setCell ⟨w9.heap.size, 0, none⟩ (.slice pw0 qs0.length kw0) = w11 at hkb hm ⊢
            have HZ11 : Hid (w10.heap.size ≤ w11.heap.size) := Lib.hid hm.size
            have HB11 : Hid (Below w.heap.size w w11) := Lib.hid (HB10.out.trans (hm.below.mono (by have := HZ1.out; have := HZ2.out; have := HZ3.out; have := HZ4.out; have := HZ5.out; have := HZ6.out; have := HZ7.out; have := HZ8.out; have := HZ9.out; have := HZ10.out; have := HB0.out.size; omega)))
            have HRf011 := Lib.hid (HRf00.out.below HB11.out (Nat.le_refl _))
            have HRf111 := Lib.hid (HRf10.out.below HB11.out (Nat.le_refl _))
            have HRf211 := Lib.hid (HRf20.out.below HB11.out (Nat.le_refl _))
            have HKa111 := Lib.hid ((hm.block _ (by have := lt_of_block HKa110.out; have := HZ1.out; have := HZ2.out; have := HZ3.out; have := HZ4.out; have := HZ5.out; have := HZ6.out; have := HZ7.out; have := HZ8.out; have := HZ9.out; have := HZ10.out; omega)).trans HKa110.out)
            have HOw11 := Lib.hid (HOw10.out.btw hm (by have := HZ1.out; have := HZ2.out; have := HZ3.out; have := HZ4.out; have := HZ5.out; have := HZ6.out; have := HZ7.out; have := HZ8.out; have := HZ9.out; have := HZ10.out; omega))
            have HBs4_11 : Hid (Below w4.heap.size w4 w11) := Lib.hid (HBs4_10.out.trans (hm.below.mono (by have := HZ1.out; have := HZ2.out; have := HZ3.out; have := HZ4.out; have := HZ5.out; have := HZ6.out; have := HZ7.out; have := HZ8.out; have := HZ9.out; have := HZ10.out; omega)))
            clear hm
            have HKwb011 := Lib.hid (hkb)
            clear hkb
            clear ca10 fa10 lta1 cwb00 fwb00 ltwb0
            have lta1 := lt_of_block HKa111.out
            obtain ⟨ca10, fa10⟩ := cell1 HKa111.out
            have ltwb0 := lt_of_block HKwb011.out
            obtain ⟨cwb00, fwb00⟩ := cell1 HKwb011.out
            refine hK.out _ _ (ca10) (fun hHeld => ?_)
            clear hK K
            try simp only [Act.put]
            refine take1 (i := 14) (v := ?v9) (some 13) rfl rfl (by kernel_rfl) (by kernel_rfl) (by kernel_rfl) (fun _ _ _ h => h) (Or.inl ⟨by rfl, ?y9⟩) (by assumption) ?r9
            case y9 => (intro w hSw; (try dsimp only at hSw); go_simp; (first | done | with_reducible rfl))
            try simp only [Act.put, List.setIfInBounds_toArray, List.set_cons_zero, List.set_cons_succ]
            refine wpAnyH_done (by kernel_rfl) ?_ _
            go_wp2_with fail
            go_meet
            exact ⟨w9.heap.size, pw0, kw0, rfl, rfl, HKwb011.out, HOw11.out.reads, HBs4_11.out⟩
          · go_simp
            have hb : Below w8.heap.size w8 (w8.alloc (.cells #[.slice none 0 0] 34)) := (Below.refl _ _).alloc (Nat.le_refl _) _
            have hk : (w8.alloc (.cells #[.slice none 0 0] 34)).heap[w8.heap.size]? = some (.cells #[.slice none 0 0] 34 (0, 0)) := alloc_at rfl
            have hz : (w8.alloc (.cells #[.slice none 0 0] 34)).heap.size = w8.heap.size + 1 := by simp
            generalize w8.alloc (.cells #[.slice none 0 0] 34) = w9 at hb hk hz ⊢
            have HB9 : Hid (Below w.heap.size w w9) := Lib.hid (HB8.out.trans (hb.mono HB8.out.size))
            have HZ9 : Hid (w8.heap.size ≤ w9.heap.size) := Lib.hid hb.size
            have HRf09 := Lib.hid (HRf00.out.below HB9.out (Nat.le_refl _))
            have HRf19 := Lib.hid (HRf10.out.below HB9.out (Nat.le_refl _))
            have HRf29 := Lib.hid (HRf20.out.below HB9.out (Nat.le_refl _))
            have HKa19 := Lib.hid ((hb.block _ (lt_of_block HKa18.out)).trans HKa18.out)
            have HRwc09 := Lib.hid (HRwc08.out.below hb (Nat.le_refl _))
            have HRwc19 := Lib.hid (HRwc18.out.below hb (Nat.le_refl _))
            have HRwc29 := Lib.hid (HRwc28.out.below hb (Nat.le_refl _))
            have HBs4_9 : Hid (Below w4.heap.size w4 w9) := Lib.hid (HBs4_8.out.trans (hb.mono HBs4_8.out.size))
            have HBs6_9 : Hid (Below w6.heap.size w6 w9) := Lib.hid (HBs6_8.out.trans (hb.mono HBs6_8.out.size))
            have HBs7_9 : Hid (Below w7.heap.size w7 w9) := Lib.hid (HBs7_8.out.trans (hb.mono HBs7_8.out.size))
            have HBs8_9 : Hid (Below w8.heap.size w8 w9) := Lib.hid (HBs8_8.out.trans (hb.mono HBs8_8.out.size))
            have HKwb09 := Lib.hid hk
            replace HZ9 : Hid (w8.heap.size < w9.heap.size) := Lib.hid (by omega)
            have HE9 := Lib.hid hz
            clear hb hk hz
            clear ca10 fa10 lta1
            have lta1 := lt_of_block HKa19.out
            obtain ⟨ca10, fa10⟩ := cell1 HKa19.out
            have ltwb0 := lt_of_block HKwb09.out
            obtain ⟨cwb00, fwb00⟩ := cell1 HKwb09.out
            refine hK.out _ _ (ca10) (fun hHeld => ?_)
            clear hK K
            try simp only [Act.put, List.setIfInBounds_toArray, List.set_cons_zero, List.set_cons_succ]
            refine wpAnyH_ready (rs := [8]) (by kernel_rfl) (by simp) ?_
            refine AllReadyH.cons rfl (fun K hK => ?_) AllReadyH.nil
            go_simp
            go_at_call 40
            refine (HS.out _ _ _ _ HRwc09.out HRwc19.out HRwc29.out).mono ?_
            rintro e w10 ⟨⟨tw0, rfl, ho⟩, hb⟩
            have HB10 : Hid (Below w.heap.size w w10) := Lib.hid (HB9.out.trans (hb.mono HB9.out.size))
            have HZ10 : Hid (w9.heap.size ≤ w10.heap.size) := Lib.hid hb.size
            have HRf010 := Lib.hid (HRf00.out.below HB10.out (Nat.le_refl _))
            have HRf110 := Lib.hid (HRf10.out.below HB10.out (Nat.le_refl _))
            have HRf210 := Lib.hid (HRf20.out.below HB10.out (Nat.le_refl _))
            have HKa110 := Lib.hid ((hb.block _ (lt_of_block HKa19.out)).trans HKa19.out)
            have HRwc010 := Lib.hid (HRwc09.out.below hb (Nat.le_refl _))
            have HRwc110 := Lib.hid (HRwc19.out.below hb (Nat.le_refl _))
            have HRwc210 := Lib.hid (HRwc29.out.below hb (Nat.le_refl _))
            have HKwb010 := Lib.hid ((hb.block _ (lt_of_block HKwb09.out)).trans HKwb09.out)
            have HBs4_10 : Hid (Below w4.heap.size w4 w10) := Lib.hid (HBs4_9.out.trans (hb.mono HBs4_9.out.size))
            have HBs6_10 : Hid (Below w6.heap.size w6 w10) := Lib.hid (HBs6_9.out.trans (hb.mono HBs6_9.out.size))
            have HBs7_10 : Hid (Below w7.heap.size w7 w10) := Lib.hid (HBs7_9.out.trans (hb.mono HBs7_9.out.size))
            have HBs8_10 : Hid (Below w8.heap.size w8 w10) := Lib.hid (HBs8_9.out.trans (hb.mono HBs8_9.out.size))
            clear hb
            obtain ⟨pw0, kw0, rfl⟩ := ho.form
            have HOw10 := Lib.hid (ho)
            clear ho
            clear ca10 fa10 lta1 cwb00 fwb00 ltwb0
            have lta1 := lt_of_block HKa110.out
            obtain ⟨ca10, fa10⟩ := cell1 HKa110.out
            have ltwb0 := lt_of_block HKwb010.out
            obtain ⟨cwb00, fwb00⟩ := cell1 HKwb010.out
            try go_simp
            refine hK.out _ _ (ca10) (fun hHeld => ?_)
            clear hK K
            try simp only [Act.put, List.setIfInBounds_toArray, List.set_cons_zero, List.set_cons_succ]
            refine take1 (i := 9) (v := ?v10) (some 39) rfl rfl (by kernel_rfl) (by kernel_rfl) (by kernel_rfl) (fun _ _ _ h => h) (Or.inl ⟨by rfl, ?y10⟩) (by assumption) ?r10
            case y10 => (intro w hSw; (try dsimp only at hSw); go_simp; (first | done | with_reducible rfl))
            try simp only [Act.put, List.setIfInBounds_toArray, List.set_cons_zero, List.set_cons_succ]
            refine take1 (i := 10) (v := ?v11) (some 49) rfl rfl (by kernel_rfl) (by kernel_rfl) (by kernel_rfl) (fun _ _ _ h => h) (Or.inl ⟨by rfl, ?y11⟩) (by assumption) ?r11
            case y11 => (intro w hSw; (try dsimp only at hSw); go_simp; (first | done | with_reducible rfl))
            try simp only [Act.put, List.setIfInBounds_toArray, List.set_cons_zero, List.set_cons_succ]
            refine take1 (i := 11) (v := ?v12) (some 50) rfl rfl (by kernel_rfl) (by kernel_rfl) (by kernel_rfl) (fun _ _ _ h => h) (Or.inl ⟨by rfl, ?y12⟩) (by assumption) ?r12
            case y12 => (intro w hSw; (try dsimp only at hSw); go_simp; (first | done | with_reducible rfl))
            try simp only [Act.put, List.setIfInBounds_toArray, List.set_cons_zero, List.set_cons_succ]
            refine wpAnyH_ready (rs := [13]) (by kernel_rfl) (by simp) ?_
            refine AllReadyH.cons rfl (fun K hK => ?_) AllReadyH.nil
            go_simp
            have hkb := box1_set HKwb010.out (.slice pw0 qs0.length kw0)
            have hm : Btw w8.heap.size (w8.heap.size + 1) w10 (w10.setCell ⟨w8.heap.size, 0, none⟩ (.slice pw0 qs0.length kw0)) := (Btw.refl (w8.heap.size) (w8.heap.size + 1) w10).setCell (p := ⟨w8.heap.size, 0, none⟩) (Nat.le_refl _) (Nat.lt_succ_self _) _
            generalize w10.setCell ⟨w8.heap.size, 0, none⟩ (.slice pw0 qs0.length kw0) = w11 at hkb hm ⊢
            have HZ11 : Hid (w10.heap.size ≤ w11.heap.size) := Lib.hid hm.size
            have HB11 : Hid (Below w.heap.size w w11) := Lib.hid (HB10.out.trans (hm.below.mono (by have := HZ1.out; have := HZ2.out; have := HZ3.out; have := HZ4.out; have := HZ5.out; have := HZ6.out; have := HZ7.out; have := HZ8.out; have := HZ9.out; have := HZ10.out; have := HB0.out.size; omega)))
            have HRf011 := Lib.hid (HRf00.out.below HB11.out (Nat.le_refl _))
            have HRf111 := Lib.hid (HRf10.out.below HB11.out (Nat.le_refl _))
            have HRf211 := Lib.hid (HRf20.out.below HB11.out (Nat.le_refl _))
            have HKa111 := Lib.hid ((hm.block _ (by have := lt_of_block HKa110.out; have := HZ1.out; have := HZ2.out; have := HZ3.out; have := HZ4.out; have := HZ5.out; have := HZ6.out; have := HZ7.out; have := HZ8.out; have := HZ9.out; have := HZ10.out; omega)).trans HKa110.out)
            have HOw11 := Lib.hid (HOw10.out.btw hm (by have := HZ1.out; have := HZ2.out; have := HZ3.out; have := HZ4.out; have := HZ5.out; have := HZ6.out; have := HZ7.out; have := HZ8.out; have := HZ9.out; have := HZ10.out; omega))
            have HBs4_11 : Hid (Below w4.heap.size w4 w11) := Lib.hid (HBs4_10.out.trans (hm.below.mono (by have := HZ1.out; have := HZ2.out; have := HZ3.out; have := HZ4.out; have := HZ5.out; have := HZ6.out; have := HZ7.out; have := HZ8.out; have := HZ9.out; have := HZ10.out; omega)))
            clear hm
            have HKwb011 := Lib.hid (hkb)
            clear hkb
            clear ca10 fa10 lta1 cwb00 fwb00 ltwb0
            have lta1 := lt_of_block HKa111.out
            obtain ⟨ca10, fa10⟩ := cell1 HKa111.out
            have ltwb0 := lt_of_block HKwb011.out
            obtain ⟨cwb00, fwb00⟩ := cell1 HKwb011.out
            refine hK.out _ _ (ca10) (fun hHeld => ?_)
            clear hK K
            try simp only [Act.put]
            refine take1 (i := 14) (v := ?v13) (some 13) rfl rfl (by kernel_rfl) (by kernel_rfl) (by kernel_rfl) (fun _ _ _ h => h) (Or.inl ⟨by rfl, ?y13⟩) (by assumption) ?r13
            case y13 => (intro w hSw; (try dsimp only at hSw); go_simp; (first | done | with_reducible rfl))
            try simp only [Act.put, List.setIfInBounds_toArray, List.set_cons_zero, List.set_cons_succ]
            refine wpAnyH_done (by kernel_rfl) ?_ _
            go_wp2_with fail
            go_meet
            exact ⟨w8.heap.size, pw0, kw0, rfl, rfl, HKwb011.out, HOw11.out.reads, HBs4_11.out⟩
        · go_simp
          have hb : Below w7.heap.size w7 (w7.alloc (.cells #[.slice none 0 0] 34)) := (Below.refl _ _).alloc (Nat.le_refl _) _
          have hk : (w7.alloc (.cells #[.slice none 0 0] 34)).heap[w7.heap.size]? = some (.cells #[.slice none 0 0] 34 (0, 0)) := alloc_at rfl
          have hz : (w7.alloc (.cells #[.slice none 0 0] 34)).heap.size = w7.heap.size + 1 := by simp
          generalize w7.alloc (.cells #[.slice none 0 0] 34) = w8 at hb hk hz ⊢
          have HB8 : Hid (Below w.heap.size w w8) := Lib.hid (HB7.out.trans (hb.mono HB7.out.size))
          have HZ8 : Hid (w7.heap.size ≤ w8.heap.size) := Lib.hid hb.size
          have HRf08 := Lib.hid (HRf00.out.below HB8.out (Nat.le_refl _))
          have HRf18 := Lib.hid (HRf10.out.below HB8.out (Nat.le_refl _))
          have HRf28 := Lib.hid (HRf20.out.below HB8.out (Nat.le_refl _))
          have HKa18 := Lib.hid ((hb.block _ (lt_of_block HKa17.out)).trans HKa17.out)
          have HRwc08 := Lib.hid (HRwc07.out.below hb (Nat.le_refl _))
          have HRwc18 := Lib.hid (HRwc17.out.below hb (Nat.le_refl _))
          have HBs4_8 : Hid (Below w4.heap.size w4 w8) := Lib.hid (HBs4_7.out.trans (hb.mono HBs4_7.out.size))
          have HBs6_8 : Hid (Below w6.heap.size w6 w8) := Lib.hid (HBs6_7.out.trans (hb.mono HBs6_7.out.size))
          have HBs7_8 : Hid (Below w7.heap.size w7 w8) := Lib.hid (HBs7_7.out.trans (hb.mono HBs7_7.out.size))
          have HKwb08 := Lib.hid hk
          replace HZ8 : Hid (w7.heap.size < w8.heap.size) := Lib.hid (by omega)
          have HE8 := Lib.hid hz
          clear hb hk hz
          clear ca10 fa10 lta1
          have lta1 := lt_of_block HKa18.out
          obtain ⟨ca10, fa10⟩ := cell1 HKa18.out
          have ltwb0 := lt_of_block HKwb08.out
          obtain ⟨cwb00, fwb00⟩ := cell1 HKwb08.out
          refine hK.out _ _ (ca10) (fun hHeld => ?_)
          clear hK K
          try simp only [Act.put, List.setIfInBounds_toArray, List.set_cons_zero, List.set_cons_succ]
          refine wpAnyH_ready (rs := [5]) (by kernel_rfl) (by simp) ?_
          refine AllReadyH.cons rfl (fun K hK => ?_) AllReadyH.nil
          go_simp
          go_at_call 15
          refine (toUnitS_any _ us2 _ HRf28.out hn2).mono ?_
          rintro e w9 ⟨⟨swc2, rfl, ho⟩, hb⟩
          have HB9 : Hid (Below w.heap.size w w9) := Lib.hid (HB8.out.trans (hb.mono HB8.out.size))
          have HZ9 : Hid (w8.heap.size ≤ w9.heap.size) := Lib.hid hb.size
          have HRf09 := Lib.hid (HRf00.out.below HB9.out (Nat.le_refl _))
          have HRf19 := Lib.hid (HRf10.out.below HB9.out (Nat.le_refl _))
          have HRf29 := Lib.hid (HRf20.out.below HB9.out (Nat.le_refl _))
          have HKa19 := Lib.hid ((hb.block _ (lt_of_block HKa18.out)).trans HKa18.out)
          have HRwc09 := Lib.hid (HRwc08.out.below hb (Nat.le_refl _))
          have HRwc19 := Lib.hid (HRwc18.out.below hb (Nat.le_refl _))
          have HKwb09 := Lib.hid ((hb.block _ (lt_of_block HKwb08.out)).trans HKwb08.out)
          have HBs4_9 : Hid (Below w4.heap.size w4 w9) := Lib.hid (HBs4_8.out.trans (hb.mono HBs4_8.out.size))
          have HBs6_9 : Hid (Below w6.heap.size w6 w9) := Lib.hid (HBs6_8.out.trans (hb.mono HBs6_8.out.size))
          have HBs7_9 : Hid (Below w7.heap.size w7 w9) := Lib.hid (HBs7_8.out.trans (hb.mono HBs7_8.out.size))
          clear hb
          obtain ⟨pwc2, kwc2, rfl⟩ := own_form ho
          have HRwc29 := Lib.hid (RowsR.of_own unC_len ho)
          have HBs9_9 : Hid (Below w9.heap.size w9 w9) := Lib.hid (Below.refl _ _)
          clear ho
          clear ca10 fa10 lta1 cwb00 fwb00 ltwb0
          have lta1 := lt_of_block HKa19.out
          obtain ⟨ca10, fa10⟩ := cell1 HKa19.out
          have ltwb0 := lt_of_block HKwb09.out
          obtain ⟨cwb00, fwb00⟩ := cell1 HKwb09.out
          try go_simp
          refine hK.out _ _ (ca10) (fun hHeld => ?_)
          clear hK K
          try simp only [Act.put, List.setIfInBounds_toArray, List.set_cons_zero, List.set_cons_succ]
          refine wpAnyH_ready (rs := [8]) (by kernel_rfl) (by simp) ?_
          refine AllReadyH.cons rfl (fun K hK => ?_) AllReadyH.nil
          go_simp
          go_at_call 40
          refine (HS.out _ _ _ _ HRwc09.out HRwc19.out HRwc29.out).mono ?_
          rintro e w10 ⟨⟨tw0, rfl, ho⟩, hb⟩
          have HB10 : Hid (Below w.heap.size w w10) := Lib.hid (HB9.out.trans (hb.mono HB9.out.size))
          have HZ10 : Hid (w9.heap.size ≤ w10.heap.size) := Lib.hid hb.size
          have HRf010 := Lib.hid (HRf00.out.below HB10.out (Nat.le_refl _))
          have HRf110 := Lib.hid (HRf10.out.below HB10.out (Nat.le_refl _))
          have HRf210 := Lib.hid (HRf20.out.below HB10.out (Nat.le_refl _))
          have HKa110 := Lib.hid ((hb.block _ (lt_of_block HKa19.out)).trans HKa19.out)
          have HRwc010 := Lib.hid (HRwc09.out.below hb (Nat.le_refl _))
          have HRwc110 := Lib.hid (HRwc19.out.below hb (Nat.le_refl _))
          have HKwb010 := Lib.hid ((hb.block _ (lt_of_block HKwb09.out)).trans HKwb09.out)
          have HRwc210 := Lib.hid (HRwc29.out.below hb (Nat.le_refl _))
          have HBs4_10 : Hid (Below w4.heap.size w4 w10) := Lib.hid (HBs4_9.out.trans (hb.mono HBs4_9.out.size))
          have HBs6_10 : Hid (Below w6.heap.size w6 w10) := Lib.hid (HBs6_9.out.trans (hb.mono HBs6_9.out.size))
          have HBs7_10 : Hid (Below w7.heap.size w7 w10) := Lib.hid (HBs7_9.out.trans (hb.mono HBs7_9.out.size))
          have HBs9_10 : Hid (Below w9.heap.size w9 w10) := Lib.hid (HBs9_9.out.trans (hb.mono HBs9_9.out.size))
          clear hb
          obtain ⟨pw0, kw0, rfl⟩ := ho.form
          have HOw10 := Lib.hid (ho)
          clear ho
          clear ca10 fa10 lta1 cwb00 fwb00 ltwb0
          have lta1 := lt_of_block HKa110.out
          obtain ⟨ca10, fa10⟩ := cell1 HKa110.out
          have ltwb0 := lt_of_block HKwb010.out
          obtain ⟨cwb00, fwb00⟩ := cell1 HKwb010.out
          try go_simp
          refine hK.out _ _ (ca10) (fun hHeld => ?_)
          clear hK K
          try simp only [Act.put, List.setIfInBounds_toArray, List.set_cons_zero, List.set_cons_succ]
          refine take1 (i := 9) (v := ?v14) (some 39) rfl rfl (by kernel_rfl) (by kernel_rfl) (by kernel_rfl) (fun _ _ _ h => h) (Or.inl ⟨by rfl, ?y14⟩) (by assumption) ?r14
          case y14 => (intro w hSw; (try dsimp only at hSw); go_simp; (first | done | with_reducible rfl))
          try simp only [Act.put, List.setIfInBounds_toArray, List.set_cons_zero, List.set_cons_succ]
          refine take1 (i := 10) (v := ?v15) (some 49) rfl rfl (by kernel_rfl) (by kernel_rfl) (by kernel_rfl) (fun _ _ _ h => h) (Or.inl ⟨by rfl, ?y15⟩) (by assumption) ?r15
          case y15 => (intro w hSw; (try dsimp only at hSw); go_simp; (first | done | with_reducible rfl))
          try simp only [Act.put, List.setIfInBounds_toArray, List.set_cons_zero, List.set_cons_succ]
          refine take1 (i := 11) (v := ?v16) (some 50) rfl rfl (by kernel_rfl) (by kernel_rfl) (by kernel_rfl) (fun _ _ _ h => h) (Or.inl ⟨by rfl, ?y16⟩) (by assumption) ?r16
          case y16 => (intro w hSw; (try dsimp only at hSw); go_simp; (first | done | with_reducible rfl))
          try simp only [Act.put, List.setIfInBounds_toArray, List.set_cons_zero, List.set_cons_succ]
          refine wpAnyH_ready (rs := [13]) (by kernel_rfl) (by simp) ?_
          refine AllReadyH.cons rfl (fun K hK => ?_) AllReadyH.nil
          go_simp
          have hkb := box1_set HKwb010.out (.slice pw0 qs0.length kw0)
          have hm : Btw w7.heap.size (w7.heap.size + 1) w10 (w10.setCell ⟨w7.heap.size, 0, none⟩ (.slice pw0 qs0.length kw0)) := (Btw.refl (w7.heap.size) (w7.heap.size + 1) w10).setCell (p := ⟨w7.heap.size, 0, none⟩) (Nat.le_refl _) (Nat.lt_succ_self _) _
          generalize w10.setCell ⟨w7.heap.size, 0, none⟩ (.slice pw0 qs0.length kw0) = w11 at hkb hm ⊢
          have HZ11 : Hid (w10.heap.size ≤ w11.heap.size) := Lib.hid hm.size
          have HB11 : Hid (Below w.heap.size w w11) := Lib.hid (HB10.out.trans (hm.below.mono (by have := HZ1.out; have := HZ2.out; have := HZ3.out; have := HZ4.out; have := HZ5.out; have := HZ6.out; have := HZ7.out; have := HZ8.out; have := HZ9.out; have := HZ10.out; have := HB0.out.size; omega)))
          have HRf011 := Lib.hid (HRf00.out.below HB11.out (Nat.le_refl _))
          have HRf111 := Lib.hid (HRf10.out.below HB11.out (Nat.le_refl _))
          have HRf211 := Lib.hid (HRf20.out.below HB11.out (Nat.le_refl _))
          have HKa111 := Lib.hid ((hm.block _ (by have := lt_of_block HKa110.out; have := HZ1.out; have := HZ2.out; have := HZ3.out; have := HZ4.out; have := HZ5.out; have := HZ6.out; have := HZ7.out; have := HZ8.out; have := HZ9.out; have := HZ10.out; omega)).trans HKa110.out)
          have HOw11 := Lib.hid (HOw10.out.btw hm (by have := HZ1.out; have := HZ2.out; have := HZ3.out; have := HZ4.out; have := HZ5.out; have := HZ6.out; have := HZ7.out; have := HZ8.out; have := HZ9.out; have := HZ10.out; omega))
          have HBs4_11 : Hid (Below w4.heap.size w4 w11) := Lib.hid (HBs4_10.out.trans (hm.below.mono (by have := HZ1.out; have := HZ2.out; have := HZ3.out; have := HZ4.out; have := HZ5.out; have := HZ6.out; have := HZ7.out; have := HZ8.out; have := HZ9.out; have := HZ10.out; omega)))
          clear hm
          have HKwb011 := Lib.hid (hkb)
          clear hkb
          clear ca10 fa10 lta1 cwb00 fwb00 ltwb0
          have lta1 := lt_of_block HKa111.out
          obtain ⟨ca10, fa10⟩ := cell1 HKa111.out
          have ltwb0 := lt_of_block HKwb011.out
          obtain ⟨cwb00, fwb00⟩ := cell1 HKwb011.out
          refine hK.out _ _ (ca10) (fun hHeld => ?_)
          clear hK K
          try simp only [Act.put]
          refine take1 (i := 14) (v := ?v17) (some 13) rfl rfl (by kernel_rfl) (by kernel_rfl) (by kernel_rfl) (fun _ _ _ h => h) (Or.inl ⟨by rfl, ?y17⟩) (by assumption) ?r17
          case y17 => (intro w hSw; (try dsimp only at hSw); go_simp; (first | done | with_reducible rfl))
          try simp only [Act.put, List.setIfInBounds_toArray, List.set_cons_zero, List.set_cons_succ]
          refine wpAnyH_done (by kernel_rfl) ?_ _
          go_wp2_with fail
          go_meet
          exact ⟨w7.heap.size, pw0, kw0, rfl, rfl, HKwb011.out, HOw11.out.reads, HBs4_11.out⟩
      · go_simp
        have hb : Below w6.heap.size w6 (w6.alloc (.cells #[.slice none 0 0] 34)) := (Below.refl _ _).alloc (Nat.le_refl _) _
        have hk : (w6.alloc (.cells #[.slice none 0 0] 34)).heap[w6.heap.size]? = some (.cells #[.slice none 0 0] 34 (0, 0)) := alloc_at rfl
        have hz : (w6.alloc (.cells #[.slice none 0 0] 34)).heap.size = w6.heap.size + 1 := by simp
        generalize w6.alloc (.cells #[.slice none 0 0] 34) = w7 at hb hk hz ⊢
        have HB7 : Hid (Below w.heap.size w w7) := Lib.hid (HB6.out.trans (hb.mono HB6.out.size))
        have HZ7 : Hid (w6.heap.size ≤ w7.heap.size) := Lib.hid hb.size
        have HRf07 := Lib.hid (HRf00.out.below HB7.out (Nat.le_refl _))
        have HRf17 := Lib.hid (HRf10.out.below HB7.out (Nat.le_refl _))
        have HRf27 := Lib.hid (HRf20.out.below HB7.out (Nat.le_refl _))
        have HKa17 := Lib.hid ((hb.block _ (lt_of_block HKa16.out)).trans HKa16.out)
        have HRwc07 := Lib.hid (HRwc06.out.below hb (Nat.le_refl _))
        have HBs4_7 : Hid (Below w4.heap.size w4 w7) := Lib.hid (HBs4_6.out.trans (hb.mono HBs4_6.out.size))
        have HBs6_7 : Hid (Below w6.heap.size w6 w7) := Lib.hid (HBs6_6.out.trans (hb.mono HBs6_6.out.size))
        have HKwb07 := Lib.hid hk
        replace HZ7 : Hid (w6.heap.size < w7.heap.size) := Lib.hid (by omega)
        have HE7 := Lib.hid hz
        clear hb hk hz
        clear ca10 fa10 lta1
        have lta1 := lt_of_block HKa17.out
        obtain ⟨ca10, fa10⟩ := cell1 HKa17.out
        have ltwb0 := lt_of_block HKwb07.out
        obtain ⟨cwb00, fwb00⟩ := cell1 HKwb07.out
        refine hK.out _ _ (ca10) (fun hHeld => ?_)
        clear hK K
        try simp only [Act.put, List.setIfInBounds_toArray, List.set_cons_zero, List.set_cons_succ]
        refine wpAnyH_ready (rs := [3]) (by kernel_rfl) (by simp) ?_
        refine AllReadyH.cons rfl (fun K hK => ?_) AllReadyH.nil
        go_simp
        go_at_call 20
        refine (toAmount_any _ cs1 _ HRf17.out hn1).mono ?_
        rintro e w8 ⟨⟨swc1, rfl, ho⟩, hb⟩
        have HB8 : Hid (Below w.heap.size w w8) := Lib.hid (HB7.out.trans (hb.mono HB7.out.size))
        have HZ8 : Hid (w7.heap.size ≤ w8.heap.size) := Lib.hid hb.size
        have HRf08 := Lib.hid (HRf00.out.below HB8.out (Nat.le_refl _))
        have HRf18 := Lib.hid (HRf10.out.below HB8.out (Nat.le_refl _))
        have HRf28 := Lib.hid (HRf20.out.below HB8.out (Nat.le_refl _))
        have HKa18 := Lib.hid ((hb.block _ (lt_of_block HKa17.out)).trans HKa17.out)
        have HRwc08 := Lib.hid (HRwc07.out.below hb (Nat.le_refl _))
        have HKwb08 := Lib.hid ((hb.block _ (lt_of_block HKwb07.out)).trans HKwb07.out)
        have HBs4_8 : Hid (Below w4.heap.size w4 w8) := Lib.hid (HBs4_7.out.trans (hb.mono HBs4_7.out.size))
        have HBs6_8 : Hid (Below w6.heap.size w6 w8) := Lib.hid (HBs6_7.out.trans (hb.mono HBs6_7.out.size))
        clear hb
        obtain ⟨pwc1, kwc1, rfl⟩ := ho.form
        have HRwc18 := Lib.hid (ho.reads)
        have HBs8_8 : Hid (Below w8.heap.size w8 w8) := Lib.hid (Below.refl _ _)
        clear ho
        clear ca10 fa10 lta1 cwb00 fwb00 ltwb0
        have lta1 := lt_of_block HKa18.out
        obtain ⟨ca10, fa10⟩ := cell1 HKa18.out
        have ltwb0 := lt_of_block HKwb08.out
        obtain ⟨cwb00, fwb00⟩ := cell1 HKwb08.out
        try go_simp
        refine hK.out _ _ (ca10) (fun hHeld => ?_)
        clear hK K
        try simp only [Act.put, List.setIfInBounds_toArray, List.set_cons_zero, List.set_cons_succ]
        refine wpAnyH_ready (rs := [5]) (by kernel_rfl) (by simp) ?_
        refine AllReadyH.cons rfl (fun K hK => ?_) AllReadyH.nil
        go_simp
        go_at_call 15
        refine (toUnitS_any _ us2 _ HRf28.out hn2).mono ?_
        rintro e w9 ⟨⟨swc2, rfl, ho⟩, hb⟩
        have HB9 : Hid (Below w.heap.size w w9) := Lib.hid (HB8.out.trans (hb.mono HB8.out.size))
        have HZ9 : Hid (w8.heap.size ≤ w9.heap.size) := Lib.hid hb.size
        have HRf09 := Lib.hid (HRf00.out.below HB9.out (Nat.le_refl _))
        have HRf19 := Lib.hid (HRf10.out.below HB9.out (Nat.le_refl _))
        have HRf29 := Lib.hid (HRf20.out.below HB9.out (Nat.le_refl _))
        have HKa19 := Lib.hid ((hb.block _ (lt_of_block HKa18.out)).trans HKa18.out)
        have HRwc09 := Lib.hid (HRwc08.out.below hb (Nat.le_refl _))
        have HKwb09 := Lib.hid ((hb.block _ (lt_of_block HKwb08.out)).trans HKwb08.out)
        have HRwc19 := Lib.hid (HRwc18.out.below hb (Nat.le_refl _))
        have HBs4_9 : Hid (Below w4.heap.size w4 w9) := Lib.hid (HBs4_8.out.trans (hb.mono HBs4_8.out.size))
        have HBs6_9 : Hid (Below w6.heap.size w6 w9) := Lib.hid (HBs6_8.out.trans (hb.mono HBs6_8.out.size))
        have HBs8_9 : Hid (Below w8.heap.size w8 w9) := Lib.hid (HBs8_8.out.trans (hb.mono HBs8_8.out.size))
        clear hb
        obtain ⟨pwc2, kwc2, rfl⟩ := own_form ho
        have HRwc29 := Lib.hid (RowsR.of_own unC_len ho)
        have HBs9_9 : Hid (Below w9.heap.size w9 w9) := Lib.hid (Below.refl _ _)
        clear ho
        clear ca10 fa10 lta1 cwb00 fwb00 ltwb0
        have lta1 := lt_of_block HKa19.out
        obtain ⟨ca10, fa10⟩ := cell1 HKa19.out
        have ltwb0 := lt_of_block HKwb09.out
        obtain ⟨cwb00, fwb00⟩ := cell1 HKwb09.out
        try go_simp
        refine hK.out _ _ (ca10) (fun hHeld => ?_)
        clear hK K
        try simp only [Act.put, List.setIfInBounds_toArray, List.set_cons_zero, List.set_cons_succ]
        refine wpAnyH_ready (rs := [8]) (by kernel_rfl) (by simp) ?_
        refine AllReadyH.cons rfl (fun K hK => ?_) AllReadyH.nil
        go_simp
        go_at_call 40
        refine (HS.out _ _ _ _ HRwc09.out HRwc19.out HRwc29.out).mono ?_
        rintro e w10 ⟨⟨tw0, rfl, ho⟩, hb⟩
        have HB10 : Hid (Below w.heap.size w w10) := Lib.hid (HB9.out.trans (hb.mono HB9.out.size))
        have HZ10 : Hid (w9.heap.size ≤ w10.heap.size) := Lib.hid hb.size
        have HRf010 := Lib.hid (HRf00.out.below HB10.out (Nat.le_refl _))
        have HRf110 := Lib.hid (HRf10.out.below HB10.out (Nat.le_refl _))
        have HRf210 := Lib.hid (HRf20.out.below HB10.out (Nat.le_refl _))
        have HKa110 := Lib.hid ((hb.block _ (lt_of_block HKa19.out)).trans HKa19.out)
        have HRwc010 := Lib.hid (HRwc09.out.below hb (Nat.le_refl _))
        have HKwb010 := Lib.hid ((hb.block _ (lt_of_block HKwb09.out)).trans HKwb09.out)
        have HRwc110 := Lib.hid (HRwc19.out.below hb (Nat.le_refl _))
        have HRwc210 := Lib.hid (HRwc29.out.below hb (Nat.le_refl _))
        have HBs4_10 : Hid (Below w4.heap.size w4 w10) := Lib.hid (HBs4_9.out.trans (hb.mono HBs4_9.out.size))
        have HBs6_10 : Hid (Below w6.heap.size w6 w10) := Lib.hid (HBs6_9.out.trans (hb.mono HBs6_9.out.size))
        have HBs8_10 : Hid (Below w8.heap.size w8 w10) := Lib.hid (HBs8_9.out.trans (hb.mono HBs8_9.out.size))
        have HBs9_10 : Hid (Below w9.heap.size w9 w10) := Lib.hid (HBs9_9.out.trans (hb.mono HBs9_9.out.size))
        clear hb
        obtain ⟨pw0, kw0, rfl⟩ := ho.form
        have HOw10 := Lib.hid (ho)
        clear ho
        clear ca10 fa10 lta1 cwb00 fwb00 ltwb0
        have lta1 := lt_of_block HKa110.out
        obtain ⟨ca10, fa10⟩ := cell1 HKa110.out
        have ltwb0 := lt_of_block HKwb010.out
        obtain ⟨cwb00, fwb00⟩ := cell1 HKwb010.out
        try go_simp
        refine hK.out _ _ (ca10) (fun hHeld => ?_)
        clear hK K
        try simp only [Act.put, List.setIfInBounds_toArray, List.set_cons_zero, List.set_cons_succ]
        refine take1 (i := 9) (v := ?v18) (some 39) rfl rfl (by kernel_rfl) (by kernel_rfl) (by kernel_rfl) (fun _ _ _ h => h) (Or.inl ⟨by rfl, ?y18⟩) (by assumption) ?r18
        case y18 => (intro w hSw; (try dsimp only at hSw); go_simp; (first | done | with_reducible rfl))
        try simp only [Act.put, List.setIfInBounds_toArray, List.set_cons_zero, List.set_cons_succ]
        refine take1 (i := 10) (v := ?v19) (some 49) rfl rfl (by kernel_rfl) (by kernel_rfl) (by kernel_rfl) (fun _ _ _ h => h) (Or.inl ⟨by rfl, ?y19⟩) (by assumption) ?r19
        case y19 => (intro w hSw; (try dsimp only at hSw); go_simp; (first | done | with_reducible rfl))
        try simp only [Act.put, List.setIfInBounds_toArray, List.set_cons_zero, List.set_cons_succ]
        refine take1 (i := 11) (v := ?v20) (some 50) rfl rfl (by kernel_rfl) (by kernel_rfl) (by kernel_rfl) (fun _ _ _ h => h) (Or.inl ⟨by rfl, ?y20⟩) (by assumption) ?r20
        case y20 => (intro w hSw; (try dsimp only at hSw); go_simp; (first | done | with_reducible rfl))
        try simp only [Act.put, List.setIfInBounds_toArray, List.set_cons_zero, List.set_cons_succ]
        refine wpAnyH_ready (rs := [13]) (by kernel_rfl) (by simp) ?_
        refine AllReadyH.cons rfl (fun K hK => ?_) AllReadyH.nil
        go_simp
        have hkb := box1_set HKwb010.out (.slice pw0 qs0.length kw0)
        have hm : Btw w6.heap.size (w6.heap.size + 1) w10 (w10.setCell ⟨w6.heap.size, 0, none⟩ (.slice pw0 qs0.length kw0)) := (Btw.refl (w6.heap.size) (w6.heap.size + 1) w10).setCell (p := ⟨w6.heap.size, 0, none⟩) (Nat.le_refl _) (Nat.lt_succ_self _) _
        generalize w10.setCell ⟨w6.heap.size, 0, none⟩ (.slice pw0 qs0.length kw0) = w11 at hkb hm ⊢
        have HZ11 : Hid (w10.heap.size ≤ w11.heap.size) := Lib.hid hm.size
        have HB11 : Hid (Below w.heap.size w w11) := Lib.hid (HB10.out.trans (hm.below.mono (by have := HZ1.out; have := HZ2.out; have := HZ3.out; have := HZ4.out; have := HZ5.out; have := HZ6.out; have := HZ7.out; have := HZ8.out; have := HZ9.out; have := HZ10.out; have := HB0.out.size; omega)))
        have HRf011 := Lib.hid (HRf00.out.below HB11.out (Nat.le_refl _))
        have HRf111 := Lib.hid (HRf10.out.below HB11.out (Nat.le_refl _))
        have HRf211 := Lib.hid (HRf20.out.below HB11.out (Nat.le_refl _))
        have HKa111 := Lib.hid ((hm.block _ (by have := lt_of_block HKa110.out; have := HZ1.out; have := HZ2.out; have := HZ3.out; have := HZ4.out; have := HZ5.out; have := HZ6.out; have := HZ7.out; have := HZ8.out; have := HZ9.out; have := HZ10.out; omega)).trans HKa110.out)
        have HOw11 := Lib.hid (HOw10.out.btw hm (by have := HZ1.out; have := HZ2.out; have := HZ3.out; have := HZ4.out; have := HZ5.out; have := HZ6.out; have := HZ7.out; have := HZ8.out; have := HZ9.out; have := HZ10.out; omega))
        have HBs4_11 : Hid (Below w4.heap.size w4 w11) := Lib.hid (HBs4_10.out.trans (hm.below.mono (by have := HZ1.out; have := HZ2.out; have := HZ3.out; have := HZ4.out; have := HZ5.out; have := HZ6.out; have := HZ7.out; have := HZ8.out; have := HZ9.out; have := HZ10.out; omega)))
        clear hm
        have HKwb011 := Lib.hid (hkb)
        clear hkb
        clear ca10 fa10 lta1 cwb00 fwb00 ltwb0
        have lta1 := lt_of_block HKa111.out
        obtain ⟨ca10, fa10⟩ := cell1 HKa111.out
        have ltwb0 := lt_of_block HKwb011.out
        obtain ⟨cwb00, fwb00⟩ := cell1 HKwb011.out
        refine hK.out _ _ (ca10) (fun hHeld => ?_)
        clear hK K
        try simp only [Act.put]
        refine take1 (i := 14) (v := ?v21) (some 13) rfl rfl (by kernel_rfl) (by kernel_rfl) (by kernel_rfl) (fun _ _ _ h => h) (Or.inl ⟨by rfl, ?y21⟩) (by assumption) ?r21
        case y21 => (intro w hSw; (try dsimp only at hSw); go_simp; (first | done | with_reducible rfl))
        try simp only [Act.put, List.setIfInBounds_toArray, List.set_cons_zero, List.set_cons_succ]
        refine wpAnyH_done (by kernel_rfl) ?_ _
        go_wp2_with fail
        go_meet
        exact ⟨w6.heap.size, pw0, kw0, rfl, rfl, HKwb011.out, HOw11.out.reads, HBs4_11.out⟩
    · go_simp
      have hb : Below w5.heap.size w5 (w5.alloc (.cells #[.slice none 0 0] 34)) := (Below.refl _ _).alloc (Nat.le_refl _) _
      have hk : (w5.alloc (.cells #[.slice none 0 0] 34)).heap[w5.heap.size]? = some (.cells #[.slice none 0 0] 34 (0, 0)) := alloc_at rfl
      have hz : (w5.alloc (.cells #[.slice none 0 0] 34)).heap.size = w5.heap.size + 1 := by simp
      generalize w5.alloc (.cells #[.slice none 0 0] 34) = w6 at hb hk hz ⊢
      have HB6 : Hid (Below w.heap.size w w6) := Lib.hid (HB5.out.trans (hb.mono HB5.out.size))
      have HZ6 : Hid (w5.heap.size ≤ w6.heap.size) := Lib.hid hb.size
      have HRf06 := Lib.hid (HRf00.out.below HB6.out (Nat.le_refl _))
      have HRf16 := Lib.hid (HRf10.out.below HB6.out (Nat.le_refl _))
      have HRf26 := Lib.hid (HRf20.out.below HB6.out (Nat.le_refl _))
      have HKa16 := Lib.hid ((hb.block _ (lt_of_block HKa15.out)).trans HKa15.out)
      have HBs4_6 : Hid (Below w4.heap.size w4 w6) := Lib.hid (HBs4_5.out.trans (hb.mono HBs4_5.out.size))
      have HKwb06 := Lib.hid hk
      replace HZ6 : Hid (w5.heap.size < w6.heap.size) := Lib.hid (by omega)
      have HE6 := Lib.hid hz
      clear hb hk hz
      clear ca10 fa10 lta1
      have lta1 := lt_of_block HKa16.out
      obtain ⟨ca10, fa10⟩ := cell1 HKa16.out
      have ltwb0 := lt_of_block HKwb06.out
      obtain ⟨cwb00, fwb00⟩ := cell1 HKwb06.out
      refine hK.out _ _ (ca10) (fun hHeld => ?_)
      clear hK K
      try simp only [Act.put, List.setIfInBounds_toArray, List.set_cons_zero, List.set_cons_succ]
      refine wpAnyH_ready (rs := [1]) (by kernel_rfl) (by simp) ?_
      refine AllReadyH.cons rfl (fun K hK => ?_) AllReadyH.nil
      go_simp
      go_at_call 15
      refine (toUnitS_any _ us0 _ HRf06.out hn0).mono ?_
      rintro e w7 ⟨⟨swc0, rfl, ho⟩, hb⟩
      have HB7 : Hid (Below w.heap.size w w7) := Lib.hid (HB6.out.trans (hb.mono HB6.out.size))
      have HZ7 : Hid (w6.heap.size ≤ w7.heap.size) := Lib.hid hb.size
      have HRf07 := Lib.hid (HRf00.out.below HB7.out (Nat.le_refl _))
      have HRf17 := Lib.hid (HRf10.out.below HB7.out (Nat.le_refl _))
      have HRf27 := Lib.hid (HRf20.out.below HB7.out (Nat.le_refl _))
      have HKa17 := Lib.hid ((hb.block _ (lt_of_block HKa16.out)).trans HKa16.out)
      have HKwb07 := Lib.hid ((hb.block _ (lt_of_block HKwb06.out)).trans HKwb06.out)
      have HBs4_7 : Hid (Below w4.heap.size w4 w7) := Lib.hid (HBs4_6.out.trans (hb.mono HBs4_6.out.size))
      clear hb
      obtain ⟨pwc0, kwc0, rfl⟩ := own_form ho
      have HRwc07 := Lib.hid (RowsR.of_own unC_len ho)
      have HBs7_7 : Hid (Below w7.heap.size w7 w7) := Lib.hid (Below.refl _ _)
      clear ho
      clear ca10 fa10 lta1 cwb00 fwb00 ltwb0
      have lta1 := lt_of_block HKa17.out
      obtain ⟨ca10, fa10⟩ := cell1 HKa17.out
      have ltwb0 := lt_of_block HKwb07.out
      obtain ⟨cwb00, fwb00⟩ := cell1 HKwb07.out
      try go_simp
      refine hK.out _ _ (ca10) (fun hHeld => ?_)
      clear hK K
      try simp only [Act.put, List.setIfInBounds_toArray, List.set_cons_zero, List.set_cons_succ]
      refine wpAnyH_ready (rs := [3]) (by kernel_rfl) (by simp) ?_
      refine AllReadyH.cons rfl (fun K hK => ?_) AllReadyH.nil
      go_simp
      go_at_call 20
      refine (toAmount_any _ cs1 _ HRf17.out hn1).mono ?_
      rintro e w8 ⟨⟨swc1, rfl, ho⟩, hb⟩
      have HB8 : Hid (Below w.heap.size w w8) := Lib.hid (HB7.out.trans (hb.mono HB7.out.size))
      have HZ8 : Hid (w7.heap.size ≤ w8.heap.size) := Lib.hid hb.size
      have HRf08 := Lib.hid (HRf00.out.below HB8.out (Nat.le_refl _))
      have HRf18 := Lib.hid (HRf10.out.below HB8.out (Nat.le_refl _))
      have HRf28 := Lib.hid (HRf20.out.below HB8.out (Nat.le_refl _))
      have HKa18 := Lib.hid ((hb.block _ (lt_of_block HKa17.out)).trans HKa17.out)
      have HKwb08 := Lib.hid ((hb.block _ (lt_of_block HKwb07.out)).trans HKwb07.out)
      have HRwc08 := Lib.hid (HRwc07.out.below hb (Nat.le_refl _))
      have HBs4_8 : Hid (Below w4.heap.size w4 w8) := Lib.hid (HBs4_7.out.trans (hb.mono HBs4_7.out.size))
      have HBs7_8 : Hid (Below w7.heap.size w7 w8) := Lib.hid (HBs7_7.out.trans (hb.mono HBs7_7.out.size))
      clear hb
      obtain ⟨pwc1, kwc1, rfl⟩ := ho.form
      have HRwc18 := Lib.hid (ho.reads)
      have HBs8_8 : Hid (Below w8.heap.size w8 w8) := Lib.hid (Below.refl _ _)
      clear ho
      clear ca10 fa10 lta1 cwb00 fwb00 ltwb0
      have lta1 := lt_of_block HKa18.out
      obtain ⟨ca10, fa10⟩ := cell1 HKa18.out
      have ltwb0 := lt_of_block HKwb08.out
      obtain ⟨cwb00, fwb00⟩ := cell1 HKwb08.out
      try go_simp
      refine hK.out _ _ (ca10) (fun hHeld => ?_)
      clear hK K
      try simp only [Act.put, List.setIfInBounds_toArray, List.set_cons_zero, List.set_cons_succ]
      refine wpAnyH_ready (rs := [5]) (by kernel_rfl) (by simp) ?_
      refine AllReadyH.cons rfl (fun K hK => ?_) AllReadyH.nil
      go_simp
      go_at_call 15
      refine (toUnitS_any _ us2 _ HRf28.out hn2).mono ?_
      rintro e w9 ⟨⟨swc2, rfl, ho⟩, hb⟩
      have HB9 : Hid (Below w.heap.size w w9) := Lib.hid (HB8.out.trans (hb.mono HB8.out.size))
      have HZ9 : Hid (w8.heap.size ≤ w9.heap.size) := Lib.hid hb.size
      have HRf09 := Lib.hid (HRf00.out.below HB9.out (Nat.le_refl _))
      have HRf19 := Lib.hid (HRf10.out.below HB9.out (Nat.le_refl _))
      have HRf29 := Lib.hid (HRf20.out.below HB9.out (Nat.le_refl _))
      have HKa19 := Lib.hid ((hb.block _ (lt_of_block HKa18.out)).trans HKa18.out)
      have HKwb09 := Lib.hid ((hb.block _ (lt_of_block HKwb08.out)).trans HKwb08.out)
      have HRwc09 := Lib.hid (HRwc08.out.below hb (Nat.le_refl _))
      have HRwc19 := Lib.hid (HRwc18.out.below hb (Nat.le_refl _))
      have HBs4_9 : Hid (Below w4.heap.size w4 w9) := Lib.hid (HBs4_8.out.trans (hb.mono HBs4_8.out.size))
      have HBs7_9 : Hid (Below w7.heap.size w7 w9) := Lib.hid (HBs7_8.out.trans (hb.mono HBs7_8.out.size))
      have HBs8_9 : Hid (Below w8.heap.size w8 w9) := Lib.hid (HBs8_8.out.trans (hb.mono HBs8_8.out.size))
      clear hb
      obtain ⟨pwc2, kwc2, rfl⟩ := own_form ho
      have HRwc29 := Lib.hid (RowsR.of_own unC_len ho)
      have HBs9_9 : Hid (Below w9.heap.size w9 w9) := Lib.hid (Below.refl _ _)
      clear ho
      clear ca10 fa10 lta1 cwb00 fwb00 ltwb0
      have lta1 := lt_of_block HKa19.out
      obtain ⟨ca10, fa10⟩ := cell1 HKa19.out
      have ltwb0 := lt_of_block HKwb09.out
      obtain ⟨cwb00, fwb00⟩ := cell1 HKwb09.out
      try go_simp
      refine hK.out _ _ (ca10) (fun hHeld => ?_)
      clear hK K
      try simp only [Act.put, List.setIfInBounds_toArray, List.set_cons_zero, List.set_cons_succ]
      refine wpAnyH_ready (rs := [8]) (by kernel_rfl) (by simp) ?_
      refine AllReadyH.cons rfl (fun K hK => ?_) AllReadyH.nil
      go_simp
      go_at_call 40
      refine (HS.out _ _ _ _ HRwc09.out HRwc19.out HRwc29.out).mono ?_
      rintro e w10 ⟨⟨tw0, rfl, ho⟩, hb⟩
      have HB10 : Hid (Below w.heap.size w w10) := Lib.hid (HB9.out.trans (hb.mono HB9.out.size))
      have HZ10 : Hid (w9.heap.size ≤ w10.heap.size) := Lib.hid hb.size
      have HRf010 := Lib.hid (HRf00.out.below HB10.out (Nat.le_refl _))
      have HRf110 := Lib.hid (HRf10.out.below HB10.out (Nat.le_refl _))
      have HRf210 := Lib.hid (HRf20.out.below HB10.out (Nat.le_refl _))
      have HKa110 := Lib.hid ((hb.block _ (lt_of_block HKa19.out)).trans HKa19.out)
      have HKwb010 := Lib.hid ((hb.block _ (lt_of_block HKwb09.out)).trans HKwb09.out)
      have HRwc010 := Lib.hid (HRwc09.out.below hb (Nat.le_refl _))
      have HRwc110 := Lib.hid (HRwc19.out.below hb (Nat.le_refl _))
      have HRwc210 := Lib.hid (HRwc29.out.below hb (Nat.le_refl _))
      have HBs4_10 : Hid (Below w4.heap.size w4 w10) := Lib.hid (HBs4_9.out.trans (hb.mono HBs4_9.out.size))
      have HBs7_10 : Hid (Below w7.heap.size w7 w10) := Lib.hid (HBs7_9.out.trans (hb.mono HBs7_9.out.size))
      have HBs8_10 : Hid (Below w8.heap.size w8 w10) := Lib.hid (HBs8_9.out.trans (hb.mono HBs8_9.out.size))
      have HBs9_10 : Hid (Below w9.heap.size w9 w10) := Lib.hid (HBs9_9.out.trans (hb.mono HBs9_9.out.size))
      clear hb
      obtain ⟨pw0, kw0, rfl⟩ := ho.form
      have HOw10 := Lib.hid (ho)
      clear ho
      clear ca10 fa10 lta1 cwb00 fwb00 ltwb0
      have lta1 := lt_of_block HKa110.out
      obtain ⟨ca10, fa10⟩ := cell1 HKa110.out
      have ltwb0 := lt_of_block HKwb010.out
      obtain ⟨cwb00, fwb00⟩ := cell1 HKwb010.out
      try go_simp
      refine hK.out _ _ (ca10) (fun hHeld => ?_)
      clear hK K
      try simp only [Act.put, List.setIfInBounds_toArray, List.set_cons_zero, List.set_cons_succ]
      refine take1 (i := 9) (v := ?v22) (some 39) rfl rfl (by kernel_rfl) (by kernel_rfl) (by kernel_rfl) (fun _ _ _ h => h) (Or.inl ⟨by rfl, ?y22⟩) (by assumption) ?r22
      case y22 => (intro w hSw; (try dsimp only at hSw); go_simp; (first | done | with_reducible rfl))
      try simp only [Act.put, List.setIfInBounds_toArray, List.set_cons_zero, List.set_cons_succ]
      refine take1 (i := 10) (v := ?v23) (some 49) rfl rfl (by kernel_rfl) (by kernel_rfl) (by kernel_rfl) (fun _ _ _ h => h) (Or.inl ⟨by rfl, ?y23⟩) (by assumption) ?r23
      case y23 => (intro w hSw; (try dsimp only at hSw); go_simp; (first | done | with_reducible rfl))
      try simp only [Act.put, List.setIfInBounds_toArray, List.set_cons_zero, List.set_cons_succ]
      refine take1 (i := 11) (v := ?v24) (some 50) rfl rfl (by kernel_rfl) (by kernel_rfl) (by kernel_rfl) (fun _ _ _ h => h) (Or.inl ⟨by rfl, ?y24⟩) (by assumption) ?r24
      case y24 => (intro w hSw; (try dsimp only at hSw); go_simp; (first | done | with_reducible rfl))
      try simp only [Act.put, List.setIfInBounds_toArray, List.set_cons_zero, List.set_cons_succ]
      refine wpAnyH_ready (rs := [13]) (by kernel_rfl) (by simp) ?_
      refine AllReadyH.cons rfl (fun K hK => ?_) AllReadyH.nil
      go_simp
      have hkb := box1_set HKwb010.out (.slice pw0 qs0.length kw0)
      have hm : Btw w5.heap.size (w5.heap.size + 1) w10 (w10.setCell ⟨w5.heap.size, 0, none⟩ (.slice pw0 qs0.length kw0)) := (Btw.refl (w5.heap.size) (w5.heap.size + 1) w10).setCell (p := ⟨w5.heap.size, 0, none⟩) (Nat.le_refl _) (Nat.lt_succ_self _) _
      generalize w10.setCell ⟨w5.heap.size, 0, none⟩ (.slice pw0 qs0.length kw0) = w11 at hkb hm ⊢
      have HZ11 : Hid (w10.heap.size ≤ w11.heap.size) := Lib.hid hm.size
      have HB11 : Hid (Below w.heap.size w w11) := Lib.hid (HB10.out.trans (hm.below.mono (by have := HZ1.out; have := HZ2.out; have := HZ3.out; have := HZ4.out; have := HZ5.out; have := HZ6.out; have := HZ7.out; have := HZ8.out; have := HZ9.out; have := HZ10.out; have := HB0.out.size; omega)))
      have HRf011 := Lib.hid (HRf00.out.below HB11.out (Nat.le_refl _))
      have HRf111 := Lib.hid (HRf10.out.below HB11.out (Nat.le_refl _))
      have HRf211 := Lib.hid (HRf20.out.below HB11.out (Nat.le_refl _))
      have HKa111 := Lib.hid ((hm.block _ (by have := lt_of_block HKa110.out; have := HZ1.out; have := HZ2.out; have := HZ3.out; have := HZ4.out; have := HZ5.out; have := HZ6.out; have := HZ7.out; have := HZ8.out; have := HZ9.out; have := HZ10.out; omega)).trans HKa110.out)
      have HOw11 := Lib.hid (HOw10.out.btw hm (by have := HZ1.out; have := HZ2.out; have := HZ3.out; have := HZ4.out; have := HZ5.out; have := HZ6.out; have := HZ7.out; have := HZ8.out; have := HZ9.out; have := HZ10.out; omega))
      have HBs4_11 : Hid (Below w4.heap.size w4 w11) := Lib.hid (HBs4_10.out.trans (hm.below.mono (by have := HZ1.out; have := HZ2.out; have := HZ3.out; have := HZ4.out; have := HZ5.out; have := HZ6.out; have := HZ7.out; have := HZ8.out; have := HZ9.out; have := HZ10.out; omega)))
      clear hm
      have HKwb011 := Lib.hid (hkb)
      clear hkb
      clear ca10 fa10 lta1 cwb00 fwb00 ltwb0
      have lta1 := lt_of_block HKa111.out
      obtain ⟨ca10, fa10⟩ := cell1 HKa111.out
      have ltwb0 := lt_of_block HKwb011.out
      obtain ⟨cwb00, fwb00⟩ := cell1 HKwb011.out
      refine hK.out _ _ (ca10) (fun hHeld => ?_)
      clear hK K
      try simp only [Act.put]
      refine take1 (i := 14) (v := ?v25) (some 13) rfl rfl (by kernel_rfl) (by kernel_rfl) (by kernel_rfl) (fun _ _ _ h => h) (Or.inl ⟨by rfl, ?y25⟩) (by assumption) ?r25
      case y25 => (intro w hSw; (try dsimp only at hSw); go_simp; (first | done | with_reducible rfl))
      try simp only [Act.put, List.setIfInBounds_toArray, List.set_cons_zero, List.set_cons_succ]
      refine wpAnyH_done (by kernel_rfl) ?_ _
      go_wp2_with fail
      go_meet
      exact ⟨w5.heap.size, pw0, kw0, rfl, rfl, HKwb011.out, HOw11.out.reads, HBs4_11.out⟩
  case rest =>
    obtain ⟨bw0, pw0, kw0, rfl, rfl, hkq0, hrq0, hb⟩ := hcut
    rename World => w5
    have HB5 : Hid (Below w.heap.size w w5) := Lib.hid (HB4.out.trans (hb.mono HB4.out.size))
    have HZ5 : Hid (w4.heap.size ≤ w5.heap.size) := Lib.hid hb.size
    have HRf05 := Lib.hid (HRf00.out.below HB5.out (Nat.le_refl _))
    have HRf15 := Lib.hid (HRf10.out.below HB5.out (Nat.le_refl _))
    have HRf25 := Lib.hid (HRf20.out.below HB5.out (Nat.le_refl _))
    have HKa15 := Lib.hid ((hb.block _ (lt_of_block HKa14.out)).trans HKa14.out)
    clear hb
    have hltw0 := lt_of_block hkq0
    have HKwb05 := Lib.hid (hkq0)
    have HRw05 := Lib.hid (hrq0)
    have HBs5_5 : Hid (Below w5.heap.size w5 w5) := Lib.hid (Below.refl _ _)
    clear hkq0 hrq0
    clear ca10 fa10 lta1
    have lta1 := lt_of_block HKa15.out
    obtain ⟨ca10, fa10⟩ := cell1 HKa15.out
    have ltwb0 := lt_of_block HKwb05.out
    obtain ⟨cwb00, fwb00⟩ := cell1 HKwb05.out
    go_wp2_with fail
    refine (toUnitS_any _ us0 _ HRf05.out hn0).mono ?_
    rintro e w6 ⟨⟨sx0, rfl, ho⟩, hb⟩
    have HB6 : Hid (Below w.heap.size w w6) := Lib.hid (HB5.out.trans (hb.mono HB5.out.size))
    have HZ6 : Hid (w5.heap.size ≤ w6.heap.size) := Lib.hid hb.size
    have HRf06 := Lib.hid (HRf00.out.below HB6.out (Nat.le_refl _))
    have HRf16 := Lib.hid (HRf10.out.below HB6.out (Nat.le_refl _))
    have HRf26 := Lib.hid (HRf20.out.below HB6.out (Nat.le_refl _))
    have HKa16 := Lib.hid ((hb.block _ (lt_of_block HKa15.out)).trans HKa15.out)
    have HKwb06 := Lib.hid ((hb.block _ (lt_of_block HKwb05.out)).trans HKwb05.out)
    have HRw06 := Lib.hid (HRw05.out.below hb (Nat.le_refl _))
    have HBs5_6 : Hid (Below w5.heap.size w5 w6) := Lib.hid (HBs5_5.out.trans (hb.mono HBs5_5.out.size))
    clear hb
    obtain ⟨px0, kx0, rfl⟩ := own_form ho
    have HOx06 := Lib.hid (Ow.mk' ho)
    clear ho
    clear ca10 fa10 lta1 cwb00 fwb00 ltwb0
    have lta1 := lt_of_block HKa16.out
    obtain ⟨ca10, fa10⟩ := cell1 HKa16.out
    have ltwb0 := lt_of_block HKwb06.out
    obtain ⟨cwb00, fwb00⟩ := cell1 HKwb06.out
    go_wp2_with fail
    refine (toAmount_any _ cs1 _ HRf16.out hn1).mono ?_
    rintro e w7 ⟨⟨sx1, rfl, ho⟩, hb⟩
    have HB7 : Hid (Below w.heap.size w w7) := Lib.hid (HB6.out.trans (hb.mono HB6.out.size))
    have HZ7 : Hid (w6.heap.size ≤ w7.heap.size) := Lib.hid hb.size
    have HRf07 := Lib.hid (HRf00.out.below HB7.out (Nat.le_refl _))
    have HRf17 := Lib.hid (HRf10.out.below HB7.out (Nat.le_refl _))
    have HRf27 := Lib.hid (HRf20.out.below HB7.out (Nat.le_refl _))
    have HKa17 := Lib.hid ((hb.block _ (lt_of_block HKa16.out)).trans HKa16.out)
    have HKwb07 := Lib.hid ((hb.block _ (lt_of_block HKwb06.out)).trans HKwb06.out)
    have HRw07 := Lib.hid (HRw06.out.below hb (Nat.le_refl _))
    have HOx07 := Lib.hid (HOx06.out.next hb)
    have HBs5_7 : Hid (Below w5.heap.size w5 w7) := Lib.hid (HBs5_6.out.trans (hb.mono HBs5_6.out.size))
    clear hb
    obtain ⟨px1, kx1, rfl⟩ := ho.form
    have HOx17 := Lib.hid (ho)
    clear ho
    clear ca10 fa10 lta1 cwb00 fwb00 ltwb0
    have lta1 := lt_of_block HKa17.out
    obtain ⟨ca10, fa10⟩ := cell1 HKa17.out
    have ltwb0 := lt_of_block HKwb07.out
    obtain ⟨cwb00, fwb00⟩ := cell1 HKwb07.out
    go_wp2_with fail
    have hb : Below w7.heap.size w7 (w7.alloc (.cells #[.slice px1 cs1.length kx1] 34)) := (Below.refl _ _).alloc (Nat.le_refl _) _
    have hk : (w7.alloc (.cells #[.slice px1 cs1.length kx1] 34)).heap[w7.heap.size]? = some (.cells #[.slice px1 cs1.length kx1] 34 (0, 0)) := alloc_at rfl
    have hz : (w7.alloc (.cells #[.slice px1 cs1.length kx1] 34)).heap.size = w7.heap.size + 1 := by simp
    generalize w7.alloc (.cells #[.slice px1 cs1.length kx1] 34) = w8 at hb hk hz ⊢
    have HB8 : Hid (Below w.heap.size w w8) := Lib.hid (HB7.out.trans (hb.mono HB7.out.size))
    have HZ8 : Hid (w7.heap.size ≤ w8.heap.size) := Lib.hid hb.size
    have HRf08 := Lib.hid (HRf00.out.below HB8.out (Nat.le_refl _))
    have HRf18 := Lib.hid (HRf10.out.below HB8.out (Nat.le_refl _))
    have HRf28 := Lib.hid (HRf20.out.below HB8.out (Nat.le_refl _))
    have HKa18 := Lib.hid ((hb.block _ (lt_of_block HKa17.out)).trans HKa17.out)
    have HKwb08 := Lib.hid ((hb.block _ (lt_of_block HKwb07.out)).trans HKwb07.out)
    have HRw08 := Lib.hid (HRw07.out.below hb (Nat.le_refl _))
    have HOx08 := Lib.hid (HOx07.out.next hb)
    have HOx18 := Lib.hid (HOx17.out.next hb)
    have HBs5_8 : Hid (Below w5.heap.size w5 w8) := Lib.hid (HBs5_7.out.trans (hb.mono HBs5_7.out.size))
    have HKx18 := Lib.hid hk
    replace HZ8 : Hid (w7.heap.size < w8.heap.size) := Lib.hid (by omega)
    have HE8 := Lib.hid hz
    clear hb hk hz
    refine (toUnitS_any _ us2 _ HRf28.out hn2).mono ?_
    rintro e w9 ⟨⟨sx2, rfl, ho⟩, hb⟩
    have HB9 : Hid (Below w.heap.size w w9) := Lib.hid (HB8.out.trans (hb.mono HB8.out.size))
    have HZ9 : Hid (w8.heap.size ≤ w9.heap.size) := Lib.hid hb.size
    have HRf09 := Lib.hid (HRf00.out.below HB9.out (Nat.le_refl _))
    have HRf19 := Lib.hid (HRf10.out.below HB9.out (Nat.le_refl _))
    have HRf29 := Lib.hid (HRf20.out.below HB9.out (Nat.le_refl _))
    have HKa19 := Lib.hid ((hb.block _ (lt_of_block HKa18.out)).trans HKa18.out)
    have HKwb09 := Lib.hid ((hb.block _ (lt_of_block HKwb08.out)).trans HKwb08.out)
    have HRw09 := Lib.hid (HRw08.out.below hb (Nat.le_refl _))
    have HOx09 := Lib.hid (HOx08.out.next hb)
    have HOx19 := Lib.hid (HOx18.out.next hb)
    have HKx19 := Lib.hid ((hb.block _ (lt_of_block HKx18.out)).trans HKx18.out)
    have HBs5_9 : Hid (Below w5.heap.size w5 w9) := Lib.hid (HBs5_8.out.trans (hb.mono HBs5_8.out.size))
    clear hb
    obtain ⟨px2, kx2, rfl⟩ := own_form ho
    have HOx29 := Lib.hid (Ow.mk' ho)
    clear ho
    clear ca10 fa10 lta1 cwb00 fwb00 ltwb0
    have lta1 := lt_of_block HKa19.out
    obtain ⟨ca10, fa10⟩ := cell1 HKa19.out
    have ltwb0 := lt_of_block HKwb09.out
    obtain ⟨cwb00, fwb00⟩ := cell1 HKwb09.out
    have ltx1 := lt_of_block HKx19.out
    obtain ⟨cx10, fx10⟩ := cell1 HKx19.out
    go_wp2_with fail
    clear ca10 fa10 lta1 cwb00 fwb00 ltwb0 cx10 fx10 ltx1
    have lta1 := lt_of_block HKa19.out
    obtain ⟨ca10, fa10⟩ := cell1 HKa19.out
    have ltwb0 := lt_of_block HKwb09.out
    obtain ⟨cwb00, fwb00⟩ := cell1 HKwb09.out
    have ltx1 := lt_of_block HKx19.out
    obtain ⟨cx10, fx10⟩ := cell1 HKx19.out
    refine (HI.out _ _ _ _ (RowsR.of_own unC_len HOx09.out.1) HOx19.out.reads (RowsR.of_own unC_len HOx29.out.1)).mono ?_
    rintro e w10 ⟨⟨tg0, rfl, ho⟩, hb⟩
    have HB10 : Hid (Below w.heap.size w w10) := Lib.hid (HB9.out.trans (hb.mono HB9.out.size))
    have HZ10 : Hid (w9.heap.size ≤ w10.heap.size) := Lib.hid hb.size
    have HRf010 := Lib.hid (HRf00.out.below HB10.out (Nat.le_refl _))
    have HRf110 := Lib.hid (HRf10.out.below HB10.out (Nat.le_refl _))
    have HRf210 := Lib.hid (HRf20.out.below HB10.out (Nat.le_refl _))
    have HKa110 := Lib.hid ((hb.block _ (lt_of_block HKa19.out)).trans HKa19.out)
    have HKwb010 := Lib.hid ((hb.block _ (lt_of_block HKwb09.out)).trans HKwb09.out)
    have HRw010 := Lib.hid (HRw09.out.below hb (Nat.le_refl _))
    have HOx010 := Lib.hid (HOx09.out.next hb)
    have HOx110 := Lib.hid (HOx19.out.next hb)
    have HKx110 := Lib.hid ((hb.block _ (lt_of_block HKx19.out)).trans HKx19.out)
    have HOx210 := Lib.hid (HOx29.out.next hb)
    have HBs5_10 : Hid (Below w5.heap.size w5 w10) := Lib.hid (HBs5_9.out.trans (hb.mono HBs5_9.out.size))
    clear hb
    obtain ⟨pg0, kg0, rfl⟩ := ho.form
    have HOg10 := Lib.hid (ho)
    clear ho
    clear ca10 fa10 lta1 cwb00 fwb00 ltwb0 cx10 fx10 ltx1
    have lta1 := lt_of_block HKa110.out
    obtain ⟨ca10, fa10⟩ := cell1 HKa110.out
    have ltwb0 := lt_of_block HKwb010.out
    obtain ⟨cwb00, fwb00⟩ := cell1 HKwb010.out
    have ltx1 := lt_of_block HKx110.out
    obtain ⟨cx10, fx10⟩ := cell1 HKx110.out
    go_wp2_with fail
    have hb : Below w10.heap.size w10 (w10.alloc (.cells #[.slice pg0 qs0.length kg0] 34)) := (Below.refl _ _).alloc (Nat.le_refl _) _
    have hk : (w10.alloc (.cells #[.slice pg0 qs0.length kg0] 34)).heap[w10.heap.size]? = some (.cells #[.slice pg0 qs0.length kg0] 34 (0, 0)) := alloc_at rfl
    have hz : (w10.alloc (.cells #[.slice pg0 qs0.length kg0] 34)).heap.size = w10.heap.size + 1 := by simp
    generalize w10.alloc (.cells #[.slice pg0 qs0.length kg0] 34) = w11 at hb hk hz ⊢
    have HB11 : Hid (Below w.heap.size w w11) := Lib.hid (HB10.out.trans (hb.mono HB10.out.size))
    have HZ11 : Hid (w10.heap.size ≤ w11.heap.size) := Lib.hid hb.size
    have HRf011 := Lib.hid (HRf00.out.below HB11.out (Nat.le_refl _))
    have HRf111 := Lib.hid (HRf10.out.below HB11.out (Nat.le_refl _))
    have HRf211 := Lib.hid (HRf20.out.below HB11.out (Nat.le_refl _))
    have HKa111 := Lib.hid ((hb.block _ (lt_of_block HKa110.out)).trans HKa110.out)
    have HKwb011 := Lib.hid ((hb.block _ (lt_of_block HKwb010.out)).trans HKwb010.out)
    have HRw011 := Lib.hid (HRw010.out.below hb (Nat.le_refl _))
    have HOx011 := Lib.hid (HOx010.out.next hb)
    have HOx111 := Lib.hid (HOx110.out.next hb)
    have HKx111 := Lib.hid ((hb.block _ (lt_of_block HKx110.out)).trans HKx110.out)
    have HOx211 := Lib.hid (HOx210.out.next hb)
    have HOg11 := Lib.hid (HOg10.out.next hb)
    have HBs5_11 : Hid (Below w5.heap.size w5 w11) := Lib.hid (HBs5_10.out.trans (hb.mono HBs5_10.out.size))
    have HKgb011 := Lib.hid hk
    replace HZ11 : Hid (w10.heap.size < w11.heap.size) := Lib.hid (by omega)
    have HE11 := Lib.hid hz
    clear hb hk hz
    clear ca10 fa10 lta1 cwb00 fwb00 ltwb0 cx10 fx10 ltx1
    have lta1 := lt_of_block HKa111.out
    obtain ⟨ca10, fa10⟩ := cell1 HKa111.out
    have ltwb0 := lt_of_block HKwb011.out
    obtain ⟨cwb00, fwb00⟩ := cell1 HKwb011.out
    have ltx1 := lt_of_block HKx111.out
    obtain ⟨cx10, fx10⟩ := cell1 HKx111.out
    have ltgb0 := lt_of_block HKgb011.out
    obtain ⟨cgb00, fgb00⟩ := cell1 HKgb011.out
    refine (eqAmount_yes _ _ qs0 _ HOg11.out.reads HRw011.out).mono ?_
    rintro e w12 ⟨rfl, hb⟩
    have HB12 : Hid (Below w.heap.size w w12) := Lib.hid (HB11.out.trans (hb.mono HB11.out.size))
    have HZ12 : Hid (w11.heap.size ≤ w12.heap.size) := Lib.hid hb.size
    have HRf012 := Lib.hid (HRf00.out.below HB12.out (Nat.le_refl _))
    have HRf112 := Lib.hid (HRf10.out.below HB12.out (Nat.le_refl _))
    have HRf212 := Lib.hid (HRf20.out.below HB12.out (Nat.le_refl _))
    have HKa112 := Lib.hid ((hb.block _ (lt_of_block HKa111.out)).trans HKa111.out)
    have HKwb012 := Lib.hid ((hb.block _ (lt_of_block HKwb011.out)).trans HKwb011.out)
    have HRw012 := Lib.hid (HRw011.out.below hb (Nat.le_refl _))
    have HOx012 := Lib.hid (HOx011.out.next hb)
    have HOx112 := Lib.hid (HOx111.out.next hb)
    have HKx112 := Lib.hid ((hb.block _ (lt_of_block HKx111.out)).trans HKx111.out)
    have HOx212 := Lib.hid (HOx211.out.next hb)
    have HOg12 := Lib.hid (HOg11.out.next hb)
    have HKgb012 := Lib.hid ((hb.block _ (lt_of_block HKgb011.out)).trans HKgb011.out)
    have HBs5_12 : Hid (Below w5.heap.size w5 w12) := Lib.hid (HBs5_11.out.trans (hb.mono HBs5_11.out.size))
    clear hb
    clear ca10 fa10 lta1 cwb00 fwb00 ltwb0 cx10 fx10 ltx1 cgb00 fgb00 ltgb0
    have lta1 := lt_of_block HKa112.out
    obtain ⟨ca10, fa10⟩ := cell1 HKa112.out
    have ltwb0 := lt_of_block HKwb012.out
    obtain ⟨cwb00, fwb00⟩ := cell1 HKwb012.out
    have ltx1 := lt_of_block HKx112.out
    obtain ⟨cx10, fx10⟩ := cell1 HKx112.out
    have ltgb0 := lt_of_block HKgb012.out
    obtain ⟨cgb00, fgb00⟩ := cell1 HKgb012.out
    go_wp2_with fail
    refine (toUnitS_any _ us0 _ HRf012.out hn0).mono ?_
    rintro e w13 ⟨⟨sy0, rfl, ho⟩, hb⟩
    have HB13 : Hid (Below w.heap.size w w13) := Lib.hid (HB12.out.trans (hb.mono HB12.out.size))
    have HZ13 : Hid (w12.heap.size ≤ w13.heap.size) := Lib.hid hb.size
    have HRf013 := Lib.hid (HRf00.out.below HB13.out (Nat.le_refl _))
    have HRf113 := Lib.hid (HRf10.out.below HB13.out (Nat.le_refl _))
    have HRf213 := Lib.hid (HRf20.out.below HB13.out (Nat.le_refl _))
    have HKa113 := Lib.hid ((hb.block _ (lt_of_block HKa112.out)).trans HKa112.out)
    have HKwb013 := Lib.hid ((hb.block _ (lt_of_block HKwb012.out)).trans HKwb012.out)
    have HRw013 := Lib.hid (HRw012.out.below hb (Nat.le_refl _))
    have HOx013 := Lib.hid (HOx012.out.next hb)
    have HOx113 := Lib.hid (HOx112.out.next hb)
    have HKx113 := Lib.hid ((hb.block _ (lt_of_block HKx112.out)).trans HKx112.out)
    have HOx213 := Lib.hid (HOx212.out.next hb)
    have HOg13 := Lib.hid (HOg12.out.next hb)
    have HKgb013 := Lib.hid ((hb.block _ (lt_of_block HKgb012.out)).trans HKgb012.out)
    have HBs5_13 : Hid (Below w5.heap.size w5 w13) := Lib.hid (HBs5_12.out.trans (hb.mono HBs5_12.out.size))
    clear hb
    obtain ⟨py0, ky0, rfl⟩ := own_form ho
    have HRy013 := Lib.hid (RowsR.of_own unC_len ho)
    have HBs13_13 : Hid (Below w13.heap.size w13 w13) := Lib.hid (Below.refl _ _)
    clear ho
    clear ca10 fa10 lta1 cwb00 fwb00 ltwb0 cx10 fx10 ltx1 cgb00 fgb00 ltgb0
    have lta1 := lt_of_block HKa113.out
    obtain ⟨ca10, fa10⟩ := cell1 HKa113.out
    have ltwb0 := lt_of_block HKwb013.out
    obtain ⟨cwb00, fwb00⟩ := cell1 HKwb013.out
    have ltx1 := lt_of_block HKx113.out
    obtain ⟨cx10, fx10⟩ := cell1 HKx113.out
    have ltgb0 := lt_of_block HKgb013.out
    obtain ⟨cgb00, fgb00⟩ := cell1 HKgb013.out
    go_wp2_with fail
    refine (eqUnitS_yes _ _ us0 _ (RowsR.of_own unC_len HOx013.out.1) HRy013.out).mono ?_
    rintro e w14 ⟨rfl, hb⟩
    have HB14 : Hid (Below w.heap.size w w14) := Lib.hid (HB13.out.trans (hb.mono HB13.out.size))
    have HZ14 : Hid (w13.heap.size ≤ w14.heap.size) := Lib.hid hb.size
    have HRf014 := Lib.hid (HRf00.out.below HB14.out (Nat.le_refl _))
    have HRf114 := Lib.hid (HRf10.out.below HB14.out (Nat.le_refl _))
    have HRf214 := Lib.hid (HRf20.out.below HB14.out (Nat.le_refl _))
    have HKa114 := Lib.hid ((hb.block _ (lt_of_block HKa113.out)).trans HKa113.out)
    have HKwb014 := Lib.hid ((hb.block _ (lt_of_block HKwb013.out)).trans HKwb013.out)
    have HRw014 := Lib.hid (HRw013.out.below hb (Nat.le_refl _))
    have HOx014 := Lib.hid (HOx013.out.next hb)
    have HOx114 := Lib.hid (HOx113.out.next hb)
    have HKx114 := Lib.hid ((hb.block _ (lt_of_block HKx113.out)).trans HKx113.out)
    have HOx214 := Lib.hid (HOx213.out.next hb)
    have HOg14 := Lib.hid (HOg13.out.next hb)
    have HKgb014 := Lib.hid ((hb.block _ (lt_of_block HKgb013.out)).trans HKgb013.out)
    have HRy014 := Lib.hid (HRy013.out.below hb (Nat.le_refl _))
    have HBs5_14 : Hid (Below w5.heap.size w5 w14) := Lib.hid (HBs5_13.out.trans (hb.mono HBs5_13.out.size))
    have HBs13_14 : Hid (Below w13.heap.size w13 w14) := Lib.hid (HBs13_13.out.trans (hb.mono HBs13_13.out.size))
    clear hb
    clear ca10 fa10 lta1 cwb00 fwb00 ltwb0 cx10 fx10 ltx1 cgb00 fgb00 ltgb0
    have lta1 := lt_of_block HKa114.out
    obtain ⟨ca10, fa10⟩ := cell1 HKa114.out
    have ltwb0 := lt_of_block HKwb014.out
    obtain ⟨cwb00, fwb00⟩ := cell1 HKwb014.out
    have ltx1 := lt_of_block HKx114.out
    obtain ⟨cx10, fx10⟩ := cell1 HKx114.out
    have ltgb0 := lt_of_block HKgb014.out
    obtain ⟨cgb00, fgb00⟩ := cell1 HKgb014.out
    go_wp2_with fail
    clear ca10 fa10 lta1 cwb00 fwb00 ltwb0 cx10 fx10 ltx1 cgb00 fgb00 ltgb0
    have lta1 := lt_of_block HKa114.out
    obtain ⟨ca10, fa10⟩ := cell1 HKa114.out
    have ltwb0 := lt_of_block HKwb014.out
    obtain ⟨cwb00, fwb00⟩ := cell1 HKwb014.out
    have ltx1 := lt_of_block HKx114.out
    obtain ⟨cx10, fx10⟩ := cell1 HKx114.out
    have ltgb0 := lt_of_block HKgb014.out
    obtain ⟨cgb00, fgb00⟩ := cell1 HKgb014.out
    go_region_held3 (fun w' => w'.cell? ⟨w7.heap.size, 0, none⟩ = some (.slice px1 cs1.length kx1) ∧ w'.cell? ⟨w.heap.size, 0, none⟩ = some (.slice ad1 cs1.length cp1))
      (first
        | go_keep
        | exact ⟨(hq1.cell (p := ⟨w7.heap.size, 0, none⟩) ltx1).trans cx10, (hq1.cell (p := ⟨w.heap.size, 0, none⟩) lta1).trans ca10⟩)
      (first
        | (go_at_call 20; refine (toAmount_any _ cs1 _ (HRf10.out.below HB14.out.drew (Nat.le_refl _)) hn1).mono ?_; rintro e w15 ⟨⟨s7, rfl, hown7⟩, hq1⟩; obtain ⟨p7, k7, rfl⟩ := hown7.form)
        | (go_at_call 22; refine (eqAmount_yes _ _ cs1 _ (HOx114.out.reads.below ((Below.refl _ w14).drew.trans hq1) (Nat.le_refl _)) hown7.reads).mono ?_; rintro e w15 ⟨rfl, hq2⟩; replace hq1 := hq1.trans (hq2.mono hq1.size); clear hq2))
    have hb := (Below.refl _ w14).drew.trans hq1
    clear hq1 hown7
    have HB15 : Hid (Below w.heap.size w w15) := Lib.hid (HB14.out.trans (hb.mono HB14.out.size))
    have HZ15 : Hid (w14.heap.size ≤ w15.heap.size) := Lib.hid hb.size
    have HRf015 := Lib.hid (HRf00.out.below HB15.out (Nat.le_refl _))
    have HRf115 := Lib.hid (HRf10.out.below HB15.out (Nat.le_refl _))
    have HRf215 := Lib.hid (HRf20.out.below HB15.out (Nat.le_refl _))
    have HKa115 := Lib.hid ((hb.block _ (lt_of_block HKa114.out)).trans HKa114.out)
    have HKwb015 := Lib.hid ((hb.block _ (lt_of_block HKwb014.out)).trans HKwb014.out)
    have HRw015 := Lib.hid (HRw014.out.below hb (Nat.le_refl _))
    have HOx015 := Lib.hid (HOx014.out.next hb)
    have HOx115 := Lib.hid (HOx114.out.next hb)
    have HKx115 := Lib.hid ((hb.block _ (lt_of_block HKx114.out)).trans HKx114.out)
    have HOx215 := Lib.hid (HOx214.out.next hb)
    have HOg15 := Lib.hid (HOg14.out.next hb)
    have HKgb015 := Lib.hid ((hb.block _ (lt_of_block HKgb014.out)).trans HKgb014.out)
    have HBs5_15 : Hid (Below w5.heap.size w5 w15) := Lib.hid (HBs5_14.out.trans (hb.mono HBs5_14.out.size))
    clear hb
    clear ca10 fa10 lta1 cwb00 fwb00 ltwb0 cx10 fx10 ltx1 cgb00 fgb00 ltgb0
    have lta1 := lt_of_block HKa115.out
    obtain ⟨ca10, fa10⟩ := cell1 HKa115.out
    have ltwb0 := lt_of_block HKwb015.out
    obtain ⟨cwb00, fwb00⟩ := cell1 HKwb015.out
    have ltx1 := lt_of_block HKx115.out
    obtain ⟨cx10, fx10⟩ := cell1 HKx115.out
    have ltgb0 := lt_of_block HKgb015.out
    obtain ⟨cgb00, fgb00⟩ := cell1 HKgb015.out
    go_wp2_with fail
    refine (toUnitS_any _ us2 _ HRf215.out hn2).mono ?_
    rintro e w16 ⟨⟨sy2, rfl, ho⟩, hb⟩
    have HB16 : Hid (Below w.heap.size w w16) := Lib.hid (HB15.out.trans (hb.mono HB15.out.size))
    have HZ16 : Hid (w15.heap.size ≤ w16.heap.size) := Lib.hid hb.size
    have HRf016 := Lib.hid (HRf00.out.below HB16.out (Nat.le_refl _))
    have HRf116 := Lib.hid (HRf10.out.below HB16.out (Nat.le_refl _))
    have HRf216 := Lib.hid (HRf20.out.below HB16.out (Nat.le_refl _))
    have HKa116 := Lib.hid ((hb.block _ (lt_of_block HKa115.out)).trans HKa115.out)
    have HKwb016 := Lib.hid ((hb.block _ (lt_of_block HKwb015.out)).trans HKwb015.out)
    have HRw016 := Lib.hid (HRw015.out.below hb (Nat.le_refl _))
    have HOx016 := Lib.hid (HOx015.out.next hb)
    have HOx116 := Lib.hid (HOx115.out.next hb)
    have HKx116 := Lib.hid ((hb.block _ (lt_of_block HKx115.out)).trans HKx115.out)
    have HOx216 := Lib.hid (HOx215.out.next hb)
    have HOg16 := Lib.hid (HOg15.out.next hb)
    have HKgb016 := Lib.hid ((hb.block _ (lt_of_block HKgb015.out)).trans HKgb015.out)
    have HBs5_16 : Hid (Below w5.heap.size w5 w16) := Lib.hid (HBs5_15.out.trans (hb.mono HBs5_15.out.size))
    clear hb
    obtain ⟨py2, ky2, rfl⟩ := own_form ho
    have HRy216 := Lib.hid (RowsR.of_own unC_len ho)
    have HBs16_16 : Hid (Below w16.heap.size w16 w16) := Lib.hid (Below.refl _ _)
    clear ho
    clear ca10 fa10 lta1 cwb00 fwb00 ltwb0 cx10 fx10 ltx1 cgb00 fgb00 ltgb0
    have lta1 := lt_of_block HKa116.out
    obtain ⟨ca10, fa10⟩ := cell1 HKa116.out
    have ltwb0 := lt_of_block HKwb016.out
    obtain ⟨cwb00, fwb00⟩ := cell1 HKwb016.out
    have ltx1 := lt_of_block HKx116.out
    obtain ⟨cx10, fx10⟩ := cell1 HKx116.out
    have ltgb0 := lt_of_block HKgb016.out
    obtain ⟨cgb00, fgb00⟩ := cell1 HKgb016.out
    go_wp2_with fail
    refine (eqUnitS_yes _ _ us2 _ (RowsR.of_own unC_len HOx216.out.1) HRy216.out).mono ?_
    rintro e w17 ⟨rfl, hb⟩
    have HB17 : Hid (Below w.heap.size w w17) := Lib.hid (HB16.out.trans (hb.mono HB16.out.size))
    have HZ17 : Hid (w16.heap.size ≤ w17.heap.size) := Lib.hid hb.size
    have HRf017 := Lib.hid (HRf00.out.below HB17.out (Nat.le_refl _))
    have HRf117 := Lib.hid (HRf10.out.below HB17.out (Nat.le_refl _))
    have HRf217 := Lib.hid (HRf20.out.below HB17.out (Nat.le_refl _))
    have HKa117 := Lib.hid ((hb.block _ (lt_of_block HKa116.out)).trans HKa116.out)
    have HKwb017 := Lib.hid ((hb.block _ (lt_of_block HKwb016.out)).trans HKwb016.out)
    have HRw017 := Lib.hid (HRw016.out.below hb (Nat.le_refl _))
    have HOx017 := Lib.hid (HOx016.out.next hb)
    have HOx117 := Lib.hid (HOx116.out.next hb)
    have HKx117 := Lib.hid ((hb.block _ (lt_of_block HKx116.out)).trans HKx116.out)
    have HOx217 := Lib.hid (HOx216.out.next hb)
    have HOg17 := Lib.hid (HOg16.out.next hb)
    have HKgb017 := Lib.hid ((hb.block _ (lt_of_block HKgb016.out)).trans HKgb016.out)
    have HRy217 := Lib.hid (HRy216.out.below hb (Nat.le_refl _))
    have HBs5_17 : Hid (Below w5.heap.size w5 w17) := Lib.hid (HBs5_16.out.trans (hb.mono HBs5_16.out.size))
    have HBs16_17 : Hid (Below w16.heap.size w16 w17) := Lib.hid (HBs16_16.out.trans (hb.mono HBs16_16.out.size))
    clear hb
    clear ca10 fa10 lta1 cwb00 fwb00 ltwb0 cx10 fx10 ltx1 cgb00 fgb00 ltgb0
    have lta1 := lt_of_block HKa117.out
    obtain ⟨ca10, fa10⟩ := cell1 HKa117.out
    have ltwb0 := lt_of_block HKwb017.out
    obtain ⟨cwb00, fwb00⟩ := cell1 HKwb017.out
    have ltx1 := lt_of_block HKx117.out
    obtain ⟨cx10, fx10⟩ := cell1 HKx117.out
    have ltgb0 := lt_of_block HKgb017.out
    obtain ⟨cgb00, fgb00⟩ := cell1 HKgb017.out
    go_wp2_with fail
    refine (markUnitS_any _ us0.length (1) _ _ _ _ _ HOx017.out hn0 (by omega) (by have := HZ1.out; have := HZ2.out; have := HZ3.out; have := HZ4.out; have := HZ5.out; have := HZ6.out; have := HZ7.out; have := HZ8.out; have := HZ9.out; have := HZ10.out; have := HZ11.out; have := HZ12.out; have := HZ13.out; have := HZ14.out; have := HZ15.out; have := HZ16.out; have := HZ17.out;  omega)).mono ?_
    rintro e w18 ⟨rfl, ho, hm⟩
    have HZ18 : Hid (w17.heap.size ≤ w18.heap.size) := Lib.hid hm.size
    have HB18 : Hid (Below w.heap.size w w18) := Lib.hid (HB17.out.trans (hm.below.mono (by have := HZ1.out; have := HZ2.out; have := HZ3.out; have := HZ4.out; have := HZ5.out; have := HZ6.out; have := HZ7.out; have := HZ8.out; have := HZ9.out; have := HZ10.out; have := HZ11.out; have := HZ12.out; have := HZ13.out; have := HZ14.out; have := HZ15.out; have := HZ16.out; have := HZ17.out; have := HB0.out.size; omega)))
    have HRf018 := Lib.hid (HRf00.out.below HB18.out (Nat.le_refl _))
    have HRf118 := Lib.hid (HRf10.out.below HB18.out (Nat.le_refl _))
    have HRf218 := Lib.hid (HRf20.out.below HB18.out (Nat.le_refl _))
    have HKa118 := Lib.hid ((hm.block _ (by have := lt_of_block HKa117.out; have := HZ1.out; have := HZ2.out; have := HZ3.out; have := HZ4.out; have := HZ5.out; have := HZ6.out; have := HZ7.out; have := HZ8.out; have := HZ9.out; have := HZ10.out; have := HZ11.out; have := HZ12.out; have := HZ13.out; have := HZ14.out; have := HZ15.out; have := HZ16.out; have := HZ17.out; omega)).trans HKa117.out)
    have HKwb018 := Lib.hid ((hm.block _ (by have := lt_of_block HKwb017.out; have := HZ1.out; have := HZ2.out; have := HZ3.out; have := HZ4.out; have := HZ5.out; have := HZ6.out; have := HZ7.out; have := HZ8.out; have := HZ9.out; have := HZ10.out; have := HZ11.out; have := HZ12.out; have := HZ13.out; have := HZ14.out; have := HZ15.out; have := HZ16.out; have := HZ17.out; omega)).trans HKwb017.out)
    have HRw018 := Lib.hid (HRw05.out.below (HBs5_17.out.trans (hm.below.mono (by have := HZ1.out; have := HZ2.out; have := HZ3.out; have := HZ4.out; have := HZ5.out; have := HZ6.out; have := HZ7.out; have := HZ8.out; have := HZ9.out; have := HZ10.out; have := HZ11.out; have := HZ12.out; have := HZ13.out; have := HZ14.out; have := HZ15.out; have := HZ16.out; have := HZ17.out; omega))) (Nat.le_refl _))
    have HOx118 := Lib.hid (HOx117.out.btw hm (by have := HZ1.out; have := HZ2.out; have := HZ3.out; have := HZ4.out; have := HZ5.out; have := HZ6.out; have := HZ7.out; have := HZ8.out; have := HZ9.out; have := HZ10.out; have := HZ11.out; have := HZ12.out; have := HZ13.out; have := HZ14.out; have := HZ15.out; have := HZ16.out; have := HZ17.out; omega))
    have HKx118 := Lib.hid ((hm.block _ (by have := lt_of_block HKx117.out; have := HZ1.out; have := HZ2.out; have := HZ3.out; have := HZ4.out; have := HZ5.out; have := HZ6.out; have := HZ7.out; have := HZ8.out; have := HZ9.out; have := HZ10.out; have := HZ11.out; have := HZ12.out; have := HZ13.out; have := HZ14.out; have := HZ15.out; have := HZ16.out; have := HZ17.out; omega)).trans HKx117.out)
    have HOx218 := Lib.hid (HOx217.out.btw hm (by have := HZ1.out; have := HZ2.out; have := HZ3.out; have := HZ4.out; have := HZ5.out; have := HZ6.out; have := HZ7.out; have := HZ8.out; have := HZ9.out; have := HZ10.out; have := HZ11.out; have := HZ12.out; have := HZ13.out; have := HZ14.out; have := HZ15.out; have := HZ16.out; have := HZ17.out; omega))
    have HOg18 := Lib.hid (HOg17.out.btw hm (by have := HZ1.out; have := HZ2.out; have := HZ3.out; have := HZ4.out; have := HZ5.out; have := HZ6.out; have := HZ7.out; have := HZ8.out; have := HZ9.out; have := HZ10.out; have := HZ11.out; have := HZ12.out; have := HZ13.out; have := HZ14.out; have := HZ15.out; have := HZ16.out; have := HZ17.out; omega))
    have HKgb018 := Lib.hid ((hm.block _ (by have := lt_of_block HKgb017.out; have := HZ1.out; have := HZ2.out; have := HZ3.out; have := HZ4.out; have := HZ5.out; have := HZ6.out; have := HZ7.out; have := HZ8.out; have := HZ9.out; have := HZ10.out; have := HZ11.out; have := HZ12.out; have := HZ13.out; have := HZ14.out; have := HZ15.out; have := HZ16.out; have := HZ17.out; omega)).trans HKgb017.out)
    have HBs5_18 : Hid (Below w5.heap.size w5 w18) := Lib.hid (HBs5_17.out.trans (hm.below.mono (by have := HZ1.out; have := HZ2.out; have := HZ3.out; have := HZ4.out; have := HZ5.out; have := HZ6.out; have := HZ7.out; have := HZ8.out; have := HZ9.out; have := HZ10.out; have := HZ11.out; have := HZ12.out; have := HZ13.out; have := HZ14.out; have := HZ15.out; have := HZ16.out; have := HZ17.out; omega)))
    clear hm
    clear ho
    clear ca10 fa10 lta1 cwb00 fwb00 ltwb0 cx10 fx10 ltx1 cgb00 fgb00 ltgb0
    have lta1 := lt_of_block HKa118.out
    obtain ⟨ca10, fa10⟩ := cell1 HKa118.out
    have ltwb0 := lt_of_block HKwb018.out
    obtain ⟨cwb00, fwb00⟩ := cell1 HKwb018.out
    have ltx1 := lt_of_block HKx118.out
    obtain ⟨cx10, fx10⟩ := cell1 HKx118.out
    have ltgb0 := lt_of_block HKgb018.out
    obtain ⟨cgb00, fgb00⟩ := cell1 HKgb018.out
    go_wp2_with fail
    refine (markAmount_at _ cs1 _ _ _ HOx118.out hn1 (1 + 2 * (us0.length : Int)) (by omega) (by have := HZ1.out; have := HZ2.out; have := HZ3.out; have := HZ4.out; have := HZ5.out; have := HZ6.out; have := HZ7.out; have := HZ8.out; have := HZ9.out; have := HZ10.out; have := HZ11.out; have := HZ12.out; have := HZ13.out; have := HZ14.out; have := HZ15.out; have := HZ16.out; have := HZ17.out; have := HZ18.out;  omega) (by have := HZ1.out; have := HZ2.out; have := HZ3.out; have := HZ4.out; have := HZ5.out; have := HZ6.out; have := HZ7.out; have := HZ8.out; have := HZ9.out; have := HZ10.out; have := HZ11.out; have := HZ12.out; have := HZ13.out; have := HZ14.out; have := HZ15.out; have := HZ16.out; have := HZ17.out; have := HZ18.out;  omega) (by have := HZ1.out; have := HZ2.out; have := HZ3.out; have := HZ4.out; have := HZ5.out; have := HZ6.out; have := HZ7.out; have := HZ8.out; have := HZ9.out; have := HZ10.out; have := HZ11.out; have := HZ12.out; have := HZ13.out; have := HZ14.out; have := HZ15.out; have := HZ16.out; have := HZ17.out; have := HZ18.out;  omega)).mono ?_
    rintro e w19 ⟨rfl, ho, hm⟩
    have HZ19 : Hid (w18.heap.size ≤ w19.heap.size) := Lib.hid hm.size
    have HB19 : Hid (Below w.heap.size w w19) := Lib.hid (HB18.out.trans (hm.below.mono (by have := HZ1.out; have := HZ2.out; have := HZ3.out; have := HZ4.out; have := HZ5.out; have := HZ6.out; have := HZ7.out; have := HZ8.out; have := HZ9.out; have := HZ10.out; have := HZ11.out; have := HZ12.out; have := HZ13.out; have := HZ14.out; have := HZ15.out; have := HZ16.out; have := HZ17.out; have := HZ18.out; have := HB0.out.size; omega)))
    have HRf019 := Lib.hid (HRf00.out.below HB19.out (Nat.le_refl _))
    have HRf119 := Lib.hid (HRf10.out.below HB19.out (Nat.le_refl _))
    have HRf219 := Lib.hid (HRf20.out.below HB19.out (Nat.le_refl _))
    have HKa119 := Lib.hid ((hm.block _ (by have := lt_of_block HKa118.out; have := HZ1.out; have := HZ2.out; have := HZ3.out; have := HZ4.out; have := HZ5.out; have := HZ6.out; have := HZ7.out; have := HZ8.out; have := HZ9.out; have := HZ10.out; have := HZ11.out; have := HZ12.out; have := HZ13.out; have := HZ14.out; have := HZ15.out; have := HZ16.out; have := HZ17.out; have := HZ18.out; omega)).trans HKa118.out)
    have HKwb019 := Lib.hid ((hm.block _ (by have := lt_of_block HKwb018.out; have := HZ1.out; have := HZ2.out; have := HZ3.out; have := HZ4.out; have := HZ5.out; have := HZ6.out; have := HZ7.out; have := HZ8.out; have := HZ9.out; have := HZ10.out; have := HZ11.out; have := HZ12.out; have := HZ13.out; have := HZ14.out; have := HZ15.out; have := HZ16.out; have := HZ17.out; have := HZ18.out; omega)).trans HKwb018.out)
    have HRw019 := Lib.hid (HRw05.out.below (HBs5_18.out.trans (hm.below.mono (by have := HZ1.out; have := HZ2.out; have := HZ3.out; have := HZ4.out; have := HZ5.out; have := HZ6.out; have := HZ7.out; have := HZ8.out; have := HZ9.out; have := HZ10.out; have := HZ11.out; have := HZ12.out; have := HZ13.out; have := HZ14.out; have := HZ15.out; have := HZ16.out; have := HZ17.out; have := HZ18.out; omega))) (Nat.le_refl _))
    have HOx219 := Lib.hid (HOx218.out.btw hm (by have := HZ1.out; have := HZ2.out; have := HZ3.out; have := HZ4.out; have := HZ5.out; have := HZ6.out; have := HZ7.out; have := HZ8.out; have := HZ9.out; have := HZ10.out; have := HZ11.out; have := HZ12.out; have := HZ13.out; have := HZ14.out; have := HZ15.out; have := HZ16.out; have := HZ17.out; have := HZ18.out; omega))
    have HOg19 := Lib.hid (HOg18.out.btw hm (by have := HZ1.out; have := HZ2.out; have := HZ3.out; have := HZ4.out; have := HZ5.out; have := HZ6.out; have := HZ7.out; have := HZ8.out; have := HZ9.out; have := HZ10.out; have := HZ11.out; have := HZ12.out; have := HZ13.out; have := HZ14.out; have := HZ15.out; have := HZ16.out; have := HZ17.out; have := HZ18.out; omega))
    have HKgb019 := Lib.hid ((hm.block _ (by have := lt_of_block HKgb018.out; have := HZ1.out; have := HZ2.out; have := HZ3.out; have := HZ4.out; have := HZ5.out; have := HZ6.out; have := HZ7.out; have := HZ8.out; have := HZ9.out; have := HZ10.out; have := HZ11.out; have := HZ12.out; have := HZ13.out; have := HZ14.out; have := HZ15.out; have := HZ16.out; have := HZ17.out; have := HZ18.out; omega)).trans HKgb018.out)
    have HBs5_19 : Hid (Below w5.heap.size w5 w19) := Lib.hid (HBs5_18.out.trans (hm.below.mono (by have := HZ1.out; have := HZ2.out; have := HZ3.out; have := HZ4.out; have := HZ5.out; have := HZ6.out; have := HZ7.out; have := HZ8.out; have := HZ9.out; have := HZ10.out; have := HZ11.out; have := HZ12.out; have := HZ13.out; have := HZ14.out; have := HZ15.out; have := HZ16.out; have := HZ17.out; have := HZ18.out; omega)))
    clear hm
    clear ho
    clear ca10 fa10 lta1 cwb00 fwb00 ltwb0 cx10 fx10 ltx1 cgb00 fgb00 ltgb0
    have lta1 := lt_of_block HKa119.out
    obtain ⟨ca10, fa10⟩ := cell1 HKa119.out
    have ltwb0 := lt_of_block HKwb019.out
    obtain ⟨cwb00, fwb00⟩ := cell1 HKwb019.out
    have ltgb0 := lt_of_block HKgb019.out
    obtain ⟨cgb00, fgb00⟩ := cell1 HKgb019.out
    go_wp2_with fail
    refine (markUnitS_any _ us2.length (1 + 2 * (us0.length : Int) + (cs1.length : Int)) _ _ _ _ _ HOx219.out hn2 (by omega) (by have := HZ1.out; have := HZ2.out; have := HZ3.out; have := HZ4.out; have := HZ5.out; have := HZ6.out; have := HZ7.out; have := HZ8.out; have := HZ9.out; have := HZ10.out; have := HZ11.out; have := HZ12.out; have := HZ13.out; have := HZ14.out; have := HZ15.out; have := HZ16.out; have := HZ17.out; have := HZ18.out; have := HZ19.out;  omega)).mono ?_
    rintro e w20 ⟨rfl, ho, hm⟩
    have HZ20 : Hid (w19.heap.size ≤ w20.heap.size) := Lib.hid hm.size
    have HB20 : Hid (Below w.heap.size w w20) := Lib.hid (HB19.out.trans (hm.below.mono (by have := HZ1.out; have := HZ2.out; have := HZ3.out; have := HZ4.out; have := HZ5.out; have := HZ6.out; have := HZ7.out; have := HZ8.out; have := HZ9.out; have := HZ10.out; have := HZ11.out; have := HZ12.out; have := HZ13.out; have := HZ14.out; have := HZ15.out; have := HZ16.out; have := HZ17.out; have := HZ18.out; have := HZ19.out; have := HB0.out.size; omega)))
    have HRf020 := Lib.hid (HRf00.out.below HB20.out (Nat.le_refl _))
    have HRf120 := Lib.hid (HRf10.out.below HB20.out (Nat.le_refl _))
    have HRf220 := Lib.hid (HRf20.out.below HB20.out (Nat.le_refl _))
    have HKa120 := Lib.hid ((hm.block _ (by have := lt_of_block HKa119.out; have := HZ1.out; have := HZ2.out; have := HZ3.out; have := HZ4.out; have := HZ5.out; have := HZ6.out; have := HZ7.out; have := HZ8.out; have := HZ9.out; have := HZ10.out; have := HZ11.out; have := HZ12.out; have := HZ13.out; have := HZ14.out; have := HZ15.out; have := HZ16.out; have := HZ17.out; have := HZ18.out; have := HZ19.out; omega)).trans HKa119.out)
    have HKwb020 := Lib.hid ((hm.block _ (by have := lt_of_block HKwb019.out; have := HZ1.out; have := HZ2.out; have := HZ3.out; have := HZ4.out; have := HZ5.out; have := HZ6.out; have := HZ7.out; have := HZ8.out; have := HZ9.out; have := HZ10.out; have := HZ11.out; have := HZ12.out; have := HZ13.out; have := HZ14.out; have := HZ15.out; have := HZ16.out; have := HZ17.out; have := HZ18.out; have := HZ19.out; omega)).trans HKwb019.out)
    have HRw020 := Lib.hid (HRw05.out.below (HBs5_19.out.trans (hm.below.mono (by have := HZ1.out; have := HZ2.out; have := HZ3.out; have := HZ4.out; have := HZ5.out; have := HZ6.out; have := HZ7.out; have := HZ8.out; have := HZ9.out; have := HZ10.out; have := HZ11.out; have := HZ12.out; have := HZ13.out; have := HZ14.out; have := HZ15.out; have := HZ16.out; have := HZ17.out; have := HZ18.out; have := HZ19.out; omega))) (Nat.le_refl _))
    have HOg20 := Lib.hid (HOg19.out.btw hm (by have := HZ1.out; have := HZ2.out; have := HZ3.out; have := HZ4.out; have := HZ5.out; have := HZ6.out; have := HZ7.out; have := HZ8.out; have := HZ9.out; have := HZ10.out; have := HZ11.out; have := HZ12.out; have := HZ13.out; have := HZ14.out; have := HZ15.out; have := HZ16.out; have := HZ17.out; have := HZ18.out; have := HZ19.out; omega))
    have HKgb020 := Lib.hid ((hm.block _ (by have := lt_of_block HKgb019.out; have := HZ1.out; have := HZ2.out; have := HZ3.out; have := HZ4.out; have := HZ5.out; have := HZ6.out; have := HZ7.out; have := HZ8.out; have := HZ9.out; have := HZ10.out; have := HZ11.out; have := HZ12.out; have := HZ13.out; have := HZ14.out; have := HZ15.out; have := HZ16.out; have := HZ17.out; have := HZ18.out; have := HZ19.out; omega)).trans HKgb019.out)
    have HBs5_20 : Hid (Below w5.heap.size w5 w20) := Lib.hid (HBs5_19.out.trans (hm.below.mono (by have := HZ1.out; have := HZ2.out; have := HZ3.out; have := HZ4.out; have := HZ5.out; have := HZ6.out; have := HZ7.out; have := HZ8.out; have := HZ9.out; have := HZ10.out; have := HZ11.out; have := HZ12.out; have := HZ13.out; have := HZ14.out; have := HZ15.out; have := HZ16.out; have := HZ17.out; have := HZ18.out; have := HZ19.out; omega)))
    clear hm
    clear ho
    have hxk : ¬ (1 + 2 * (us0.length : Int) + (cs1.length : Int) + 2 * (us2.length : Int) < 0) := by omega
    clear ca10 fa10 lta1 cwb00 fwb00 ltwb0 cgb00 fgb00 ltgb0
    have lta1 := lt_of_block HKa120.out
    obtain ⟨ca10, fa10⟩ := cell1 HKa120.out
    have ltwb0 := lt_of_block HKwb020.out
    obtain ⟨cwb00, fwb00⟩ := cell1 HKwb020.out
    have ltgb0 := lt_of_block HKgb020.out
    obtain ⟨cgb00, fgb00⟩ := cell1 HKgb020.out
    go_wp2_with fail
    refine (eqAmount_yes _ _ qs0 _ HOg20.out.reads HRw020.out).mono ?_
    rintro e w21 ⟨rfl, hb⟩
    have HB21 : Hid (Below w.heap.size w w21) := Lib.hid (HB20.out.trans (hb.mono HB20.out.size))
    have HZ21 : Hid (w20.heap.size ≤ w21.heap.size) := Lib.hid hb.size
    have HRf021 := Lib.hid (HRf00.out.below HB21.out (Nat.le_refl _))
    have HRf121 := Lib.hid (HRf10.out.below HB21.out (Nat.le_refl _))
    have HRf221 := Lib.hid (HRf20.out.below HB21.out (Nat.le_refl _))
    have HKa121 := Lib.hid ((hb.block _ (lt_of_block HKa120.out)).trans HKa120.out)
    have HKwb021 := Lib.hid ((hb.block _ (lt_of_block HKwb020.out)).trans HKwb020.out)
    have HRw021 := Lib.hid (HRw020.out.below hb (Nat.le_refl _))
    have HOg21 := Lib.hid (HOg20.out.next hb)
    have HKgb021 := Lib.hid ((hb.block _ (lt_of_block HKgb020.out)).trans HKgb020.out)
    have HBs5_21 : Hid (Below w5.heap.size w5 w21) := Lib.hid (HBs5_20.out.trans (hb.mono HBs5_20.out.size))
    clear hb
    clear ca10 fa10 lta1 cwb00 fwb00 ltwb0 cgb00 fgb00 ltgb0
    have lta1 := lt_of_block HKa121.out
    obtain ⟨ca10, fa10⟩ := cell1 HKa121.out
    have ltwb0 := lt_of_block HKwb021.out
    obtain ⟨cwb00, fwb00⟩ := cell1 HKwb021.out
    have ltgb0 := lt_of_block HKgb021.out
    obtain ⟨cgb00, fgb00⟩ := cell1 HKgb021.out
    go_wp2_with fail
    refine (markAmount_at _ qs0 _ _ _ HOg21.out (by omega) (1) (by omega) (by have := HZ1.out; have := HZ2.out; have := HZ3.out; have := HZ4.out; have := HZ5.out; have := HZ6.out; have := HZ7.out; have := HZ8.out; have := HZ9.out; have := HZ10.out; have := HZ11.out; have := HZ12.out; have := HZ13.out; have := HZ14.out; have := HZ15.out; have := HZ16.out; have := HZ17.out; have := HZ18.out; have := HZ19.out; have := HZ20.out; have := HZ21.out;  omega) (by have := HZ1.out; have := HZ2.out; have := HZ3.out; have := HZ4.out; have := HZ5.out; have := HZ6.out; have := HZ7.out; have := HZ8.out; have := HZ9.out; have := HZ10.out; have := HZ11.out; have := HZ12.out; have := HZ13.out; have := HZ14.out; have := HZ15.out; have := HZ16.out; have := HZ17.out; have := HZ18.out; have := HZ19.out; have := HZ20.out; have := HZ21.out;  omega) (by have := HZ1.out; have := HZ2.out; have := HZ3.out; have := HZ4.out; have := HZ5.out; have := HZ6.out; have := HZ7.out; have := HZ8.out; have := HZ9.out; have := HZ10.out; have := HZ11.out; have := HZ12.out; have := HZ13.out; have := HZ14.out; have := HZ15.out; have := HZ16.out; have := HZ17.out; have := HZ18.out; have := HZ19.out; have := HZ20.out; have := HZ21.out;  omega)).mono ?_
    rintro e w22 ⟨rfl, ho, hm⟩
    have HZ22 : Hid (w21.heap.size ≤ w22.heap.size) := Lib.hid hm.size
    have HB22 : Hid (Below w.heap.size w w22) := Lib.hid (HB21.out.trans (hm.below.mono (by have := HZ1.out; have := HZ2.out; have := HZ3.out; have := HZ4.out; have := HZ5.out; have := HZ6.out; have := HZ7.out; have := HZ8.out; have := HZ9.out; have := HZ10.out; have := HZ11.out; have := HZ12.out; have := HZ13.out; have := HZ14.out; have := HZ15.out; have := HZ16.out; have := HZ17.out; have := HZ18.out; have := HZ19.out; have := HZ20.out; have := HZ21.out; have := HB0.out.size; omega)))
    have HRf022 := Lib.hid (HRf00.out.below HB22.out (Nat.le_refl _))
    have HRf122 := Lib.hid (HRf10.out.below HB22.out (Nat.le_refl _))
    have HRf222 := Lib.hid (HRf20.out.below HB22.out (Nat.le_refl _))
    have HKa122 := Lib.hid ((hm.block _ (by have := lt_of_block HKa121.out; have := HZ1.out; have := HZ2.out; have := HZ3.out; have := HZ4.out; have := HZ5.out; have := HZ6.out; have := HZ7.out; have := HZ8.out; have := HZ9.out; have := HZ10.out; have := HZ11.out; have := HZ12.out; have := HZ13.out; have := HZ14.out; have := HZ15.out; have := HZ16.out; have := HZ17.out; have := HZ18.out; have := HZ19.out; have := HZ20.out; have := HZ21.out; omega)).trans HKa121.out)
    have HKwb022 := Lib.hid ((hm.block _ (by have := lt_of_block HKwb021.out; have := HZ1.out; have := HZ2.out; have := HZ3.out; have := HZ4.out; have := HZ5.out; have := HZ6.out; have := HZ7.out; have := HZ8.out; have := HZ9.out; have := HZ10.out; have := HZ11.out; have := HZ12.out; have := HZ13.out; have := HZ14.out; have := HZ15.out; have := HZ16.out; have := HZ17.out; have := HZ18.out; have := HZ19.out; have := HZ20.out; have := HZ21.out; omega)).trans HKwb021.out)
    have HRw022 := Lib.hid (HRw05.out.below (HBs5_21.out.trans (hm.below.mono (by have := HZ1.out; have := HZ2.out; have := HZ3.out; have := HZ4.out; have := HZ5.out; have := HZ6.out; have := HZ7.out; have := HZ8.out; have := HZ9.out; have := HZ10.out; have := HZ11.out; have := HZ12.out; have := HZ13.out; have := HZ14.out; have := HZ15.out; have := HZ16.out; have := HZ17.out; have := HZ18.out; have := HZ19.out; have := HZ20.out; have := HZ21.out; omega))) (Nat.le_refl _))
    have HKgb022 := Lib.hid ((hm.block _ (by have := lt_of_block HKgb021.out; have := HZ1.out; have := HZ2.out; have := HZ3.out; have := HZ4.out; have := HZ5.out; have := HZ6.out; have := HZ7.out; have := HZ8.out; have := HZ9.out; have := HZ10.out; have := HZ11.out; have := HZ12.out; have := HZ13.out; have := HZ14.out; have := HZ15.out; have := HZ16.out; have := HZ17.out; have := HZ18.out; have := HZ19.out; have := HZ20.out; have := HZ21.out; omega)).trans HKgb021.out)
    have HBs5_22 : Hid (Below w5.heap.size w5 w22) := Lib.hid (HBs5_21.out.trans (hm.below.mono (by have := HZ1.out; have := HZ2.out; have := HZ3.out; have := HZ4.out; have := HZ5.out; have := HZ6.out; have := HZ7.out; have := HZ8.out; have := HZ9.out; have := HZ10.out; have := HZ11.out; have := HZ12.out; have := HZ13.out; have := HZ14.out; have := HZ15.out; have := HZ16.out; have := HZ17.out; have := HZ18.out; have := HZ19.out; have := HZ20.out; have := HZ21.out; omega)))
    clear hm
    have HOg22 := Lib.hid (ho)
    clear ho
    clear ca10 fa10 lta1 cwb00 fwb00 ltwb0 cgb00 fgb00 ltgb0
    have lta1 := lt_of_block HKa122.out
    obtain ⟨ca10, fa10⟩ := cell1 HKa122.out
    have ltwb0 := lt_of_block HKwb022.out
    obtain ⟨cwb00, fwb00⟩ := cell1 HKwb022.out
    have ltgb0 := lt_of_block HKgb022.out
    obtain ⟨cgb00, fgb00⟩ := cell1 HKgb022.out
    go_wp2_with fail
    refine (heldAmount_any _ qs0.length (1) _ (by have := HOg22.out.reads; exact this) (by omega) (by omega)).mono ?_
    rintro e w23 ⟨rfl, hb⟩
    have HB23 : Hid (Below w.heap.size w w23) := Lib.hid (HB22.out.trans (hb.mono HB22.out.size))
    have HZ23 : Hid (w22.heap.size ≤ w23.heap.size) := Lib.hid hb.size
    have HRf023 := Lib.hid (HRf00.out.below HB23.out (Nat.le_refl _))
    have HRf123 := Lib.hid (HRf10.out.below HB23.out (Nat.le_refl _))
    have HRf223 := Lib.hid (HRf20.out.below HB23.out (Nat.le_refl _))
    have HKa123 := Lib.hid ((hb.block _ (lt_of_block HKa122.out)).trans HKa122.out)
    have HKwb023 := Lib.hid ((hb.block _ (lt_of_block HKwb022.out)).trans HKwb022.out)
    have HRw023 := Lib.hid (HRw022.out.below hb (Nat.le_refl _))
    have HOg23 := Lib.hid (HOg22.out.next hb)
    have HKgb023 := Lib.hid ((hb.block _ (lt_of_block HKgb022.out)).trans HKgb022.out)
    have HBs5_23 : Hid (Below w5.heap.size w5 w23) := Lib.hid (HBs5_22.out.trans (hb.mono HBs5_22.out.size))
    clear hb
    clear ca10 fa10 lta1 cwb00 fwb00 ltwb0 cgb00 fgb00 ltgb0
    have lta1 := lt_of_block HKa123.out
    obtain ⟨ca10, fa10⟩ := cell1 HKa123.out
    have ltwb0 := lt_of_block HKwb023.out
    obtain ⟨cwb00, fwb00⟩ := cell1 HKwb023.out
    have ltgb0 := lt_of_block HKgb023.out
    obtain ⟨cgb00, fgb00⟩ := cell1 HKgb023.out
    go_wp2_with fail
    clear ca10 fa10 lta1 cwb00 fwb00 ltwb0 cgb00 fgb00 ltgb0
    have lta1 := lt_of_block HKa123.out
    obtain ⟨ca10, fa10⟩ := cell1 HKa123.out
    have ltwb0 := lt_of_block HKwb023.out
    obtain ⟨cwb00, fwb00⟩ := cell1 HKwb023.out
    have ltgb0 := lt_of_block HKgb023.out
    obtain ⟨cgb00, fgb00⟩ := cell1 HKgb023.out
    go_cut [22, 23] from 123 (fun z0 z1 wc => ∃ (b0 : Nat) (pa0 : Option Addr) (ka0 : Nat), z0 = .pointer (some ⟨b0, 0, none⟩) ∧ z1 = .bool r1 ∧ wc.heap[b0]? = some (.cells #[.slice pa0 qs0.length ka0] 34 (0, 0)) ∧ RowsR 1 inC wc (.slice pa0 qs0.length ka0) qs0 ∧ Below w23.heap.size w23 wc)
    case first =>
      have HBs23_23 : Hid (Below w23.heap.size w23 w23) := Lib.hid (Below.refl _ _)
      refine wp_region_held_drew (S := (fun w' => w'.cell? ⟨w.heap.size, 0, none⟩ = some (.slice ad1 cs1.length cp1))) (by kernel_rfl) (ca10) (fun hHeld => ?_)
      have hb : Below w23.heap.size w23 w23.drew := (Below.refl _ _).drew
      generalize w23.drew = w24 at hb hHeld ⊢
      have HB24 : Hid (Below w.heap.size w w24) := Lib.hid (HB23.out.trans (hb.mono HB23.out.size))
      have HZ24 : Hid (w23.heap.size ≤ w24.heap.size) := Lib.hid hb.size
      have HRf024 := Lib.hid (HRf00.out.below HB24.out (Nat.le_refl _))
      have HRf124 := Lib.hid (HRf10.out.below HB24.out (Nat.le_refl _))
      have HRf224 := Lib.hid (HRf20.out.below HB24.out (Nat.le_refl _))
      have HKa124 := Lib.hid ((hb.block _ (lt_of_block HKa123.out)).trans HKa123.out)
      have HKwb024 := Lib.hid ((hb.block _ (lt_of_block HKwb023.out)).trans HKwb023.out)
      have HRw024 := Lib.hid (HRw023.out.below hb (Nat.le_refl _))
      have HOg24 := Lib.hid (HOg23.out.next hb)
      have HKgb024 := Lib.hid ((hb.block _ (lt_of_block HKgb023.out)).trans HKgb023.out)
      have HBs5_24 : Hid (Below w5.heap.size w5 w24) := Lib.hid (HBs5_23.out.trans (hb.mono HBs5_23.out.size))
      have HBs23_24 : Hid (Below w23.heap.size w23 w24) := Lib.hid (HBs23_23.out.trans (hb.mono HBs23_23.out.size))
      clear hb
      clear ca10 fa10 lta1 cwb00 fwb00 ltwb0 cgb00 fgb00 ltgb0
      have lta1 := lt_of_block HKa124.out
      obtain ⟨ca10, fa10⟩ := cell1 HKa124.out
      have ltwb0 := lt_of_block HKwb024.out
      obtain ⟨cwb00, fwb00⟩ := cell1 HKwb024.out
      have ltgb0 := lt_of_block HKgb024.out
      obtain ⟨cgb00, fgb00⟩ := cell1 HKgb024.out
      refine take1 (i := 0) (v := ?v26) (some 124) rfl rfl (by kernel_rfl) (by kernel_rfl) (by kernel_rfl) (fun _ _ _ h => h) (Or.inl ⟨by rfl, ?y26⟩) (by assumption) ?r26
      case y26 => (intro w hSw; (try dsimp only at hSw); go_simp; (first | done | with_reducible rfl))
      try simp only [Act.put, List.setIfInBounds_toArray, List.set_cons_zero, List.set_cons_succ]
      refine take1 (i := 2) (v := ?v27) (some 126) rfl rfl (by kernel_rfl) (by kernel_rfl) (by kernel_rfl) (fun _ _ _ h => h) (Or.inl ⟨by rfl, ?y27⟩) (by assumption) ?r27
      case y27 => (intro w hSw; (try dsimp only at hSw); go_simp; (first | done | with_reducible rfl))
      try simp only [Act.put, List.setIfInBounds_toArray, List.set_cons_zero, List.set_cons_succ]
      refine take1 (i := 4) (v := ?v28) (some 128) rfl rfl (by kernel_rfl) (by kernel_rfl) (by kernel_rfl) (fun _ _ _ h => h) (Or.inl ⟨by rfl, ?y28⟩) (by assumption) ?r28
      case y28 => (intro w hSw; (try dsimp only at hSw); go_simp; (first | done | with_reducible rfl))
      try simp only [Act.put, List.setIfInBounds_toArray, List.set_cons_zero, List.set_cons_succ]
      refine take1 (i := 6) (v := ?v29) (some 130) rfl rfl (by kernel_rfl) (by kernel_rfl) (by kernel_rfl) (fun _ _ _ h => h) (Or.inl ⟨by rfl, ?y29⟩) (by assumption) ?r29
      case y29 => (intro w hSw; (try dsimp only at hSw); go_simp; (first | done | with_reducible rfl))
      try simp only [Act.put, List.setIfInBounds_toArray, List.set_cons_zero, List.set_cons_succ]
      refine take1 (i := 7) (v := ?v30) (some 131) rfl rfl (by kernel_rfl) (by kernel_rfl) (by kernel_rfl) (fun _ _ _ h => h) (Or.inl ⟨by rfl, ?y30⟩) (by assumption) ?r30
      case y30 => (intro w hSw; (try dsimp only at hSw); go_simp; (first | done | with_reducible rfl))
      try simp only [Act.put, List.setIfInBounds_toArray, List.set_cons_zero, List.set_cons_succ]
      refine wpAnyH_ready (rs := [1, 12]) (by kernel_rfl) (by simp) ?_
      refine AllReadyH.cons rfl (fun K hK => ?_) (AllReadyH.cons rfl (fun K hK => ?_) AllReadyH.nil)
      · go_simp
        go_at_call 15
        refine (toUnitS_any _ us0 _ HRf024.out hn0).mono ?_
        rintro e w25 ⟨⟨shc0, rfl, ho⟩, hb⟩
        have HB25 : Hid (Below w.heap.size w w25) := Lib.hid (HB24.out.trans (hb.mono HB24.out.size))
        have HZ25 : Hid (w24.heap.size ≤ w25.heap.size) := Lib.hid hb.size
        have HRf025 := Lib.hid (HRf00.out.below HB25.out (Nat.le_refl _))
        have HRf125 := Lib.hid (HRf10.out.below HB25.out (Nat.le_refl _))
        have HRf225 := Lib.hid (HRf20.out.below HB25.out (Nat.le_refl _))
        have HKa125 := Lib.hid ((hb.block _ (lt_of_block HKa124.out)).trans HKa124.out)
        have HKwb025 := Lib.hid ((hb.block _ (lt_of_block HKwb024.out)).trans HKwb024.out)
        have HRw025 := Lib.hid (HRw024.out.below hb (Nat.le_refl _))
        have HOg25 := Lib.hid (HOg24.out.next hb)
        have HKgb025 := Lib.hid ((hb.block _ (lt_of_block HKgb024.out)).trans HKgb024.out)
        have HBs5_25 : Hid (Below w5.heap.size w5 w25) := Lib.hid (HBs5_24.out.trans (hb.mono HBs5_24.out.size))
        have HBs23_25 : Hid (Below w23.heap.size w23 w25) := Lib.hid (HBs23_24.out.trans (hb.mono HBs23_24.out.size))
        clear hb
        obtain ⟨phc0, khc0, rfl⟩ := own_form ho
        have HRhc025 := Lib.hid (RowsR.of_own unC_len ho)
        have HBs25_25 : Hid (Below w25.heap.size w25 w25) := Lib.hid (Below.refl _ _)
        clear ho
        clear ca10 fa10 lta1 cwb00 fwb00 ltwb0 cgb00 fgb00 ltgb0
        have lta1 := lt_of_block HKa125.out
        obtain ⟨ca10, fa10⟩ := cell1 HKa125.out
        have ltwb0 := lt_of_block HKwb025.out
        obtain ⟨cwb00, fwb00⟩ := cell1 HKwb025.out
        have ltgb0 := lt_of_block HKgb025.out
        obtain ⟨cgb00, fgb00⟩ := cell1 HKgb025.out
        try go_simp
        refine hK.out _ _ (ca10) (fun hHeld => ?_)
        clear hK K
        try simp only [Act.put, List.setIfInBounds_toArray, List.set_cons_zero, List.set_cons_succ]
        refine wpAnyH_ready (rs := [3, 12]) (by kernel_rfl) (by simp) ?_
        refine AllReadyH.cons rfl (fun K hK => ?_) (AllReadyH.cons rfl (fun K hK => ?_) AllReadyH.nil)
        · go_simp
          go_at_call 20
          refine (toAmount_any _ cs1 _ HRf125.out hn1).mono ?_
          rintro e w26 ⟨⟨shc1, rfl, ho⟩, hb⟩
          have HB26 : Hid (Below w.heap.size w w26) := Lib.hid (HB25.out.trans (hb.mono HB25.out.size))
          have HZ26 : Hid (w25.heap.size ≤ w26.heap.size) := Lib.hid hb.size
          have HRf026 := Lib.hid (HRf00.out.below HB26.out (Nat.le_refl _))
          have HRf126 := Lib.hid (HRf10.out.below HB26.out (Nat.le_refl _))
          have HRf226 := Lib.hid (HRf20.out.below HB26.out (Nat.le_refl _))
          have HKa126 := Lib.hid ((hb.block _ (lt_of_block HKa125.out)).trans HKa125.out)
          have HKwb026 := Lib.hid ((hb.block _ (lt_of_block HKwb025.out)).trans HKwb025.out)
          have HRw026 := Lib.hid (HRw025.out.below hb (Nat.le_refl _))
          have HOg26 := Lib.hid (HOg25.out.next hb)
          have HKgb026 := Lib.hid ((hb.block _ (lt_of_block HKgb025.out)).trans HKgb025.out)
          have HRhc026 := Lib.hid (HRhc025.out.below hb (Nat.le_refl _))
          have HBs5_26 : Hid (Below w5.heap.size w5 w26) := Lib.hid (HBs5_25.out.trans (hb.mono HBs5_25.out.size))
          have HBs23_26 : Hid (Below w23.heap.size w23 w26) := Lib.hid (HBs23_25.out.trans (hb.mono HBs23_25.out.size))
          have HBs25_26 : Hid (Below w25.heap.size w25 w26) := Lib.hid (HBs25_25.out.trans (hb.mono HBs25_25.out.size))
          clear hb
          obtain ⟨phc1, khc1, rfl⟩ := ho.form
          have HRhc126 := Lib.hid (ho.reads)
          have HBs26_26 : Hid (Below w26.heap.size w26 w26) := Lib.hid (Below.refl _ _)
          clear ho
          clear ca10 fa10 lta1 cwb00 fwb00 ltwb0 cgb00 fgb00 ltgb0
          have lta1 := lt_of_block HKa126.out
          obtain ⟨ca10, fa10⟩ := cell1 HKa126.out
          have ltwb0 := lt_of_block HKwb026.out
          obtain ⟨cwb00, fwb00⟩ := cell1 HKwb026.out
          have ltgb0 := lt_of_block HKgb026.out
          obtain ⟨cgb00, fgb00⟩ := cell1 HKgb026.out
          try go_simp
          refine hK.out _ _ (ca10) (fun hHeld => ?_)
          clear hK K
          try simp only [Act.put, List.setIfInBounds_toArray, List.set_cons_zero, List.set_cons_succ]
          refine wpAnyH_ready (rs := [5, 12]) (by kernel_rfl) (by simp) ?_
          refine AllReadyH.cons rfl (fun K hK => ?_) (AllReadyH.cons rfl (fun K hK => ?_) AllReadyH.nil)
          · go_simp
            go_at_call 15
            refine (toUnitS_any _ us2 _ HRf226.out hn2).mono ?_
            rintro e w27 ⟨⟨shc2, rfl, ho⟩, hb⟩
            have HB27 : Hid (Below w.heap.size w w27) := Lib.hid (HB26.out.trans (hb.mono HB26.out.size))
            have HZ27 : Hid (w26.heap.size ≤ w27.heap.size) := Lib.hid hb.size
            have HRf027 := Lib.hid (HRf00.out.below HB27.out (Nat.le_refl _))
            have HRf127 := Lib.hid (HRf10.out.below HB27.out (Nat.le_refl _))
            have HRf227 := Lib.hid (HRf20.out.below HB27.out (Nat.le_refl _))
            have HKa127 := Lib.hid ((hb.block _ (lt_of_block HKa126.out)).trans HKa126.out)
            have HKwb027 := Lib.hid ((hb.block _ (lt_of_block HKwb026.out)).trans HKwb026.out)
            have HRw027 := Lib.hid (HRw026.out.below hb (Nat.le_refl _))
            have HOg27 := Lib.hid (HOg26.out.next hb)
            have HKgb027 := Lib.hid ((hb.block _ (lt_of_block HKgb026.out)).trans HKgb026.out)
            have HRhc027 := Lib.hid (HRhc026.out.below hb (Nat.le_refl _))
            have HRhc127 := Lib.hid (HRhc126.out.below hb (Nat.le_refl _))
            have HBs5_27 : Hid (Below w5.heap.size w5 w27) := Lib.hid (HBs5_26.out.trans (hb.mono HBs5_26.out.size))
            have HBs23_27 : Hid (Below w23.heap.size w23 w27) := Lib.hid (HBs23_26.out.trans (hb.mono HBs23_26.out.size))
            have HBs25_27 : Hid (Below w25.heap.size w25 w27) := Lib.hid (HBs25_26.out.trans (hb.mono HBs25_26.out.size))
            have HBs26_27 : Hid (Below w26.heap.size w26 w27) := Lib.hid (HBs26_26.out.trans (hb.mono HBs26_26.out.size))
            clear hb
            obtain ⟨phc2, khc2, rfl⟩ := own_form ho
            have HRhc227 := Lib.hid (RowsR.of_own unC_len ho)
            have HBs27_27 : Hid (Below w27.heap.size w27 w27) := Lib.hid (Below.refl _ _)
            clear ho
            clear ca10 fa10 lta1 cwb00 fwb00 ltwb0 cgb00 fgb00 ltgb0
            have lta1 := lt_of_block HKa127.out
            obtain ⟨ca10, fa10⟩ := cell1 HKa127.out
            have ltwb0 := lt_of_block HKwb027.out
            obtain ⟨cwb00, fwb00⟩ := cell1 HKwb027.out
            have ltgb0 := lt_of_block HKgb027.out
            obtain ⟨cgb00, fgb00⟩ := cell1 HKgb027.out
            try go_simp
            refine hK.out _ _ (ca10) (fun hHeld => ?_)
            clear hK K
            try simp only [Act.put, List.setIfInBounds_toArray, List.set_cons_zero, List.set_cons_succ]
            refine wpAnyH_ready (rs := [8, 12]) (by kernel_rfl) (by simp) ?_
            refine AllReadyH.cons rfl (fun K hK => ?_) (AllReadyH.cons rfl (fun K hK => ?_) AllReadyH.nil)
            · go_simp
              go_at_call 41
              refine (HI.out _ _ _ _ HRhc027.out HRhc127.out HRhc227.out).mono ?_
              rintro e w28 ⟨⟨th0, rfl, ho⟩, hb⟩
              have HB28 : Hid (Below w.heap.size w w28) := Lib.hid (HB27.out.trans (hb.mono HB27.out.size))
              have HZ28 : Hid (w27.heap.size ≤ w28.heap.size) := Lib.hid hb.size
              have HRf028 := Lib.hid (HRf00.out.below HB28.out (Nat.le_refl _))
              have HRf128 := Lib.hid (HRf10.out.below HB28.out (Nat.le_refl _))
              have HRf228 := Lib.hid (HRf20.out.below HB28.out (Nat.le_refl _))
              have HKa128 := Lib.hid ((hb.block _ (lt_of_block HKa127.out)).trans HKa127.out)
              have HKwb028 := Lib.hid ((hb.block _ (lt_of_block HKwb027.out)).trans HKwb027.out)
              have HRw028 := Lib.hid (HRw027.out.below hb (Nat.le_refl _))
              have HOg28 := Lib.hid (HOg27.out.next hb)
              have HKgb028 := Lib.hid ((hb.block _ (lt_of_block HKgb027.out)).trans HKgb027.out)
              have HRhc028 := Lib.hid (HRhc027.out.below hb (Nat.le_refl _))
              have HRhc128 := Lib.hid (HRhc127.out.below hb (Nat.le_refl _))
              have HRhc228 := Lib.hid (HRhc227.out.below hb (Nat.le_refl _))
              have HBs5_28 : Hid (Below w5.heap.size w5 w28) := Lib.hid (HBs5_27.out.trans (hb.mono HBs5_27.out.size))
              have HBs23_28 : Hid (Below w23.heap.size w23 w28) := Lib.hid (HBs23_27.out.trans (hb.mono HBs23_27.out.size))
              have HBs25_28 : Hid (Below w25.heap.size w25 w28) := Lib.hid (HBs25_27.out.trans (hb.mono HBs25_27.out.size))
              have HBs26_28 : Hid (Below w26.heap.size w26 w28) := Lib.hid (HBs26_27.out.trans (hb.mono HBs26_27.out.size))
              have HBs27_28 : Hid (Below w27.heap.size w27 w28) := Lib.hid (HBs27_27.out.trans (hb.mono HBs27_27.out.size))
              clear hb
              obtain ⟨ph0, kh0, rfl⟩ := ho.form
              have HOh28 := Lib.hid (ho)
              clear ho
              clear ca10 fa10 lta1 cwb00 fwb00 ltwb0 cgb00 fgb00 ltgb0
              have lta1 := lt_of_block HKa128.out
              obtain ⟨ca10, fa10⟩ := cell1 HKa128.out
              have ltwb0 := lt_of_block HKwb028.out
              obtain ⟨cwb00, fwb00⟩ := cell1 HKwb028.out
              have ltgb0 := lt_of_block HKgb028.out
              obtain ⟨cgb00, fgb00⟩ := cell1 HKgb028.out
              try go_simp
              refine hK.out _ _ (ca10) (fun hHeld => ?_)
              clear hK K
              try simp only [Act.put, List.setIfInBounds_toArray, List.set_cons_zero, List.set_cons_succ]
              refine take1 (i := 9) (v := ?v31) (some 123) rfl rfl (by kernel_rfl) (by kernel_rfl) (by kernel_rfl) (fun _ _ _ h => h) (Or.inl ⟨by rfl, ?y31⟩) (by assumption) ?r31
              case y31 => (intro w hSw; (try dsimp only at hSw); go_simp; (first | done | with_reducible rfl))
              try simp only [Act.put, List.setIfInBounds_toArray, List.set_cons_zero, List.set_cons_succ]
              refine take1 (i := 10) (v := ?v32) (some 133) rfl rfl (by kernel_rfl) (by kernel_rfl) (by kernel_rfl) (fun _ _ _ h => h) (Or.inl ⟨by rfl, ?y32⟩) (by assumption) ?r32
              case y32 => (intro w hSw; (try dsimp only at hSw); go_simp; (first | done | with_reducible rfl))
              try simp only [Act.put, List.setIfInBounds_toArray, List.set_cons_zero, List.set_cons_succ]
              refine take1 (i := 11) (v := ?v33) (some 134) rfl rfl (by kernel_rfl) (by kernel_rfl) (by kernel_rfl) (fun _ _ _ h => h) (Or.inl ⟨by rfl, ?y33⟩) (by assumption) ?r33
              case y33 => (intro w hSw; (try dsimp only at hSw); go_simp; (first | done | with_reducible rfl))
              try simp only [Act.put, List.setIfInBounds_toArray, List.set_cons_zero, List.set_cons_succ]
              refine wpAnyH_ready (rs := [12]) (by kernel_rfl) (by simp) ?_
              refine AllReadyH.cons rfl (fun K hK => ?_) AllReadyH.nil
              go_simp
              have hb : Below w28.heap.size w28 (w28.alloc (.cells #[.slice none 0 0] 34)) := (Below.refl _ _).alloc (Nat.le_refl _) _
              have hk : (w28.alloc (.cells #[.slice none 0 0] 34)).heap[w28.heap.size]? = some (.cells #[.slice none 0 0] 34 (0, 0)) := alloc_at rfl
              have hz : (w28.alloc (.cells #[.slice none 0 0] 34)).heap.size = w28.heap.size + 1 := by simp
              generalize w28.alloc (.cells #[.slice none 0 0] 34) = w29 at hb hk hz ⊢
              have HB29 : Hid (Below w.heap.size w w29) := Lib.hid (HB28.out.trans (hb.mono HB28.out.size))
              have HZ29 : Hid (w28.heap.size ≤ w29.heap.size) := Lib.hid hb.size
              have HRf029 := Lib.hid (HRf00.out.below HB29.out (Nat.le_refl _))
              have HRf129 := Lib.hid (HRf10.out.below HB29.out (Nat.le_refl _))
              have HRf229 := Lib.hid (HRf20.out.below HB29.out (Nat.le_refl _))
              have HKa129 := Lib.hid ((hb.block _ (lt_of_block HKa128.out)).trans HKa128.out)
              have HKwb029 := Lib.hid ((hb.block _ (lt_of_block HKwb028.out)).trans HKwb028.out)
              have HRw029 := Lib.hid (HRw028.out.below hb (Nat.le_refl _))
              have HOg29 := Lib.hid (HOg28.out.next hb)
              have HKgb029 := Lib.hid ((hb.block _ (lt_of_block HKgb028.out)).trans HKgb028.out)
              have HOh29 := Lib.hid (HOh28.out.next hb)
              have HBs5_29 : Hid (Below w5.heap.size w5 w29) := Lib.hid (HBs5_28.out.trans (hb.mono HBs5_28.out.size))
              have HBs23_29 : Hid (Below w23.heap.size w23 w29) := Lib.hid (HBs23_28.out.trans (hb.mono HBs23_28.out.size))
              have HKhb029 := Lib.hid hk
              replace HZ29 : Hid (w28.heap.size < w29.heap.size) := Lib.hid (by omega)
              have HE29 := Lib.hid hz
              clear hb hk hz
              clear ca10 fa10 lta1 cwb00 fwb00 ltwb0 cgb00 fgb00 ltgb0
              have lta1 := lt_of_block HKa129.out
              obtain ⟨ca10, fa10⟩ := cell1 HKa129.out
              have ltwb0 := lt_of_block HKwb029.out
              obtain ⟨cwb00, fwb00⟩ := cell1 HKwb029.out
              have ltgb0 := lt_of_block HKgb029.out
              obtain ⟨cgb00, fgb00⟩ := cell1 HKgb029.out
              have lthb0 := lt_of_block HKhb029.out
              obtain ⟨chb00, fhb00⟩ := cell1 HKhb029.out
              refine hK.out _ _ (ca10) (fun hHeld => ?_)
              clear hK K
              try simp only [Act.put, List.setIfInBounds_toArray, List.set_cons_zero, List.set_cons_succ]
              refine wpAnyH_ready (rs := [13]) (by kernel_rfl) (by simp) ?_
              refine AllReadyH.cons rfl (fun K hK => ?_) AllReadyH.nil
              go_simp
              have hkb := box1_set HKhb029.out (.slice ph0 qs0.length kh0)
              have hm : Btw w28.heap.size (w28.heap.size + 1) w29 (w29.setCell ⟨w28.heap.size, 0, none⟩ (.slice ph0 qs0.length kh0)) := (Btw.refl (w28.heap.size) (w28.heap.size + 1) w29).setCell (p := ⟨w28.heap.size, 0, none⟩) (Nat.le_refl _) (Nat.lt_succ_self _) _
              generalize w29.setCell ⟨w28.heap.size, 0, none⟩ (.slice ph0 qs0.length kh0) = w30 at hkb hm ⊢
              have HZ30 : Hid (w29.heap.size ≤ w30.heap.size) := Lib.hid hm.size
              have HB30 : Hid (Below w.heap.size w w30) := Lib.hid (HB29.out.trans (hm.below.mono (by have := HZ1.out; have := HZ2.out; have := HZ3.out; have := HZ4.out; have := HZ5.out; have := HZ6.out; have := HZ7.out; have := HZ8.out; have := HZ9.out; have := HZ10.out; have := HZ11.out; have := HZ12.out; have := HZ13.out; have := HZ14.out; have := HZ15.out; have := HZ16.out; have := HZ17.out; have := HZ18.out; have := HZ19.out; have := HZ20.out; have := HZ21.out; have := HZ22.out; have := HZ23.out; have := HZ24.out; have := HZ25.out; have := HZ26.out; have := HZ27.out; have := HZ28.out; have := HZ29.out; have := HB0.out.size; omega)))
              have HRf030 := Lib.hid (HRf00.out.below HB30.out (Nat.le_refl _))
              have HRf130 := Lib.hid (HRf10.out.below HB30.out (Nat.le_refl _))
              have HRf230 := Lib.hid (HRf20.out.below HB30.out (Nat.le_refl _))
              have HKa130 := Lib.hid ((hm.block _ (by have := lt_of_block HKa129.out; have := HZ1.out; have := HZ2.out; have := HZ3.out; have := HZ4.out; have := HZ5.out; have := HZ6.out; have := HZ7.out; have := HZ8.out; have := HZ9.out; have := HZ10.out; have := HZ11.out; have := HZ12.out; have := HZ13.out; have := HZ14.out; have := HZ15.out; have := HZ16.out; have := HZ17.out; have := HZ18.out; have := HZ19.out; have := HZ20.out; have := HZ21.out; have := HZ22.out; have := HZ23.out; have := HZ24.out; have := HZ25.out; have := HZ26.out; have := HZ27.out; have := HZ28.out; have := HZ29.out; omega)).trans HKa129.out)
              have HKwb030 := Lib.hid ((hm.block _ (by have := lt_of_block HKwb029.out; have := HZ1.out; have := HZ2.out; have := HZ3.out; have := HZ4.out; have := HZ5.out; have := HZ6.out; have := HZ7.out; have := HZ8.out; have := HZ9.out; have := HZ10.out; have := HZ11.out; have := HZ12.out; have := HZ13.out; have := HZ14.out; have := HZ15.out; have := HZ16.out; have := HZ17.out; have := HZ18.out; have := HZ19.out; have := HZ20.out; have := HZ21.out; have := HZ22.out; have := HZ23.out; have := HZ24.out; have := HZ25.out; have := HZ26.out; have := HZ27.out; have := HZ28.out; have := HZ29.out; omega)).trans HKwb029.out)
              have HRw030 := Lib.hid (HRw05.out.below (HBs5_29.out.trans (hm.below.mono (by have := HZ1.out; have := HZ2.out; have := HZ3.out; have := HZ4.out; have := HZ5.out; have := HZ6.out; have := HZ7.out; have := HZ8.out; have := HZ9.out; have := HZ10.out; have := HZ11.out; have := HZ12.out; have := HZ13.out; have := HZ14.out; have := HZ15.out; have := HZ16.out; have := HZ17.out; have := HZ18.out; have := HZ19.out; have := HZ20.out; have := HZ21.out; have := HZ22.out; have := HZ23.out; have := HZ24.out; have := HZ25.out; have := HZ26.out; have := HZ27.out; have := HZ28.out; have := HZ29.out; omega))) (Nat.le_refl _))
              have HOg30 := Lib.hid (HOg29.out.btw hm (by have := HZ1.out; have := HZ2.out; have := HZ3.out; have := HZ4.out; have := HZ5.out; have := HZ6.out; have := HZ7.out; have := HZ8.out; have := HZ9.out; have := HZ10.out; have := HZ11.out; have := HZ12.out; have := HZ13.out; have := HZ14.out; have := HZ15.out; have := HZ16.out; have := HZ17.out; have := HZ18.out; have := HZ19.out; have := HZ20.out; have := HZ21.out; have := HZ22.out; have := HZ23.out; have := HZ24.out; have := HZ25.out; have := HZ26.out; have := HZ27.out; have := HZ28.out; have := HZ29.out; omega))
              have HKgb030 := Lib.hid ((hm.block _ (by have := lt_of_block HKgb029.out; have := HZ1.out; have := HZ2.out; have := HZ3.out; have := HZ4.out; have := HZ5.out; have := HZ6.out; have := HZ7.out; have := HZ8.out; have := HZ9.out; have := HZ10.out; have := HZ11.out; have := HZ12.out; have := HZ13.out; have := HZ14.out; have := HZ15.out; have := HZ16.out; have := HZ17.out; have := HZ18.out; have := HZ19.out; have := HZ20.out; have := HZ21.out; have := HZ22.out; have := HZ23.out; have := HZ24.out; have := HZ25.out; have := HZ26.out; have := HZ27.out; have := HZ28.out; have := HZ29.out; omega)).trans HKgb029.out)
              have HOh30 := Lib.hid (HOh29.out.btw hm (by have := HZ1.out; have := HZ2.out; have := HZ3.out; have := HZ4.out; have := HZ5.out; have := HZ6.out; have := HZ7.out; have := HZ8.out; have := HZ9.out; have := HZ10.out; have := HZ11.out; have := HZ12.out; have := HZ13.out; have := HZ14.out; have := HZ15.out; have := HZ16.out; have := HZ17.out; have := HZ18.out; have := HZ19.out; have := HZ20.out; have := HZ21.out; have := HZ22.out; have := HZ23.out; have := HZ24.out; have := HZ25.out; have := HZ26.out; have := HZ27.out; have := HZ28.out; have := HZ29.out; omega))
              have HBs5_30 : Hid (Below w5.heap.size w5 w30) := Lib.hid (HBs5_29.out.trans (hm.below.mono (by have := HZ1.out; have := HZ2.out; have := HZ3.out; have := HZ4.out; have := HZ5.out; have := HZ6.out; have := HZ7.out; have := HZ8.out; have := HZ9.out; have := HZ10.out; have := HZ11.out; have := HZ12.out; have := HZ13.out; have := HZ14.out; have := HZ15.out; have := HZ16.out; have := HZ17.out; have := HZ18.out; have := HZ19.out; have := HZ20.out; have := HZ21.out; have := HZ22.out; have := HZ23.out; have := HZ24.out; have := HZ25.out; have := HZ26.out; have := HZ27.out; have := HZ28.out; have := HZ29.out; omega)))
              have HBs23_30 : Hid (Below w23.heap.size w23 w30) := Lib.hid (HBs23_29.out.trans (hm.below.mono (by have := HZ1.out; have := HZ2.out; have := HZ3.out; have := HZ4.out; have := HZ5.out; have := HZ6.out; have := HZ7.out; have := HZ8.out; have := HZ9.out; have := HZ10.out; have := HZ11.out; have := HZ12.out; have := HZ13.out; have := HZ14.out; have := HZ15.out; have := HZ16.out; have := HZ17.out; have := HZ18.out; have := HZ19.out; have := HZ20.out; have := HZ21.out; have := HZ22.out; have := HZ23.out; have := HZ24.out; have := HZ25.out; have := HZ26.out; have := HZ27.out; have := HZ28.out; have := HZ29.out; omega)))
              clear hm
              have HKhb030 := Lib.hid (hkb)
              clear hkb
              clear ca10 fa10 lta1 cwb00 fwb00 ltwb0 cgb00 fgb00 ltgb0 chb00 fhb00 lthb0
              have lta1 := lt_of_block HKa130.out
              obtain ⟨ca10, fa10⟩ := cell1 HKa130.out
              have ltwb0 := lt_of_block HKwb030.out
              obtain ⟨cwb00, fwb00⟩ := cell1 HKwb030.out
              have ltgb0 := lt_of_block HKgb030.out
              obtain ⟨cgb00, fgb00⟩ := cell1 HKgb030.out
              have lthb0 := lt_of_block HKhb030.out
              obtain ⟨chb00, fhb00⟩ := cell1 HKhb030.out
              refine hK.out _ _ (ca10) (fun hHeld => ?_)
              clear hK K
              try simp only [Act.put]
              refine take1 (i := 14) (v := ?v34) (some 23) rfl rfl (by kernel_rfl) (by kernel_rfl) (by kernel_rfl) (fun _ _ _ h => h) (Or.inl ⟨by rfl, ?y34⟩) (by assumption) ?r34
              case y34 => (intro w hSw; (try dsimp only at hSw); go_simp; (first | done | with_reducible rfl))
              try simp only [Act.put, List.setIfInBounds_toArray, List.set_cons_zero, List.set_cons_succ]
              refine wpAnyH_done (by kernel_rfl) ?_ _
              go_wp2_with fail
              go_meet
              exact ⟨w28.heap.size, ph0, kh0, rfl, rfl, HKhb030.out, HOh30.out.reads, HBs23_30.out⟩
            · go_simp
              have hb : Below w27.heap.size w27 (w27.alloc (.cells #[.slice none 0 0] 34)) := (Below.refl _ _).alloc (Nat.le_refl _) _
              have hk : (w27.alloc (.cells #[.slice none 0 0] 34)).heap[w27.heap.size]? = some (.cells #[.slice none 0 0] 34 (0, 0)) := alloc_at rfl
              have hz : (w27.alloc (.cells #[.slice none 0 0] 34)).heap.size = w27.heap.size + 1 := by simp
              generalize w27.alloc (.cells #[.slice none 0 0] 34) = w28 at hb hk hz ⊢
              have HB28 : Hid (Below w.heap.size w w28) := Lib.hid (HB27.out.trans (hb.mono HB27.out.size))
              have HZ28 : Hid (w27.heap.size ≤ w28.heap.size) := Lib.hid hb.size
              have HRf028 := Lib.hid (HRf00.out.below HB28.out (Nat.le_refl _))
              have HRf128 := Lib.hid (HRf10.out.below HB28.out (Nat.le_refl _))
              have HRf228 := Lib.hid (HRf20.out.below HB28.out (Nat.le_refl _))
              have HKa128 := Lib.hid ((hb.block _ (lt_of_block HKa127.out)).trans HKa127.out)
              have HKwb028 := Lib.hid ((hb.block _ (lt_of_block HKwb027.out)).trans HKwb027.out)
              have HRw028 := Lib.hid (HRw027.out.below hb (Nat.le_refl _))
              have HOg28 := Lib.hid (HOg27.out.next hb)
              have HKgb028 := Lib.hid ((hb.block _ (lt_of_block HKgb027.out)).trans HKgb027.out)
              have HRhc028 := Lib.hid (HRhc027.out.below hb (Nat.le_refl _))
              have HRhc128 := Lib.hid (HRhc127.out.below hb (Nat.le_refl _))
              have HRhc228 := Lib.hid (HRhc227.out.below hb (Nat.le_refl _))
              have HBs5_28 : Hid (Below w5.heap.size w5 w28) := Lib.hid (HBs5_27.out.trans (hb.mono HBs5_27.out.size))
              have HBs23_28 : Hid (Below w23.heap.size w23 w28) := Lib.hid (HBs23_27.out.trans (hb.mono HBs23_27.out.size))
              have HBs25_28 : Hid (Below w25.heap.size w25 w28) := Lib.hid (HBs25_27.out.trans (hb.mono HBs25_27.out.size))
              have HBs26_28 : Hid (Below w26.heap.size w26 w28) := Lib.hid (HBs26_27.out.trans (hb.mono HBs26_27.out.size))
              have HBs27_28 : Hid (Below w27.heap.size w27 w28) := Lib.hid (HBs27_27.out.trans (hb.mono HBs27_27.out.size))
              have HKhb028 := Lib.hid hk
              replace HZ28 : Hid (w27.heap.size < w28.heap.size) := Lib.hid (by omega)
              have HE28 := Lib.hid hz
              clear hb hk hz
              clear ca10 fa10 lta1 cwb00 fwb00 ltwb0 cgb00 fgb00 ltgb0
              have lta1 := lt_of_block HKa128.out
              obtain ⟨ca10, fa10⟩ := cell1 HKa128.out
              have ltwb0 := lt_of_block HKwb028.out
              obtain ⟨cwb00, fwb00⟩ := cell1 HKwb028.out
              have ltgb0 := lt_of_block HKgb028.out
              obtain ⟨cgb00, fgb00⟩ := cell1 HKgb028.out
              have lthb0 := lt_of_block HKhb028.out
              obtain ⟨chb00, fhb00⟩ := cell1 HKhb028.out
              refine hK.out _ _ (ca10) (fun hHeld => ?_)
              clear hK K
              try simp only [Act.put, List.setIfInBounds_toArray, List.set_cons_zero, List.set_cons_succ]
              refine wpAnyH_ready (rs := [8]) (by kernel_rfl) (by simp) ?_
              refine AllReadyH.cons rfl (fun K hK => ?_) AllReadyH.nil
              go_simp
              go_at_call 41
              refine (HI.out _ _ _ _ HRhc028.out HRhc128.out HRhc228.out).mono ?_
              rintro e w29 ⟨⟨th0, rfl, ho⟩, hb⟩
              have HB29 : Hid (Below w.heap.size w w29) := Lib.hid (HB28.out.trans (hb.mono HB28.out.size))
              have HZ29 : Hid (w28.heap.size ≤ w29.heap.size) := Lib.hid hb.size
              have HRf029 := Lib.hid (HRf00.out.below HB29.out (Nat.le_refl _))
              have HRf129 := Lib.hid (HRf10.out.below HB29.out (Nat.le_refl _))
              have HRf229 := Lib.hid (HRf20.out.below HB29.out (Nat.le_refl _))
              have HKa129 := Lib.hid ((hb.block _ (lt_of_block HKa128.out)).trans HKa128.out)
              have HKwb029 := Lib.hid ((hb.block _ (lt_of_block HKwb028.out)).trans HKwb028.out)
              have HRw029 := Lib.hid (HRw028.out.below hb (Nat.le_refl _))
              have HOg29 := Lib.hid (HOg28.out.next hb)
              have HKgb029 := Lib.hid ((hb.block _ (lt_of_block HKgb028.out)).trans HKgb028.out)
              have HRhc029 := Lib.hid (HRhc028.out.below hb (Nat.le_refl _))
              have HRhc129 := Lib.hid (HRhc128.out.below hb (Nat.le_refl _))
              have HRhc229 := Lib.hid (HRhc228.out.below hb (Nat.le_refl _))
              have HKhb029 := Lib.hid ((hb.block _ (lt_of_block HKhb028.out)).trans HKhb028.out)
              have HBs5_29 : Hid (Below w5.heap.size w5 w29) := Lib.hid (HBs5_28.out.trans (hb.mono HBs5_28.out.size))
              have HBs23_29 : Hid (Below w23.heap.size w23 w29) := Lib.hid (HBs23_28.out.trans (hb.mono HBs23_28.out.size))
              have HBs25_29 : Hid (Below w25.heap.size w25 w29) := Lib.hid (HBs25_28.out.trans (hb.mono HBs25_28.out.size))
              have HBs26_29 : Hid (Below w26.heap.size w26 w29) := Lib.hid (HBs26_28.out.trans (hb.mono HBs26_28.out.size))
              have HBs27_29 : Hid (Below w27.heap.size w27 w29) := Lib.hid (HBs27_28.out.trans (hb.mono HBs27_28.out.size))
              clear hb
              obtain ⟨ph0, kh0, rfl⟩ := ho.form
              have HOh29 := Lib.hid (ho)
              clear ho
              clear ca10 fa10 lta1 cwb00 fwb00 ltwb0 cgb00 fgb00 ltgb0 chb00 fhb00 lthb0
              have lta1 := lt_of_block HKa129.out
              obtain ⟨ca10, fa10⟩ := cell1 HKa129.out
              have ltwb0 := lt_of_block HKwb029.out
              obtain ⟨cwb00, fwb00⟩ := cell1 HKwb029.out
              have ltgb0 := lt_of_block HKgb029.out
              obtain ⟨cgb00, fgb00⟩ := cell1 HKgb029.out
              have lthb0 := lt_of_block HKhb029.out
              obtain ⟨chb00, fhb00⟩ := cell1 HKhb029.out
              try go_simp
              refine hK.out _ _ (ca10) (fun hHeld => ?_)
              clear hK K
              try simp only [Act.put, List.setIfInBounds_toArray, List.set_cons_zero, List.set_cons_succ]
              refine take1 (i := 9) (v := ?v35) (some 123) rfl rfl (by kernel_rfl) (by kernel_rfl) (by kernel_rfl) (fun _ _ _ h => h) (Or.inl ⟨by rfl, ?y35⟩) (by assumption) ?r35
              case y35 => (intro w hSw; (try dsimp only at hSw); go_simp; (first | done | with_reducible rfl))
              try simp only [Act.put, List.setIfInBounds_toArray, List.set_cons_zero, List.set_cons_succ]
              refine take1 (i := 10) (v := ?v36) (some 133) rfl rfl (by kernel_rfl) (by kernel_rfl) (by kernel_rfl) (fun _ _ _ h => h) (Or.inl ⟨by rfl, ?y36⟩) (by assumption) ?r36
              case y36 => (intro w hSw; (try dsimp only at hSw); go_simp; (first | done | with_reducible rfl))
              try simp only [Act.put, List.setIfInBounds_toArray, List.set_cons_zero, List.set_cons_succ]
              refine take1 (i := 11) (v := ?v37) (some 134) rfl rfl (by kernel_rfl) (by kernel_rfl) (by kernel_rfl) (fun _ _ _ h => h) (Or.inl ⟨by rfl, ?y37⟩) (by assumption) ?r37
              case y37 => (intro w hSw; (try dsimp only at hSw); go_simp; (first | done | with_reducible rfl))
              try simp only [Act.put, List.setIfInBounds_toArray, List.set_cons_zero, List.set_cons_succ]
              refine wpAnyH_ready (rs := [13]) (by kernel_rfl) (by simp) ?_
              refine AllReadyH.cons rfl (fun K hK => ?_) AllReadyH.nil
              go_simp
              have hkb := box1_set HKhb029.out (.slice ph0 qs0.length kh0)
              have hm : Btw w27.heap.size (w27.heap.size + 1) w29 (w29.setCell ⟨w27.heap.size, 0, none⟩ (.slice ph0 qs0.length kh0)) := (Btw.refl (w27.heap.size) (w27.heap.size + 1) w29).setCell (p := ⟨w27.heap.size, 0, none⟩) (Nat.le_refl _) (Nat.lt_succ_self _) _
              generalize w29.setCell ⟨w27.heap.size, 0, none⟩ (.slice ph0 qs0.length kh0) = w30 at hkb hm ⊢
              have HZ30 : Hid (w29.heap.size ≤ w30.heap.size) := Lib.hid hm.size
              have HB30 : Hid (Below w.heap.size w w30) := Lib.hid (HB29.out.trans (hm.below.mono (by have := HZ1.out; have := HZ2.out; have := HZ3.out; have := HZ4.out; have := HZ5.out; have := HZ6.out; have := HZ7.out; have := HZ8.out; have := HZ9.out; have := HZ10.out; have := HZ11.out; have := HZ12.out; have := HZ13.out; have := HZ14.out; have := HZ15.out; have := HZ16.out; have := HZ17.out; have := HZ18.out; have := HZ19.out; have := HZ20.out; have := HZ21.out; have := HZ22.out; have := HZ23.out; have := HZ24.out; have := HZ25.out; have := HZ26.out; have := HZ27.out; have := HZ28.out; have := HZ29.out; have := HB0.out.size; omega)))
              have HRf030 := Lib.hid (HRf00.out.below HB30.out (Nat.le_refl _))
              have HRf130 := Lib.hid (HRf10.out.below HB30.out (Nat.le_refl _))
              have HRf230 := Lib.hid (HRf20.out.below HB30.out (Nat.le_refl _))
              have HKa130 := Lib.hid ((hm.block _ (by have := lt_of_block HKa129.out; have := HZ1.out; have := HZ2.out; have := HZ3.out; have := HZ4.out; have := HZ5.out; have := HZ6.out; have := HZ7.out; have := HZ8.out; have := HZ9.out; have := HZ10.out; have := HZ11.out; have := HZ12.out; have := HZ13.out; have := HZ14.out; have := HZ15.out; have := HZ16.out; have := HZ17.out; have := HZ18.out; have := HZ19.out; have := HZ20.out; have := HZ21.out; have := HZ22.out; have := HZ23.out; have := HZ24.out; have := HZ25.out; have := HZ26.out; have := HZ27.out; have := HZ28.out; have := HZ29.out; omega)).trans HKa129.out)
              have HKwb030 := Lib.hid ((hm.block _ (by have := lt_of_block HKwb029.out; have := HZ1.out; have := HZ2.out; have := HZ3.out; have := HZ4.out; have := HZ5.out; have := HZ6.out; have := HZ7.out; have := HZ8.out; have := HZ9.out; have := HZ10.out; have := HZ11.out; have := HZ12.out; have := HZ13.out; have := HZ14.out; have := HZ15.out; have := HZ16.out; have := HZ17.out; have := HZ18.out; have := HZ19.out; have := HZ20.out; have := HZ21.out; have := HZ22.out; have := HZ23.out; have := HZ24.out; have := HZ25.out; have := HZ26.out; have := HZ27.out; have := HZ28.out; have := HZ29.out; omega)).trans HKwb029.out)
              have HRw030 := Lib.hid (HRw05.out.below (HBs5_29.out.trans (hm.below.mono (by have := HZ1.out; have := HZ2.out; have := HZ3.out; have := HZ4.out; have := HZ5.out; have := HZ6.out; have := HZ7.out; have := HZ8.out; have := HZ9.out; have := HZ10.out; have := HZ11.out; have := HZ12.out; have := HZ13.out; have := HZ14.out; have := HZ15.out; have := HZ16.out; have := HZ17.out; have := HZ18.out; have := HZ19.out; have := HZ20.out; have := HZ21.out; have := HZ22.out; have := HZ23.out; have := HZ24.out; have := HZ25.out; have := HZ26.out; have := HZ27.out; have := HZ28.out; have := HZ29.out; omega))) (Nat.le_refl _))
              have HOg30 := Lib.hid (HOg29.out.btw hm (by have := HZ1.out; have := HZ2.out; have := HZ3.out; have := HZ4.out; have := HZ5.out; have := HZ6.out; have := HZ7.out; have := HZ8.out; have := HZ9.out; have := HZ10.out; have := HZ11.out; have := HZ12.out; have := HZ13.out; have := HZ14.out; have := HZ15.out; have := HZ16.out; have := HZ17.out; have := HZ18.out; have := HZ19.out; have := HZ20.out; have := HZ21.out; have := HZ22.out; have := HZ23.out; have := HZ24.out; have := HZ25.out; have := HZ26.out; have := HZ27.out; have := HZ28.out; have := HZ29.out; omega))
              have HKgb030 := Lib.hid ((hm.block _ (by have := lt_of_block HKgb029.out; have := HZ1.out; have := HZ2.out; have := HZ3.out; have := HZ4.out; have := HZ5.out; have := HZ6.out; have := HZ7.out; have := HZ8.out; have := HZ9.out; have := HZ10.out; have := HZ11.out; have := HZ12.out; have := HZ13.out; have := HZ14.out; have := HZ15.out; have := HZ16.out; have := HZ17.out; have := HZ18.out; have := HZ19.out; have := HZ20.out; have := HZ21.out; have := HZ22.out; have := HZ23.out; have := HZ24.out; have := HZ25.out; have := HZ26.out; have := HZ27.out; have := HZ28.out; have := HZ29.out; omega)).trans HKgb029.out)
              have HOh30 := Lib.hid (HOh29.out.btw hm (by have := HZ1.out; have := HZ2.out; have := HZ3.out; have := HZ4.out; have := HZ5.out; have := HZ6.out; have := HZ7.out; have := HZ8.out; have := HZ9.out; have := HZ10.out; have := HZ11.out; have := HZ12.out; have := HZ13.out; have := HZ14.out; have := HZ15.out; have := HZ16.out; have := HZ17.out; have := HZ18.out; have := HZ19.out; have := HZ20.out; have := HZ21.out; have := HZ22.out; have := HZ23.out; have := HZ24.out; have := HZ25.out; have := HZ26.out; have := HZ27.out; have := HZ28.out; have := HZ29.out; omega))
              have HBs5_30 : Hid (Below w5.heap.size w5 w30) := Lib.hid (HBs5_29.out.trans (hm.below.mono (by have := HZ1.out; have := HZ2.out; have := HZ3.out; have := HZ4.out; have := HZ5.out; have := HZ6.out; have := HZ7.out; have := HZ8.out; have := HZ9.out; have := HZ10.out; have := HZ11.out; have := HZ12.out; have := HZ13.out; have := HZ14.out; have := HZ15.out; have := HZ16.out; have := HZ17.out; have := HZ18.out; have := HZ19.out; have := HZ20.out; have := HZ21.out; have := HZ22.out; have := HZ23.out; have := HZ24.out; have := HZ25.out; have := HZ26.out; have := HZ27.out; have := HZ28.out; have := HZ29.out; omega)))
              have HBs23_30 : Hid (Below w23.heap.size w23 w30) := Lib.hid (HBs23_29.out.trans (hm.below.mono (by have := HZ1.out; have := HZ2.out; have := HZ3.out; have := HZ4.out; have := HZ5.out; have := HZ6.out; have := HZ7.out; have := HZ8.out; have := HZ9.out; have := HZ10.out; have := HZ11.out; have := HZ12.out; have := HZ13.out; have := HZ14.out; have := HZ15.out; have := HZ16.out; have := HZ17.out; have := HZ18.out; have := HZ19.out; have := HZ20.out; have := HZ21.out; have := HZ22.out; have := HZ23.out; have := HZ24.out; have := HZ25.out; have := HZ26.out; have := HZ27.out; have := HZ28.out; have := HZ29.out; omega)))
              clear hm
              have HKhb030 := Lib.hid (hkb)
              clear hkb
              clear ca10 fa10 lta1 cwb00 fwb00 ltwb0 cgb00 fgb00 ltgb0 chb00 fhb00 lthb0
              have lta1 := lt_of_block HKa130.out
              obtain ⟨ca10, fa10⟩ := cell1 HKa130.out
              have ltwb0 := lt_of_block HKwb030.out
              obtain ⟨cwb00, fwb00⟩ := cell1 HKwb030.out
              have ltgb0 := lt_of_block HKgb030.out
              obtain ⟨cgb00, fgb00⟩ := cell1 HKgb030.out
              have lthb0 := lt_of_block HKhb030.out
              obtain ⟨chb00, fhb00⟩ := cell1 HKhb030.out
              refine hK.out _ _ (ca10) (fun hHeld => ?_)
              clear hK K
              try simp only [Act.put]
              refine take1 (i := 14) (v := ?v38) (some 23) rfl rfl (by kernel_rfl) (by kernel_rfl) (by kernel_rfl) (fun _ _ _ h => h) (Or.inl ⟨by rfl, ?y38⟩) (by assumption) ?r38
              case y38 => (intro w hSw; (try dsimp only at hSw); go_simp; (first | done | with_reducible rfl))
              try simp only [Act.put, List.setIfInBounds_toArray, List.set_cons_zero, List.set_cons_succ]
              refine wpAnyH_done (by kernel_rfl) ?_ _
              go_wp2_with fail
              go_meet
              exact ⟨w27.heap.size, ph0, kh0, rfl, rfl, HKhb030.out, HOh30.out.reads, HBs23_30.out⟩
          · go_simp
            have hb : Below w26.heap.size w26 (w26.alloc (.cells #[.slice none 0 0] 34)) := (Below.refl _ _).alloc (Nat.le_refl _) _
            have hk : (w26.alloc (.cells #[.slice none 0 0] 34)).heap[w26.heap.size]? = some (.cells #[.slice none 0 0] 34 (0, 0)) := alloc_at rfl
            have hz : (w26.alloc (.cells #[.slice none 0 0] 34)).heap.size = w26.heap.size + 1 := by simp
            generalize w26.alloc (.cells #[.slice none 0 0] 34) = w27 at hb hk hz ⊢
            have HB27 : Hid (Below w.heap.size w w27) := Lib.hid (HB26.out.trans (hb.mono HB26.out.size))
            have HZ27 : Hid (w26.heap.size ≤ w27.heap.size) := Lib.hid hb.size
            have HRf027 := Lib.hid (HRf00.out.below HB27.out (Nat.le_refl _))
            have HRf127 := Lib.hid (HRf10.out.below HB27.out (Nat.le_refl _))
            have HRf227 := Lib.hid (HRf20.out.below HB27.out (Nat.le_refl _))
            have HKa127 := Lib.hid ((hb.block _ (lt_of_block HKa126.out)).trans HKa126.out)
            have HKwb027 := Lib.hid ((hb.block _ (lt_of_block HKwb026.out)).trans HKwb026.out)
            have HRw027 := Lib.hid (HRw026.out.below hb (Nat.le_refl _))
            have HOg27 := Lib.hid (HOg26.out.next hb)
            have HKgb027 := Lib.hid ((hb.block _ (lt_of_block HKgb026.out)).trans HKgb026.out)
            have HRhc027 := Lib.hid (HRhc026.out.below hb (Nat.le_refl _))
            have HRhc127 := Lib.hid (HRhc126.out.below hb (Nat.le_refl _))
            have HBs5_27 : Hid (Below w5.heap.size w5 w27) := Lib.hid (HBs5_26.out.trans (hb.mono HBs5_26.out.size))
            have HBs23_27 : Hid (Below w23.heap.size w23 w27) := Lib.hid (HBs23_26.out.trans (hb.mono HBs23_26.out.size))
            have HBs25_27 : Hid (Below w25.heap.size w25 w27) := Lib.hid (HBs25_26.out.trans (hb.mono HBs25_26.out.size))
            have HBs26_27 : Hid (Below w26.heap.size w26 w27) := Lib.hid (HBs26_26.out.trans (hb.mono HBs26_26.out.size))
            have HKhb027 := Lib.hid hk
            replace HZ27 : Hid (w26.heap.size < w27.heap.size) := Lib.hid (by omega)
            have HE27 := Lib.hid hz
            clear hb hk hz
            clear ca10 fa10 lta1 cwb00 fwb00 ltwb0 cgb00 fgb00 ltgb0
            have lta1 := lt_of_block HKa127.out
            obtain ⟨ca10, fa10⟩ := cell1 HKa127.out
            have ltwb0 := lt_of_block HKwb027.out
            obtain ⟨cwb00, fwb00⟩ := cell1 HKwb027.out
            have ltgb0 := lt_of_block HKgb027.out
            obtain ⟨cgb00, fgb00⟩ := cell1 HKgb027.out
            have lthb0 := lt_of_block HKhb027.out
            obtain ⟨chb00, fhb00⟩ := cell1 HKhb027.out
            refine hK.out _ _ (ca10) (fun hHeld => ?_)
            clear hK K
            try simp only [Act.put, List.setIfInBounds_toArray, List.set_cons_zero, List.set_cons_succ]
            refine wpAnyH_ready (rs := [5]) (by kernel_rfl) (by simp) ?_
            refine AllReadyH.cons rfl (fun K hK => ?_) AllReadyH.nil
            go_simp
            go_at_call 15
            refine (toUnitS_any _ us2 _ HRf227.out hn2).mono ?_
            rintro e w28 ⟨⟨shc2, rfl, ho⟩, hb⟩
            have HB28 : Hid (Below w.heap.size w w28) := Lib.hid (HB27.out.trans (hb.mono HB27.out.size))
            have HZ28 : Hid (w27.heap.size ≤ w28.heap.size) := Lib.hid hb.size
            have HRf028 := Lib.hid (HRf00.out.below HB28.out (Nat.le_refl _))
            have HRf128 := Lib.hid (HRf10.out.below HB28.out (Nat.le_refl _))
            have HRf228 := Lib.hid (HRf20.out.below HB28.out (Nat.le_refl _))
            have HKa128 := Lib.hid ((hb.block _ (lt_of_block HKa127.out)).trans HKa127.out)
            have HKwb028 := Lib.hid ((hb.block _ (lt_of_block HKwb027.out)).trans HKwb027.out)
            have HRw028 := Lib.hid (HRw027.out.below hb (Nat.le_refl _))
            have HOg28 := Lib.hid (HOg27.out.next hb)
            have HKgb028 := Lib.hid ((hb.block _ (lt_of_block HKgb027.out)).trans HKgb027.out)
            have HRhc028 := Lib.hid (HRhc027.out.below hb (Nat.le_refl _))
            have HRhc128 := Lib.hid (HRhc127.out.below hb (Nat.le_refl _))
            have HKhb028 := Lib.hid ((hb.block _ (lt_of_block HKhb027.out)).trans HKhb027.out)
            have HBs5_28 : Hid (Below w5.heap.size w5 w28) := Lib.hid (HBs5_27.out.trans (hb.mono HBs5_27.out.size))
            have HBs23_28 : Hid (Below w23.heap.size w23 w28) := Lib.hid (HBs23_27.out.trans (hb.mono HBs23_27.out.size))
            have HBs25_28 : Hid (Below w25.heap.size w25 w28) := Lib.hid (HBs25_27.out.trans (hb.mono HBs25_27.out.size))
            have HBs26_28 : Hid (Below w26.heap.size w26 w28) := Lib.hid (HBs26_27.out.trans (hb.mono HBs26_27.out.size))
            clear hb
            obtain ⟨phc2, khc2, rfl⟩ := own_form ho
            have HRhc228 := Lib.hid (RowsR.of_own unC_len ho)
            have HBs28_28 : Hid (Below w28.heap.size w28 w28) := Lib.hid (Below.refl _ _)
            clear ho
            clear ca10 fa10 lta1 cwb00 fwb00 ltwb0 cgb00 fgb00 ltgb0 chb00 fhb00 lthb0
            have lta1 := lt_of_block HKa128.out
            obtain ⟨ca10, fa10⟩ := cell1 HKa128.out
            have ltwb0 := lt_of_block HKwb028.out
            obtain ⟨cwb00, fwb00⟩ := cell1 HKwb028.out
            have ltgb0 := lt_of_block HKgb028.out
            obtain ⟨cgb00, fgb00⟩ := cell1 HKgb028.out
            have lthb0 := lt_of_block HKhb028.out
            obtain ⟨chb00, fhb00⟩ := cell1 HKhb028.out
            try go_simp
            refine hK.out _ _ (ca10) (fun hHeld => ?_)
            clear hK K
            try simp only [Act.put, List.setIfInBounds_toArray, List.set_cons_zero, List.set_cons_succ]
            refine wpAnyH_ready (rs := [8]) (by kernel_rfl) (by simp) ?_
            refine AllReadyH.cons rfl (fun K hK => ?_) AllReadyH.nil
            go_simp
            go_at_call 41
            refine (HI.out _ _ _ _ HRhc028.out HRhc128.out HRhc228.out).mono ?_
            rintro e w29 ⟨⟨th0, rfl, ho⟩, hb⟩
            have HB29 : Hid (Below w.heap.size w w29) := Lib.hid (HB28.out.trans (hb.mono HB28.out.size))
            have HZ29 : Hid (w28.heap.size ≤ w29.heap.size) := Lib.hid hb.size
            have HRf029 := Lib.hid (HRf00.out.below HB29.out (Nat.le_refl _))
            have HRf129 := Lib.hid (HRf10.out.below HB29.out (Nat.le_refl _))
            have HRf229 := Lib.hid (HRf20.out.below HB29.out (Nat.le_refl _))
            have HKa129 := Lib.hid ((hb.block _ (lt_of_block HKa128.out)).trans HKa128.out)
            have HKwb029 := Lib.hid ((hb.block _ (lt_of_block HKwb028.out)).trans HKwb028.out)
            have HRw029 := Lib.hid (HRw028.out.below hb (Nat.le_refl _))
            have HOg29 := Lib.hid (HOg28.out.next hb)
            have HKgb029 := Lib.hid ((hb.block _ (lt_of_block HKgb028.out)).trans HKgb028.out)
            have HRhc029 := Lib.hid (HRhc028.out.below hb (Nat.le_refl _))
            have HRhc129 := Lib.hid (HRhc128.out.below hb (Nat.le_refl _))
            have HKhb029 := Lib.hid ((hb.block _ (lt_of_block HKhb028.out)).trans HKhb028.out)
            have HRhc229 := Lib.hid (HRhc228.out.below hb (Nat.le_refl _))
            have HBs5_29 : Hid (Below w5.heap.size w5 w29) := Lib.hid (HBs5_28.out.trans (hb.mono HBs5_28.out.size))
            have HBs23_29 : Hid (Below w23.heap.size w23 w29) := Lib.hid (HBs23_28.out.trans (hb.mono HBs23_28.out.size))
            have HBs25_29 : Hid (Below w25.heap.size w25 w29) := Lib.hid (HBs25_28.out.trans (hb.mono HBs25_28.out.size))
            have HBs26_29 : Hid (Below w26.heap.size w26 w29) := Lib.hid (HBs26_28.out.trans (hb.mono HBs26_28.out.size))
            have HBs28_29 : Hid (Below w28.heap.size w28 w29) := Lib.hid (HBs28_28.out.trans (hb.mono HBs28_28.out.size))
            clear hb
            obtain ⟨ph0, kh0, rfl⟩ := ho.form
            have HOh29 := Lib.hid (ho)
            clear ho
            clear ca10 fa10 lta1 cwb00 fwb00 ltwb0 cgb00 fgb00 ltgb0 chb00 fhb00 lthb0
            have lta1 := lt_of_block HKa129.out
            obtain ⟨ca10, fa10⟩ := cell1 HKa129.out
            have ltwb0 := lt_of_block HKwb029.out
            obtain ⟨cwb00, fwb00⟩ := cell1 HKwb029.out
            have ltgb0 := lt_of_block HKgb029.out
            obtain ⟨cgb00, fgb00⟩ := cell1 HKgb029.out
            have lthb0 := lt_of_block HKhb029.out
            obtain ⟨chb00, fhb00⟩ := cell1 HKhb029.out
            try go_simp
            refine hK.out _ _ (ca10) (fun hHeld => ?_)
            clear hK K
            try simp only [Act.put, List.setIfInBounds_toArray, List.set_cons_zero, List.set_cons_succ]
            refine take1 (i := 9) (v := ?v39) (some 123) rfl rfl (by kernel_rfl) (by kernel_rfl) (by kernel_rfl) (fun _ _ _ h => h) (Or.inl ⟨by rfl, ?y39⟩) (by assumption) ?r39
            case y39 => (intro w hSw; (try dsimp only at hSw); go_simp; (first | done | with_reducible rfl))
            try simp only [Act.put, List.setIfInBounds_toArray, List.set_cons_zero, List.set_cons_succ]
            refine take1 (i := 10) (v := ?v40) (some 133) rfl rfl (by kernel_rfl) (by kernel_rfl) (by kernel_rfl) (fun _ _ _ h => h) (Or.inl ⟨by rfl, ?y40⟩) (by assumption) ?r40
            case y40 => (intro w hSw; (try dsimp only at hSw); go_simp; (first | done | with_reducible rfl))
            try simp only [Act.put, List.setIfInBounds_toArray, List.set_cons_zero, List.set_cons_succ]
            refine take1 (i := 11) (v := ?v41) (some 134) rfl rfl (by kernel_rfl) (by kernel_rfl) (by kernel_rfl) (fun _ _ _ h => h) (Or.inl ⟨by rfl, ?y41⟩) (by assumption) ?r41
            case y41 => (intro w hSw; (try dsimp only at hSw); go_simp; (first | done | with_reducible rfl))
            try simp only [Act.put, List.setIfInBounds_toArray, List.set_cons_zero, List.set_cons_succ]
            refine wpAnyH_ready (rs := [13]) (by kernel_rfl) (by simp) ?_
            refine AllReadyH.cons rfl (fun K hK => ?_) AllReadyH.nil
            go_simp
            have hkb := box1_set HKhb029.out (.slice ph0 qs0.length kh0)
            have hm : Btw w26.heap.size (w26.heap.size + 1) w29 (w29.setCell ⟨w26.heap.size, 0, none⟩ (.slice ph0 qs0.length kh0)) := (Btw.refl (w26.heap.size) (w26.heap.size + 1) w29).setCell (p := ⟨w26.heap.size, 0, none⟩) (Nat.le_refl _) (Nat.lt_succ_self _) _
            generalize w29.setCell ⟨w26.heap.size, 0, none⟩ (.slice ph0 qs0.length kh0) = w30 at hkb hm ⊢
            have HZ30 : Hid (w29.heap.size ≤ w30.heap.size) := Lib.hid hm.size
            have HB30 : Hid (Below w.heap.size w w30) := Lib.hid (HB29.out.trans (hm.below.mono (by have := HZ1.out; have := HZ2.out; have := HZ3.out; have := HZ4.out; have := HZ5.out; have := HZ6.out; have := HZ7.out; have := HZ8.out; have := HZ9.out; have := HZ10.out; have := HZ11.out; have := HZ12.out; have := HZ13.out; have := HZ14.out; have := HZ15.out; have := HZ16.out; have := HZ17.out; have := HZ18.out; have := HZ19.out; have := HZ20.out; have := HZ21.out; have := HZ22.out; have := HZ23.out; have := HZ24.out; have := HZ25.out; have := HZ26.out; have := HZ27.out; have := HZ28.out; have := HZ29.out; have := HB0.out.size; omega)))
            have HRf030 := Lib.hid (HRf00.out.below HB30.out (Nat.le_refl _))
            have HRf130 := Lib.hid (HRf10.out.below HB30.out (Nat.le_refl _))
            have HRf230 := Lib.hid (HRf20.out.below HB30.out (Nat.le_refl _))
            have HKa130 := Lib.hid ((hm.block _ (by have := lt_of_block HKa129.out; have := HZ1.out; have := HZ2.out; have := HZ3.out; have := HZ4.out; have := HZ5.out; have := HZ6.out; have := HZ7.out; have := HZ8.out; have := HZ9.out; have := HZ10.out; have := HZ11.out; have := HZ12.out; have := HZ13.out; have := HZ14.out; have := HZ15.out; have := HZ16.out; have := HZ17.out; have := HZ18.out; have := HZ19.out; have := HZ20.out; have := HZ21.out; have := HZ22.out; have := HZ23.out; have := HZ24.out; have := HZ25.out; have := HZ26.out; have := HZ27.out; have := HZ28.out; have := HZ29.out; omega)).trans HKa129.out)
            have HKwb030 := Lib.hid ((hm.block _ (by have := lt_of_block HKwb029.out; have := HZ1.out; have := HZ2.out; have := HZ3.out; have := HZ4.out; have := HZ5.out; have := HZ6.out; have := HZ7.out; have := HZ8.out; have := HZ9.out; have := HZ10.out; have := HZ11.out; have := HZ12.out; have := HZ13.out; have := HZ14.out; have := HZ15.out; have := HZ16.out; have := HZ17.out; have := HZ18.out; have := HZ19.out; have := HZ20.out; have := HZ21.out; have := HZ22.out; have := HZ23.out; have := HZ24.out; have := HZ25.out; have := HZ26.out; have := HZ27.out; have := HZ28.out; have := HZ29.out; omega)).trans HKwb029.out)
            have HRw030 := Lib.hid (HRw05.out.below (HBs5_29.out.trans (hm.below.mono (by have := HZ1.out; have := HZ2.out; have := HZ3.out; have := HZ4.out; have := HZ5.out; have := HZ6.out; have := HZ7.out; have := HZ8.out; have := HZ9.out; have := HZ10.out; have := HZ11.out; have := HZ12.out; have := HZ13.out; have := HZ14.out; have := HZ15.out; have := HZ16.out; have := HZ17.out; have := HZ18.out; have := HZ19.out; have := HZ20.out; have := HZ21.out; have := HZ22.out; have := HZ23.out; have := HZ24.out; have := HZ25.out; have := HZ26.out; have := HZ27.out; have := HZ28.out; have := HZ29.out; omega))) (Nat.le_refl _))
            have HOg30 := Lib.hid (HOg29.out.btw hm (by have := HZ1.out; have := HZ2.out; have := HZ3.out; have := HZ4.out; have := HZ5.out; have := HZ6.out; have := HZ7.out; have := HZ8.out; have := HZ9.out; have := HZ10.out; have := HZ11.out; have := HZ12.out; have := HZ13.out; have := HZ14.out; have := HZ15.out; have := HZ16.out; have := HZ17.out; have := HZ18.out; have := HZ19.out; have := HZ20.out; have := HZ21.out; have := HZ22.out; have := HZ23.out; have := HZ24.out; have := HZ25.out; have := HZ26.out; have := HZ27.out; have := HZ28.out; have := HZ29.out; omega))
            have HKgb030 := Lib.hid ((hm.block _ (by have := lt_of_block HKgb029.out; have := HZ1.out; have := HZ2.out; have := HZ3.out; have := HZ4.out; have := HZ5.out; have := HZ6.out; have := HZ7.out; have := HZ8.out; have := HZ9.out; have := HZ10.out; have := HZ11.out; have := HZ12.out; have := HZ13.out; have := HZ14.out; have := HZ15.out; have := HZ16.out; have := HZ17.out; have := HZ18.out; have := HZ19.out; have := HZ20.out; have := HZ21.out; have := HZ22.out; have := HZ23.out; have := HZ24.out; have := HZ25.out; have := HZ26.out; have := HZ27.out; have := HZ28.out; have := HZ29.out; omega)).trans HKgb029.out)
            have HOh30 := Lib.hid (HOh29.out.btw hm (by have := HZ1.out; have := HZ2.out; have := HZ3.out; have := HZ4.out; have := HZ5.out; have := HZ6.out; have := HZ7.out; have := HZ8.out; have := HZ9.out; have := HZ10.out; have := HZ11.out; have := HZ12.out; have := HZ13.out; have := HZ14.out; have := HZ15.out; have := HZ16.out; have := HZ17.out; have := HZ18.out; have := HZ19.out; have := HZ20.out; have := HZ21.out; have := HZ22.out; have := HZ23.out; have := HZ24.out; have := HZ25.out; have := HZ26.out; have := HZ27.out; have := HZ28.out; have := HZ29.out; omega))
            have HBs5_30 : Hid (Below w5.heap.size w5 w30) := Lib.hid (HBs5_29.out.trans (hm.below.mono (by have := HZ1.out; have := HZ2.out; have := HZ3.out; have := HZ4.out; have := HZ5.out; have := HZ6.out; have := HZ7.out; have := HZ8.out; have := HZ9.out; have := HZ10.out; have := HZ11.out; have := HZ12.out; have := HZ13.out; have := HZ14.out; have := HZ15.out; have := HZ16.out; have := HZ17.out; have := HZ18.out; have := HZ19.out; have := HZ20.out; have := HZ21.out; have := HZ22.out; have := HZ23.out; have := HZ24.out; have := HZ25.out; have := HZ26.out; have := HZ27.out; have := HZ28.out; have := HZ29.out; omega)))
            have HBs23_30 : Hid (Below w23.heap.size w23 w30) := Lib.hid (HBs23_29.out.trans (hm.below.mono (by have := HZ1.out; have := HZ2.out; have := HZ3.out; have := HZ4.out; have := HZ5.out; have := HZ6.out; have := HZ7.out; have := HZ8.out; have := HZ9.out; have := HZ10.out; have := HZ11.out; have := HZ12.out; have := HZ13.out; have := HZ14.out; have := HZ15.out; have := HZ16.out; have := HZ17.out; have := HZ18.out; have := HZ19.out; have := HZ20.out; have := HZ21.out; have := HZ22.out; have := HZ23.out; have := HZ24.out; have := HZ25.out; have := HZ26.out; have := HZ27.out; have := HZ28.out; have := HZ29.out; omega)))
            clear hm
            have HKhb030 := Lib.hid (hkb)
            clear hkb
            clear ca10 fa10 lta1 cwb00 fwb00 ltwb0 cgb00 fgb00 ltgb0 chb00 fhb00 lthb0
            have lta1 := lt_of_block HKa130.out
            obtain ⟨ca10, fa10⟩ := cell1 HKa130.out
            have ltwb0 := lt_of_block HKwb030.out
            obtain ⟨cwb00, fwb00⟩ := cell1 HKwb030.out
            have ltgb0 := lt_of_block HKgb030.out
            obtain ⟨cgb00, fgb00⟩ := cell1 HKgb030.out
            have lthb0 := lt_of_block HKhb030.out
            obtain ⟨chb00, fhb00⟩ := cell1 HKhb030.out
            refine hK.out _ _ (ca10) (fun hHeld => ?_)
            clear hK K
            try simp only [Act.put]
            refine take1 (i := 14) (v := ?v42) (some 23) rfl rfl (by kernel_rfl) (by kernel_rfl) (by kernel_rfl) (fun _ _ _ h => h) (Or.inl ⟨by rfl, ?y42⟩) (by assumption) ?r42
            case y42 => (intro w hSw; (try dsimp only at hSw); go_simp; (first | done | with_reducible rfl))
            try simp only [Act.put, List.setIfInBounds_toArray, List.set_cons_zero, List.set_cons_succ]
            refine wpAnyH_done (by kernel_rfl) ?_ _
            go_wp2_with fail
            go_meet
            exact ⟨w26.heap.size, ph0, kh0, rfl, rfl, HKhb030.out, HOh30.out.reads, HBs23_30.out⟩
        · go_simp
          have hb : Below w25.heap.size w25 (w25.alloc (.cells #[.slice none 0 0] 34)) := (Below.refl _ _).alloc (Nat.le_refl _) _
          have hk : (w25.alloc (.cells #[.slice none 0 0] 34)).heap[w25.heap.size]? = some (.cells #[.slice none 0 0] 34 (0, 0)) := alloc_at rfl
          have hz : (w25.alloc (.cells #[.slice none 0 0] 34)).heap.size = w25.heap.size + 1 := by simp
          generalize w25.alloc (.cells #[.slice none 0 0] 34) = w26 at hb hk hz ⊢
          have HB26 : Hid (Below w.heap.size w w26) := Lib.hid (HB25.out.trans (hb.mono HB25.out.size))
          have HZ26 : Hid (w25.heap.size ≤ w26.heap.size) := Lib.hid hb.size
          have HRf026 := Lib.hid (HRf00.out.below HB26.out (Nat.le_refl _))
          have HRf126 := Lib.hid (HRf10.out.below HB26.out (Nat.le_refl _))
          have HRf226 := Lib.hid (HRf20.out.below HB26.out (Nat.le_refl _))
          have HKa126 := Lib.hid ((hb.block _ (lt_of_block HKa125.out)).trans HKa125.out)
          have HKwb026 := Lib.hid ((hb.block _ (lt_of_block HKwb025.out)).trans HKwb025.out)
          have HRw026 := Lib.hid (HRw025.out.below hb (Nat.le_refl _))
          have HOg26 := Lib.hid (HOg25.out.next hb)
          have HKgb026 := Lib.hid ((hb.block _ (lt_of_block HKgb025.out)).trans HKgb025.out)
          have HRhc026 := Lib.hid (HRhc025.out.below hb (Nat.le_refl _))
          have HBs5_26 : Hid (Below w5.heap.size w5 w26) := Lib.hid (HBs5_25.out.trans (hb.mono HBs5_25.out.size))
          have HBs23_26 : Hid (Below w23.heap.size w23 w26) := Lib.hid (HBs23_25.out.trans (hb.mono HBs23_25.out.size))
          have HBs25_26 : Hid (Below w25.heap.size w25 w26) := Lib.hid (HBs25_25.out.trans (hb.mono HBs25_25.out.size))
          have HKhb026 := Lib.hid hk
          replace HZ26 : Hid (w25.heap.size < w26.heap.size) := Lib.hid (by omega)
          have HE26 := Lib.hid hz
          clear hb hk hz
          clear ca10 fa10 lta1 cwb00 fwb00 ltwb0 cgb00 fgb00 ltgb0
          have lta1 := lt_of_block HKa126.out
          obtain ⟨ca10, fa10⟩ := cell1 HKa126.out
          have ltwb0 := lt_of_block HKwb026.out
          obtain ⟨cwb00, fwb00⟩ := cell1 HKwb026.out
          have ltgb0 := lt_of_block HKgb026.out
          obtain ⟨cgb00, fgb00⟩ := cell1 HKgb026.out
          have lthb0 := lt_of_block HKhb026.out
          obtain ⟨chb00, fhb00⟩ := cell1 HKhb026.out
          refine hK.out _ _ (ca10) (fun hHeld => ?_)
          clear hK K
          try simp only [Act.put, List.setIfInBounds_toArray, List.set_cons_zero, List.set_cons_succ]
          refine wpAnyH_ready (rs := [3]) (by kernel_rfl) (by simp) ?_
          refine AllReadyH.cons rfl (fun K hK => ?_) AllReadyH.nil
          go_simp
          go_at_call 20
          refine (toAmount_any _ cs1 _ HRf126.out hn1).mono ?_
          rintro e w27 ⟨⟨shc1, rfl, ho⟩, hb⟩
          have HB27 : Hid (Below w.heap.size w w27) := Lib.hid (HB26.out.trans (hb.mono HB26.out.size))
          have HZ27 : Hid (w26.heap.size ≤ w27.heap.size) := Lib.hid hb.size
          have HRf027 := Lib.hid (HRf00.out.below HB27.out (Nat.le_refl _))
          have HRf127 := Lib.hid (HRf10.out.below HB27.out (Nat.le_refl _))
          have HRf227 := Lib.hid (HRf20.out.below HB27.out (Nat.le_refl _))
          have HKa127 := Lib.hid ((hb.block _ (lt_of_block HKa126.out)).trans HKa126.out)
          have HKwb027 := Lib.hid ((hb.block _ (lt_of_block HKwb026.out)).trans HKwb026.out)
          have HRw027 := Lib.hid (HRw026.out.below hb (Nat.le_refl _))
          have HOg27 := Lib.hid (HOg26.out.next hb)
          have HKgb027 := Lib.hid ((hb.block _ (lt_of_block HKgb026.out)).trans HKgb026.out)
          have HRhc027 := Lib.hid (HRhc026.out.below hb (Nat.le_refl _))
          have HKhb027 := Lib.hid ((hb.block _ (lt_of_block HKhb026.out)).trans HKhb026.out)
          have HBs5_27 : Hid (Below w5.heap.size w5 w27) := Lib.hid (HBs5_26.out.trans (hb.mono HBs5_26.out.size))
          have HBs23_27 : Hid (Below w23.heap.size w23 w27) := Lib.hid (HBs23_26.out.trans (hb.mono HBs23_26.out.size))
          have HBs25_27 : Hid (Below w25.heap.size w25 w27) := Lib.hid (HBs25_26.out.trans (hb.mono HBs25_26.out.size))
          clear hb
          obtain ⟨phc1, khc1, rfl⟩ := ho.form
          have HRhc127 := Lib.hid (ho.reads)
          have HBs27_27 : Hid (Below w27.heap.size w27 w27) := Lib.hid (Below.refl _ _)
          clear ho
          clear ca10 fa10 lta1 cwb00 fwb00 ltwb0 cgb00 fgb00 ltgb0 chb00 fhb00 lthb0
          have lta1 := lt_of_block HKa127.out
          obtain ⟨ca10, fa10⟩ := cell1 HKa127.out
          have ltwb0 := lt_of_block HKwb027.out
          obtain ⟨cwb00, fwb00⟩ := cell1 HKwb027.out
          have ltgb0 := lt_of_block HKgb027.out
          obtain ⟨cgb00, fgb00⟩ := cell1 HKgb027.out
          have lthb0 := lt_of_block HKhb027.out
          obtain ⟨chb00, fhb00⟩ := cell1 HKhb027.out
          try go_simp
          refine hK.out _ _ (ca10) (fun hHeld => ?_)
          clear hK K
          try simp only [Act.put, List.setIfInBounds_toArray, List.set_cons_zero, List.set_cons_succ]
          refine wpAnyH_ready (rs := [5]) (by kernel_rfl) (by simp) ?_
          refine AllReadyH.cons rfl (fun K hK => ?_) AllReadyH.nil
          go_simp
          go_at_call 15
          refine (toUnitS_any _ us2 _ HRf227.out hn2).mono ?_
          rintro e w28 ⟨⟨shc2, rfl, ho⟩, hb⟩
          have HB28 : Hid (Below w.heap.size w w28) := Lib.hid (HB27.out.trans (hb.mono HB27.out.size))
          have HZ28 : Hid (w27.heap.size ≤ w28.heap.size) := Lib.hid hb.size
          have HRf028 := Lib.hid (HRf00.out.below HB28.out (Nat.le_refl _))
          have HRf128 := Lib.hid (HRf10.out.below HB28.out (Nat.le_refl _))
          have HRf228 := Lib.hid (HRf20.out.below HB28.out (Nat.le_refl _))
          have HKa128 := Lib.hid ((hb.block _ (lt_of_block HKa127.out)).trans HKa127.out)
          have HKwb028 := Lib.hid ((hb.block _ (lt_of_block HKwb027.out)).trans HKwb027.out)
          have HRw028 := Lib.hid (HRw027.out.below hb (Nat.le_refl _))
          have HOg28 := Lib.hid (HOg27.out.next hb)
          have HKgb028 := Lib.hid ((hb.block _ (lt_of_block HKgb027.out)).trans HKgb027.out)
          have HRhc028 := Lib.hid (HRhc027.out.below hb (Nat.le_refl _))
          have HKhb028 := Lib.hid ((hb.block _ (lt_of_block HKhb027.out)).trans HKhb027.out)
          have HRhc128 := Lib.hid (HRhc127.out.below hb (Nat.le_refl _))
          have HBs5_28 : Hid (Below w5.heap.size w5 w28) := Lib.hid (HBs5_27.out.trans (hb.mono HBs5_27.out.size))
          have HBs23_28 : Hid (Below w23.heap.size w23 w28) := Lib.hid (HBs23_27.out.trans (hb.mono HBs23_27.out.size))
          have HBs25_28 : Hid (Below w25.heap.size w25 w28) := Lib.hid (HBs25_27.out.trans (hb.mono HBs25_27.out.size))
          have HBs27_28 : Hid (Below w27.heap.size w27 w28) := Lib.hid (HBs27_27.out.trans (hb.mono HBs27_27.out.size))
          clear hb
          obtain ⟨phc2, khc2, rfl⟩ := own_form ho
          have HRhc228 := Lib.hid (RowsR.of_own unC_len ho)
          have HBs28_28 : Hid (Below w28.heap.size w28 w28) := Lib.hid (Below.refl _ _)
          clear ho
          clear ca10 fa10 lta1 cwb00 fwb00 ltwb0 cgb00 fgb00 ltgb0 chb00 fhb00 lthb0
          have lta1 := lt_of_block HKa128.out
          obtain ⟨ca10, fa10⟩ := cell1 HKa128.out
          have ltwb0 := lt_of_block HKwb028.out
          obtain ⟨cwb00, fwb00⟩ := cell1 HKwb028.out
          have ltgb0 := lt_of_block HKgb028.out
          obtain ⟨cgb00, fgb00⟩ := cell1 HKgb028.out
          have lthb0 := lt_of_block HKhb028.out
          obtain ⟨chb00, fhb00⟩ := cell1 HKhb028.out
          try go_simp
          refine hK.out _ _ (ca10) (fun hHeld => ?_)
          clear hK K
          try simp only [Act.put, List.setIfInBounds_toArray, List.set_cons_zero, List.set_cons_succ]
          refine wpAnyH_ready (rs := [8]) (by kernel_rfl) (by simp) ?_
          refine AllReadyH.cons rfl (fun K hK => ?_) AllReadyH.nil
          go_simp
          go_at_call 41
          refine (HI.out _ _ _ _ HRhc028.out HRhc128.out HRhc228.out).mono ?_
          rintro e w29 ⟨⟨th0, rfl, ho⟩, hb⟩
          have HB29 : Hid (Below w.heap.size w w29) := Lib.hid (HB28.out.trans (hb.mono HB28.out.size))
          have HZ29 : Hid (w28.heap.size ≤ w29.heap.size) := Lib.hid hb.size
          have HRf029 := Lib.hid (HRf00.out.below HB29.out (Nat.le_refl _))
          have HRf129 := Lib.hid (HRf10.out.below HB29.out (Nat.le_refl _))
          have HRf229 := Lib.hid (HRf20.out.below HB29.out (Nat.le_refl _))
          have HKa129 := Lib.hid ((hb.block _ (lt_of_block HKa128.out)).trans HKa128.out)
          have HKwb029 := Lib.hid ((hb.block _ (lt_of_block HKwb028.out)).trans HKwb028.out)
          have HRw029 := Lib.hid (HRw028.out.below hb (Nat.le_refl _))
          have HOg29 := Lib.hid (HOg28.out.next hb)
          have HKgb029 := Lib.hid ((hb.block _ (lt_of_block HKgb028.out)).trans HKgb028.out)
          have HRhc029 := Lib.hid (HRhc028.out.below hb (Nat.le_refl _))
          have HKhb029 := Lib.hid ((hb.block _ (lt_of_block HKhb028.out)).trans HKhb028.out)
          have HRhc129 := Lib.hid (HRhc128.out.below hb (Nat.le_refl _))
          have HRhc229 := Lib.hid (HRhc228.out.below hb (Nat.le_refl _))
          have HBs5_29 : Hid (Below w5.heap.size w5 w29) := Lib.hid (HBs5_28.out.trans (hb.mono HBs5_28.out.size))
          have HBs23_29 : Hid (Below w23.heap.size w23 w29) := Lib.hid (HBs23_28.out.trans (hb.mono HBs23_28.out.size))
          have HBs25_29 : Hid (Below w25.heap.size w25 w29) := Lib.hid (HBs25_28.out.trans (hb.mono HBs25_28.out.size))
          have HBs27_29 : Hid (Below w27.heap.size w27 w29) := Lib.hid (HBs27_28.out.trans (hb.mono HBs27_28.out.size))
          have HBs28_29 : Hid (Below w28.heap.size w28 w29) := Lib.hid (HBs28_28.out.trans (hb.mono HBs28_28.out.size))
          clear hb
          obtain ⟨ph0, kh0, rfl⟩ := ho.form
          have HOh29 := Lib.hid (ho)
          clear ho
          clear ca10 fa10 lta1 cwb00 fwb00 ltwb0 cgb00 fgb00 ltgb0 chb00 fhb00 lthb0
          have lta1 := lt_of_block HKa129.out
          obtain ⟨ca10, fa10⟩ := cell1 HKa129.out
          have ltwb0 := lt_of_block HKwb029.out
          obtain ⟨cwb00, fwb00⟩ := cell1 HKwb029.out
          have ltgb0 := lt_of_block HKgb029.out
          obtain ⟨cgb00, fgb00⟩ := cell1 HKgb029.out
          have lthb0 := lt_of_block HKhb029.out
          obtain ⟨chb00, fhb00⟩ := cell1 HKhb029.out
          try go_simp
          refine hK.out _ _ (ca10) (fun hHeld => ?_)
          clear hK K
          try simp only [Act.put, List.setIfInBounds_toArray, List.set_cons_zero, List.set_cons_succ]
          refine take1 (i := 9) (v := ?v43) (some 123) rfl rfl (by kernel_rfl) (by kernel_rfl) (by kernel_rfl) (fun _ _ _ h => h) (Or.inl ⟨by rfl, ?y43⟩) (by assumption) ?r43
          case y43 => (intro w hSw; (try dsimp only at hSw); go_simp; (first | done | with_reducible rfl))
          try simp only [Act.put, List.setIfInBounds_toArray, List.set_cons_zero, List.set_cons_succ]
          refine take1 (i := 10) (v := ?v44) (some 133) rfl rfl (by kernel_rfl) (by kernel_rfl) (by kernel_rfl) (fun _ _ _ h => h) (Or.inl ⟨by rfl, ?y44⟩) (by assumption) ?r44
          case y44 => (intro w hSw; (try dsimp only at hSw); go_simp; (first | done | with_reducible rfl))
          try simp only [Act.put, List.setIfInBounds_toArray, List.set_cons_zero, List.set_cons_succ]
          refine take1 (i := 11) (v := ?v45) (some 134) rfl rfl (by kernel_rfl) (by kernel_rfl) (by kernel_rfl) (fun _ _ _ h => h) (Or.inl ⟨by rfl, ?y45⟩) (by assumption) ?r45
          case y45 => (intro w hSw; (try dsimp only at hSw); go_simp; (first | done | with_reducible rfl))
          try simp only [Act.put, List.setIfInBounds_toArray, List.set_cons_zero, List.set_cons_succ]
          refine wpAnyH_ready (rs := [13]) (by kernel_rfl) (by simp) ?_
          refine AllReadyH.cons rfl (fun K hK => ?_) AllReadyH.nil
          go_simp
          have hkb := box1_set HKhb029.out (.slice ph0 qs0.length kh0)
          have hm : Btw w25.heap.size (w25.heap.size + 1) w29 (w29.setCell ⟨w25.heap.size, 0, none⟩ (.slice ph0 qs0.length kh0)) := (Btw.refl (w25.heap.size) (w25.heap.size + 1) w29).setCell (p := ⟨w25.heap.size, 0, none⟩) (Nat.le_refl _) (Nat.lt_succ_self _) _
          generalize w29.setCell ⟨w25.heap.size, 0, none⟩ (.slice ph0 qs0.length kh0) = w30 at hkb hm ⊢
          have HZ30 : Hid (w29.heap.size ≤ w30.heap.size) := Lib.hid hm.size
          have HB30 : Hid (Below w.heap.size w w30) := Lib.hid (HB29.out.trans (hm.below.mono (by have := HZ1.out; have := HZ2.out; have := HZ3.out; have := HZ4.out; have := HZ5.out; have := HZ6.out; have := HZ7.out; have := HZ8.out; have := HZ9.out; have := HZ10.out; have := HZ11.out; have := HZ12.out; have := HZ13.out; have := HZ14.out; have := HZ15.out; have := HZ16.out; have := HZ17.out; have := HZ18.out; have := HZ19.out; have := HZ20.out; have := HZ21.out; have := HZ22.out; have := HZ23.out; have := HZ24.out; have := HZ25.out; have := HZ26.out; have := HZ27.out; have := HZ28.out; have := HZ29.out; have := HB0.out.size; omega)))
          have HRf030 := Lib.hid (HRf00.out.below HB30.out (Nat.le_refl _))
          have HRf130 := Lib.hid (HRf10.out.below HB30.out (Nat.le_refl _))
          have HRf230 := Lib.hid (HRf20.out.below HB30.out (Nat.le_refl _))
          have HKa130 := Lib.hid ((hm.block _ (by have := lt_of_block HKa129.out; have := HZ1.out; have := HZ2.out; have := HZ3.out; have := HZ4.out; have := HZ5.out; have := HZ6.out; have := HZ7.out; have := HZ8.out; have := HZ9.out; have := HZ10.out; have := HZ11.out; have := HZ12.out; have := HZ13.out; have := HZ14.out; have := HZ15.out; have := HZ16.out; have := HZ17.out; have := HZ18.out; have := HZ19.out; have := HZ20.out; have := HZ21.out; have := HZ22.out; have := HZ23.out; have := HZ24.out; have := HZ25.out; have := HZ26.out; have := HZ27.out; have := HZ28.out; have := HZ29.out; omega)).trans HKa129.out)
          have HKwb030 := Lib.hid ((hm.block _ (by have := lt_of_block HKwb029.out; have := HZ1.out; have := HZ2.out; have := HZ3.out; have := HZ4.out; have := HZ5.out; have := HZ6.out; have := HZ7.out; have := HZ8.out; have := HZ9.out; have := HZ10.out; have := HZ11.out; have := HZ12.out; have := HZ13.out; have := HZ14.out; have := HZ15.out; have := HZ16.out; have := HZ17.out; have := HZ18.out; have := HZ19.out; have := HZ20.out; have := HZ21.out; have := HZ22.out; have := HZ23.out; have := HZ24.out; have := HZ25.out; have := HZ26.out; have := HZ27.out; have := HZ28.out; have := HZ29.out; omega)).trans HKwb029.out)
          have HRw030 := Lib.hid (HRw05.out.below (HBs5_29.out.trans (hm.below.mono (by have := HZ1.out; have := HZ2.out; have := HZ3.out; have := HZ4.out; have := HZ5.out; have := HZ6.out; have := HZ7.out; have := HZ8.out; have := HZ9.out; have := HZ10.out; have := HZ11.out; have := HZ12.out; have := HZ13.out; have := HZ14.out; have := HZ15.out; have := HZ16.out; have := HZ17.out; have := HZ18.out; have := HZ19.out; have := HZ20.out; have := HZ21.out; have := HZ22.out; have := HZ23.out; have := HZ24.out; have := HZ25.out; have := HZ26.out; have := HZ27.out; have := HZ28.out; have := HZ29.out; omega))) (Nat.le_refl _))
          have HOg30 := Lib.hid (HOg29.out.btw hm (by have := HZ1.out; have := HZ2.out; have := HZ3.out; have := HZ4.out; have := HZ5.out; have := HZ6.out; have := HZ7.out; have := HZ8.out; have := HZ9.out; have := HZ10.out; have := HZ11.out; have := HZ12.out; have := HZ13.out; have := HZ14.out; have := HZ15.out; have := HZ16.out; have := HZ17.out; have := HZ18.out; have := HZ19.out; have := HZ20.out; have := HZ21.out; have := HZ22.out; have := HZ23.out; have := HZ24.out; have := HZ25.out; have := HZ26.out; have := HZ27.out; have := HZ28.out; have := HZ29.out; omega))
          have HKgb030 := Lib.hid ((hm.block _ (by have := lt_of_block HKgb029.out; have := HZ1.out; have := HZ2.out; have := HZ3.out; have := HZ4.out; have := HZ5.out; have := HZ6.out; have := HZ7.out; have := HZ8.out; have := HZ9.out; have := HZ10.out; have := HZ11.out; have := HZ12.out; have := HZ13.out; have := HZ14.out; have := HZ15.out; have := HZ16.out; have := HZ17.out; have := HZ18.out; have := HZ19.out; have := HZ20.out; have := HZ21.out; have := HZ22.out; have := HZ23.out; have := HZ24.out; have := HZ25.out; have := HZ26.out; have := HZ27.out; have := HZ28.out; have := HZ29.out; omega)).trans HKgb029.out)
          have HOh30 := Lib.hid (HOh29.out.btw hm (by have := HZ1.out; have := HZ2.out; have := HZ3.out; have := HZ4.out; have := HZ5.out; have := HZ6.out; have := HZ7.out; have := HZ8.out; have := HZ9.out; have := HZ10.out; have := HZ11.out; have := HZ12.out; have := HZ13.out; have := HZ14.out; have := HZ15.out; have := HZ16.out; have := HZ17.out; have := HZ18.out; have := HZ19.out; have := HZ20.out; have := HZ21.out; have := HZ22.out; have := HZ23.out; have := HZ24.out; have := HZ25.out; have := HZ26.out; have := HZ27.out; have := HZ28.out; have := HZ29.out; omega))
          have HBs5_30 : Hid (Below w5.heap.size w5 w30) := Lib.hid (HBs5_29.out.trans (hm.below.mono (by have := HZ1.out; have := HZ2.out; have := HZ3.out; have := HZ4.out; have := HZ5.out; have := HZ6.out; have := HZ7.out; have := HZ8.out; have := HZ9.out; have := HZ10.out; have := HZ11.out; have := HZ12.out; have := HZ13.out; have := HZ14.out; have := HZ15.out; have := HZ16.out; have := HZ17.out; have := HZ18.out; have := HZ19.out; have := HZ20.out; have := HZ21.out; have := HZ22.out; have := HZ23.out; have := HZ24.out; have := HZ25.out; have := HZ26.out; have := HZ27.out; have := HZ28.out; have := HZ29.out; omega)))
          have HBs23_30 : Hid (Below w23.heap.size w23 w30) := Lib.hid (HBs23_29.out.trans (hm.below.mono (by have := HZ1.out; have := HZ2.out; have := HZ3.out; have := HZ4.out; have := HZ5.out; have := HZ6.out; have := HZ7.out; have := HZ8.out; have := HZ9.out; have := HZ10.out; have := HZ11.out; have := HZ12.out; have := HZ13.out; have := HZ14.out; have := HZ15.out; have := HZ16.out; have := HZ17.out; have := HZ18.out; have := HZ19.out; have := HZ20.out; have := HZ21.out; have := HZ22.out; have := HZ23.out; have := HZ24.out; have := HZ25.out; have := HZ26.out; have := HZ27.out; have := HZ28.out; have := HZ29.out; omega)))
          clear hm
          have HKhb030 := Lib.hid (hkb)
          clear hkb
          clear ca10 fa10 lta1 cwb00 fwb00 ltwb0 cgb00 fgb00 ltgb0 chb00 fhb00 lthb0
          have lta1 := lt_of_block HKa130.out
          obtain ⟨ca10, fa10⟩ := cell1 HKa130.out
          have ltwb0 := lt_of_block HKwb030.out
          obtain ⟨cwb00, fwb00⟩ := cell1 HKwb030.out
          have ltgb0 := lt_of_block HKgb030.out
          obtain ⟨cgb00, fgb00⟩ := cell1 HKgb030.out
          have lthb0 := lt_of_block HKhb030.out
          obtain ⟨chb00, fhb00⟩ := cell1 HKhb030.out
          refine hK.out _ _ (ca10) (fun hHeld => ?_)
          clear hK K
          try simp only [Act.put]
          refine take1 (i := 14) (v := ?v46) (some 23) rfl rfl (by kernel_rfl) (by kernel_rfl) (by kernel_rfl) (fun _ _ _ h => h) (Or.inl ⟨by rfl, ?y46⟩) (by assumption) ?r46
          case y46 => (intro w hSw; (try dsimp only at hSw); go_simp; (first | done | with_reducible rfl))
          try simp only [Act.put, List.setIfInBounds_toArray, List.set_cons_zero, List.set_cons_succ]
          refine wpAnyH_done (by kernel_rfl) ?_ _
          go_wp2_with fail
          go_meet
          exact ⟨w25.heap.size, ph0, kh0, rfl, rfl, HKhb030.out, HOh30.out.reads, HBs23_30.out⟩
      · go_simp
        have hb : Below w24.heap.size w24 (w24.alloc (.cells #[.slice none 0 0] 34)) := (Below.refl _ _).alloc (Nat.le_refl _) _
        have hk : (w24.alloc (.cells #[.slice none 0 0] 34)).heap[w24.heap.size]? = some (.cells #[.slice none 0 0] 34 (0, 0)) := alloc_at rfl
        have hz : (w24.alloc (.cells #[.slice none 0 0] 34)).heap.size = w24.heap.size + 1 := by simp
        generalize w24.alloc (.cells #[.slice none 0 0] 34) = w25 at hb hk hz ⊢
        have HB25 : Hid (Below w.heap.size w w25) := Lib.hid (HB24.out.trans (hb.mono HB24.out.size))
        have HZ25 : Hid (w24.heap.size ≤ w25.heap.size) := Lib.hid hb.size
        have HRf025 := Lib.hid (HRf00.out.below HB25.out (Nat.le_refl _))
        have HRf125 := Lib.hid (HRf10.out.below HB25.out (Nat.le_refl _))
        have HRf225 := Lib.hid (HRf20.out.below HB25.out (Nat.le_refl _))
        have HKa125 := Lib.hid ((hb.block _ (lt_of_block HKa124.out)).trans HKa124.out)
        have HKwb025 := Lib.hid ((hb.block _ (lt_of_block HKwb024.out)).trans HKwb024.out)
        have HRw025 := Lib.hid (HRw024.out.below hb (Nat.le_refl _))
        have HOg25 := Lib.hid (HOg24.out.next hb)
        have HKgb025 := Lib.hid ((hb.block _ (lt_of_block HKgb024.out)).trans HKgb024.out)
        have HBs5_25 : Hid (Below w5.heap.size w5 w25) := Lib.hid (HBs5_24.out.trans (hb.mono HBs5_24.out.size))
        have HBs23_25 : Hid (Below w23.heap.size w23 w25) := Lib.hid (HBs23_24.out.trans (hb.mono HBs23_24.out.size))
        have HKhb025 := Lib.hid hk
        replace HZ25 : Hid (w24.heap.size < w25.heap.size) := Lib.hid (by omega)
        have HE25 := Lib.hid hz
        clear hb hk hz
        clear ca10 fa10 lta1 cwb00 fwb00 ltwb0 cgb00 fgb00 ltgb0
        have lta1 := lt_of_block HKa125.out
        obtain ⟨ca10, fa10⟩ := cell1 HKa125.out
        have ltwb0 := lt_of_block HKwb025.out
        obtain ⟨cwb00, fwb00⟩ := cell1 HKwb025.out
        have ltgb0 := lt_of_block HKgb025.out
        obtain ⟨cgb00, fgb00⟩ := cell1 HKgb025.out
        have lthb0 := lt_of_block HKhb025.out
        obtain ⟨chb00, fhb00⟩ := cell1 HKhb025.out
        refine hK.out _ _ (ca10) (fun hHeld => ?_)
        clear hK K
        try simp only [Act.put, List.setIfInBounds_toArray, List.set_cons_zero, List.set_cons_succ]
        refine wpAnyH_ready (rs := [1]) (by kernel_rfl) (by simp) ?_
        refine AllReadyH.cons rfl (fun K hK => ?_) AllReadyH.nil
        go_simp
        go_at_call 15
        refine (toUnitS_any _ us0 _ HRf025.out hn0).mono ?_
        rintro e w26 ⟨⟨shc0, rfl, ho⟩, hb⟩
        have HB26 : Hid (Below w.heap.size w w26) := Lib.hid (HB25.out.trans (hb.mono HB25.out.size))
        have HZ26 : Hid (w25.heap.size ≤ w26.heap.size) := Lib.hid hb.size
        have HRf026 := Lib.hid (HRf00.out.below HB26.out (Nat.le_refl _))
        have HRf126 := Lib.hid (HRf10.out.below HB26.out (Nat.le_refl _))
        have HRf226 := Lib.hid (HRf20.out.below HB26.out (Nat.le_refl _))
        have HKa126 := Lib.hid ((hb.block _ (lt_of_block HKa125.out)).trans HKa125.out)
        have HKwb026 := Lib.hid ((hb.block _ (lt_of_block HKwb025.out)).trans HKwb025.out)
        have HRw026 := Lib.hid (HRw025.out.below hb (Nat.le_refl _))
        have HOg26 := Lib.hid (HOg25.out.next hb)
        have HKgb026 := Lib.hid ((hb.block _ (lt_of_block HKgb025.out)).trans HKgb025.out)
        have HKhb026 := Lib.hid ((hb.block _ (lt_of_block HKhb025.out)).trans HKhb025.out)
        have HBs5_26 : Hid (Below w5.heap.size w5 w26) := Lib.hid (HBs5_25.out.trans (hb.mono HBs5_25.out.size))
        have HBs23_26 : Hid (Below w23.heap.size w23 w26) := Lib.hid (HBs23_25.out.trans (hb.mono HBs23_25.out.size))
        clear hb
        obtain ⟨phc0, khc0, rfl⟩ := own_form ho
        have HRhc026 := Lib.hid (RowsR.of_own unC_len ho)
        have HBs26_26 : Hid (Below w26.heap.size w26 w26) := Lib.hid (Below.refl _ _)
        clear ho
        clear ca10 fa10 lta1 cwb00 fwb00 ltwb0 cgb00 fgb00 ltgb0 chb00 fhb00 lthb0
        have lta1 := lt_of_block HKa126.out
        obtain ⟨ca10, fa10⟩ := cell1 HKa126.out
        have ltwb0 := lt_of_block HKwb026.out
        obtain ⟨cwb00, fwb00⟩ := cell1 HKwb026.out
        have ltgb0 := lt_of_block HKgb026.out
        obtain ⟨cgb00, fgb00⟩ := cell1 HKgb026.out
        have lthb0 := lt_of_block HKhb026.out
        obtain ⟨chb00, fhb00⟩ := cell1 HKhb026.out
        try go_simp
        refine hK.out _ _ (ca10) (fun hHeld => ?_)
        clear hK K
        try simp only [Act.put, List.setIfInBounds_toArray, List.set_cons_zero, List.set_cons_succ]
        refine wpAnyH_ready (rs := [3]) (by kernel_rfl) (by simp) ?_
        refine AllReadyH.cons rfl (fun K hK => ?_) AllReadyH.nil
        go_simp
        go_at_call 20
        refine (toAmount_any _ cs1 _ HRf126.out hn1).mono ?_
        rintro e w27 ⟨⟨shc1, rfl, ho⟩, hb⟩
        have HB27 : Hid (Below w.heap.size w w27) := Lib.hid (HB26.out.trans (hb.mono HB26.out.size))
        have HZ27 : Hid (w26.heap.size ≤ w27.heap.size) := Lib.hid hb.size
        have HRf027 := Lib.hid (HRf00.out.below HB27.out (Nat.le_refl _))
        have HRf127 := Lib.hid (HRf10.out.below HB27.out (Nat.le_refl _))
        have HRf227 := Lib.hid (HRf20.out.below HB27.out (Nat.le_refl _))
        have HKa127 := Lib.hid ((hb.block _ (lt_of_block HKa126.out)).trans HKa126.out)
        have HKwb027 := Lib.hid ((hb.block _ (lt_of_block HKwb026.out)).trans HKwb026.out)
        have HRw027 := Lib.hid (HRw026.out.below hb (Nat.le_refl _))
        have HOg27 := Lib.hid (HOg26.out.next hb)
        have HKgb027 := Lib.hid ((hb.block _ (lt_of_block HKgb026.out)).trans HKgb026.out)
        have HKhb027 := Lib.hid ((hb.block _ (lt_of_block HKhb026.out)).trans HKhb026.out)
        have HRhc027 := Lib.hid (HRhc026.out.below hb (Nat.le_refl _))
        have HBs5_27 : Hid (Below w5.heap.size w5 w27) := Lib.hid (HBs5_26.out.trans (hb.mono HBs5_26.out.size))
        have HBs23_27 : Hid (Below w23.heap.size w23 w27) := Lib.hid (HBs23_26.out.trans (hb.mono HBs23_26.out.size))
        have HBs26_27 : Hid (Below w26.heap.size w26 w27) := Lib.hid (HBs26_26.out.trans (hb.mono HBs26_26.out.size))
        clear hb
        obtain ⟨phc1, khc1, rfl⟩ := ho.form
        have HRhc127 := Lib.hid (ho.reads)
        have HBs27_27 : Hid (Below w27.heap.size w27 w27) := Lib.hid (Below.refl _ _)
        clear ho
        clear ca10 fa10 lta1 cwb00 fwb00 ltwb0 cgb00 fgb00 ltgb0 chb00 fhb00 lthb0
        have lta1 := lt_of_block HKa127.out
        obtain ⟨ca10, fa10⟩ := cell1 HKa127.out
        have ltwb0 := lt_of_block HKwb027.out
        obtain ⟨cwb00, fwb00⟩ := cell1 HKwb027.out
        have ltgb0 := lt_of_block HKgb027.out
        obtain ⟨cgb00, fgb00⟩ := cell1 HKgb027.out
        have lthb0 := lt_of_block HKhb027.out
        obtain ⟨chb00, fhb00⟩ := cell1 HKhb027.out
        try go_simp
        refine hK.out _ _ (ca10) (fun hHeld => ?_)
        clear hK K
        try simp only [Act.put, List.setIfInBounds_toArray, List.set_cons_zero, List.set_cons_succ]
        refine wpAnyH_ready (rs := [5]) (by kernel_rfl) (by simp) ?_
        refine AllReadyH.cons rfl (fun K hK => ?_) AllReadyH.nil
        go_simp
        go_at_call 15
        refine (toUnitS_any _ us2 _ HRf227.out hn2).mono ?_
        rintro e w28 ⟨⟨shc2, rfl, ho⟩, hb⟩
        have HB28 : Hid (Below w.heap.size w w28) := Lib.hid (HB27.out.trans (hb.mono HB27.out.size))
        have HZ28 : Hid (w27.heap.size ≤ w28.heap.size) := Lib.hid hb.size
        have HRf028 := Lib.hid (HRf00.out.below HB28.out (Nat.le_refl _))
        have HRf128 := Lib.hid (HRf10.out.below HB28.out (Nat.le_refl _))
        have HRf228 := Lib.hid (HRf20.out.below HB28.out (Nat.le_refl _))
        have HKa128 := Lib.hid ((hb.block _ (lt_of_block HKa127.out)).trans HKa127.out)
        have HKwb028 := Lib.hid ((hb.block _ (lt_of_block HKwb027.out)).trans HKwb027.out)
        have HRw028 := Lib.hid (HRw027.out.below hb (Nat.le_refl _))
        have HOg28 := Lib.hid (HOg27.out.next hb)
        have HKgb028 := Lib.hid ((hb.block _ (lt_of_block HKgb027.out)).trans HKgb027.out)
        have HKhb028 := Lib.hid ((hb.block _ (lt_of_block HKhb027.out)).trans HKhb027.out)
        have HRhc028 := Lib.hid (HRhc027.out.below hb (Nat.le_refl _))
        have HRhc128 := Lib.hid (HRhc127.out.below hb (Nat.le_refl _))
        have HBs5_28 : Hid (Below w5.heap.size w5 w28) := Lib.hid (HBs5_27.out.trans (hb.mono HBs5_27.out.size))
        have HBs23_28 : Hid (Below w23.heap.size w23 w28) := Lib.hid (HBs23_27.out.trans (hb.mono HBs23_27.out.size))
        have HBs26_28 : Hid (Below w26.heap.size w26 w28) := Lib.hid (HBs26_27.out.trans (hb.mono HBs26_27.out.size))
        have HBs27_28 : Hid (Below w27.heap.size w27 w28) := Lib.hid (HBs27_27.out.trans (hb.mono HBs27_27.out.size))
        clear hb
        obtain ⟨phc2, khc2, rfl⟩ := own_form ho
        have HRhc228 := Lib.hid (RowsR.of_own unC_len ho)
        have HBs28_28 : Hid (Below w28.heap.size w28 w28) := Lib.hid (Below.refl _ _)
        clear ho
        clear ca10 fa10 lta1 cwb00 fwb00 ltwb0 cgb00 fgb00 ltgb0 chb00 fhb00 lthb0
        have lta1 := lt_of_block HKa128.out
        obtain ⟨ca10, fa10⟩ := cell1 HKa128.out
        have ltwb0 := lt_of_block HKwb028.out
        obtain ⟨cwb00, fwb00⟩ := cell1 HKwb028.out
        have ltgb0 := lt_of_block HKgb028.out
        obtain ⟨cgb00, fgb00⟩ := cell1 HKgb028.out
        have lthb0 := lt_of_block HKhb028.out
        obtain ⟨chb00, fhb00⟩ := cell1 HKhb028.out
        try go_simp
        refine hK.out _ _ (ca10) (fun hHeld => ?_)
        clear hK K
        try simp only [Act.put, List.setIfInBounds_toArray, List.set_cons_zero, List.set_cons_succ]
        refine wpAnyH_ready (rs := [8]) (by kernel_rfl) (by simp) ?_
        refine AllReadyH.cons rfl (fun K hK => ?_) AllReadyH.nil
        go_simp
        go_at_call 41
        refine (HI.out _ _ _ _ HRhc028.out HRhc128.out HRhc228.out).mono ?_
        rintro e w29 ⟨⟨th0, rfl, ho⟩, hb⟩
        have HB29 : Hid (Below w.heap.size w w29) := Lib.hid (HB28.out.trans (hb.mono HB28.out.size))
        have HZ29 : Hid (w28.heap.size ≤ w29.heap.size) := Lib.hid hb.size
        have HRf029 := Lib.hid (HRf00.out.below HB29.out (Nat.le_refl _))
        have HRf129 := Lib.hid (HRf10.out.below HB29.out (Nat.le_refl _))
        have HRf229 := Lib.hid (HRf20.out.below HB29.out (Nat.le_refl _))
        have HKa129 := Lib.hid ((hb.block _ (lt_of_block HKa128.out)).trans HKa128.out)
        have HKwb029 := Lib.hid ((hb.block _ (lt_of_block HKwb028.out)).trans HKwb028.out)
        have HRw029 := Lib.hid (HRw028.out.below hb (Nat.le_refl _))
        have HOg29 := Lib.hid (HOg28.out.next hb)
        have HKgb029 := Lib.hid ((hb.block _ (lt_of_block HKgb028.out)).trans HKgb028.out)
        have HKhb029 := Lib.hid ((hb.block _ (lt_of_block HKhb028.out)).trans HKhb028.out)
        have HRhc029 := Lib.hid (HRhc028.out.below hb (Nat.le_refl _))
        have HRhc129 := Lib.hid (HRhc128.out.below hb (Nat.le_refl _))
        have HRhc229 := Lib.hid (HRhc228.out.below hb (Nat.le_refl _))
        have HBs5_29 : Hid (Below w5.heap.size w5 w29) := Lib.hid (HBs5_28.out.trans (hb.mono HBs5_28.out.size))
        have HBs23_29 : Hid (Below w23.heap.size w23 w29) := Lib.hid (HBs23_28.out.trans (hb.mono HBs23_28.out.size))
        have HBs26_29 : Hid (Below w26.heap.size w26 w29) := Lib.hid (HBs26_28.out.trans (hb.mono HBs26_28.out.size))
        have HBs27_29 : Hid (Below w27.heap.size w27 w29) := Lib.hid (HBs27_28.out.trans (hb.mono HBs27_28.out.size))
        have HBs28_29 : Hid (Below w28.heap.size w28 w29) := Lib.hid (HBs28_28.out.trans (hb.mono HBs28_28.out.size))
        clear hb
        obtain ⟨ph0, kh0, rfl⟩ := ho.form
        have HOh29 := Lib.hid (ho)
        clear ho
        clear ca10 fa10 lta1 cwb00 fwb00 ltwb0 cgb00 fgb00 ltgb0 chb00 fhb00 lthb0
        have lta1 := lt_of_block HKa129.out
        obtain ⟨ca10, fa10⟩ := cell1 HKa129.out
        have ltwb0 := lt_of_block HKwb029.out
        obtain ⟨cwb00, fwb00⟩ := cell1 HKwb029.out
        have ltgb0 := lt_of_block HKgb029.out
        obtain ⟨cgb00, fgb00⟩ := cell1 HKgb029.out
        have lthb0 := lt_of_block HKhb029.out
        obtain ⟨chb00, fhb00⟩ := cell1 HKhb029.out
        try go_simp
        refine hK.out _ _ (ca10) (fun hHeld => ?_)
        clear hK K
        try simp only [Act.put, List.setIfInBounds_toArray, List.set_cons_zero, List.set_cons_succ]
        refine take1 (i := 9) (v := ?v47) (some 123) rfl rfl (by kernel_rfl) (by kernel_rfl) (by kernel_rfl) (fun _ _ _ h => h) (Or.inl ⟨by rfl, ?y47⟩) (by assumption) ?r47
        case y47 => (intro w hSw; (try dsimp only at hSw); go_simp; (first | done | with_reducible rfl))
        try simp only [Act.put, List.setIfInBounds_toArray, List.set_cons_zero, List.set_cons_succ]
        refine take1 (i := 10) (v := ?v48) (some 133) rfl rfl (by kernel_rfl) (by kernel_rfl) (by kernel_rfl) (fun _ _ _ h => h) (Or.inl ⟨by rfl, ?y48⟩) (by assumption) ?r48
        case y48 => (intro w hSw; (try dsimp only at hSw); go_simp; (first | done | with_reducible rfl))
        try simp only [Act.put, List.setIfInBounds_toArray, List.set_cons_zero, List.set_cons_succ]
        refine take1 (i := 11) (v := ?v49) (some 134) rfl rfl (by kernel_rfl) (by kernel_rfl) (by kernel_rfl) (fun _ _ _ h => h) (Or.inl ⟨by rfl, ?y49⟩) (by assumption) ?r49
        case y49 => (intro w hSw; (try dsimp only at hSw); go_simp; (first | done | with_reducible rfl))
        try simp only [Act.put, List.setIfInBounds_toArray, List.set_cons_zero, List.set_cons_succ]
        refine wpAnyH_ready (rs := [13]) (by kernel_rfl) (by simp) ?_
        refine AllReadyH.cons rfl (fun K hK => ?_) AllReadyH.nil
        go_simp
        have hkb := box1_set HKhb029.out (.slice ph0 qs0.length kh0)
        have hm : Btw w24.heap.size (w24.heap.size + 1) w29 (w29.setCell ⟨w24.heap.size, 0, none⟩ (.slice ph0 qs0.length kh0)) := (Btw.refl (w24.heap.size) (w24.heap.size + 1) w29).setCell (p := ⟨w24.heap.size, 0, none⟩) (Nat.le_refl _) (Nat.lt_succ_self _) _
        generalize w29.setCell ⟨w24.heap.size, 0, none⟩ (.slice ph0 qs0.length kh0) = w30 at hkb hm ⊢
        have HZ30 : Hid (w29.heap.size ≤ w30.heap.size) := Lib.hid hm.size
        have HB30 : Hid (Below w.heap.size w w30) := Lib.hid (HB29.out.trans (hm.below.mono (by have := HZ1.out; have := HZ2.out; have := HZ3.out; have := HZ4.out; have := HZ5.out; have := HZ6.out; have := HZ7.out; have := HZ8.out; have := HZ9.out; have := HZ10.out; have := HZ11.out; have := HZ12.out; have := HZ13.out; have := HZ14.out; have := HZ15.out; have := HZ16.out; have := HZ17.out; have := HZ18.out; have := HZ19.out; have := HZ20.out; have := HZ21.out; have := HZ22.out; have := HZ23.out; have := HZ24.out; have := HZ25.out; have := HZ26.out; have := HZ27.out; have := HZ28.out; have := HZ29.out; have := HB0.out.size; omega)))
        have HRf030 := Lib.hid (HRf00.out.below HB30.out (Nat.le_refl _))
        have HRf130 := Lib.hid (HRf10.out.below HB30.out (Nat.le_refl _))
        have HRf230 := Lib.hid (HRf20.out.below HB30.out (Nat.le_refl _))
        have HKa130 := Lib.hid ((hm.block _ (by have := lt_of_block HKa129.out; have := HZ1.out; have := HZ2.out; have := HZ3.out; have := HZ4.out; have := HZ5.out; have := HZ6.out; have := HZ7.out; have := HZ8.out; have := HZ9.out; have := HZ10.out; have := HZ11.out; have := HZ12.out; have := HZ13.out; have := HZ14.out; have := HZ15.out; have := HZ16.out; have := HZ17.out; have := HZ18.out; have := HZ19.out; have := HZ20.out; have := HZ21.out; have := HZ22.out; have := HZ23.out; have := HZ24.out; have := HZ25.out; have := HZ26.out; have := HZ27.out; have := HZ28.out; have := HZ29.out; omega)).trans HKa129.out)
        have HKwb030 := Lib.hid ((hm.block _ (by have := lt_of_block HKwb029.out; have := HZ1.out; have := HZ2.out; have := HZ3.out; have := HZ4.out; have := HZ5.out; have := HZ6.out; have := HZ7.out; have := HZ8.out; have := HZ9.out; have := HZ10.out; have := HZ11.out; have := HZ12.out; have := HZ13.out; have := HZ14.out; have := HZ15.out; have := HZ16.out; have := HZ17.out; have := HZ18.out; have := HZ19.out; have := HZ20.out; have := HZ21.out; have := HZ22.out; have := HZ23.out; have := HZ24.out; have := HZ25.out; have := HZ26.out; have := HZ27.out; have := HZ28.out; have := HZ29.out; omega)).trans HKwb029.out)
        have HRw030 := Lib.hid (HRw05.out.below (HBs5_29.out.trans (hm.below.mono (by have := HZ1.out; have := HZ2.out; have := HZ3.out; have := HZ4.out; have := HZ5.out; have := HZ6.out; have := HZ7.out; have := HZ8.out; have := HZ9.out; have := HZ10.out; have := HZ11.out; have := HZ12.out; have := HZ13.out; have := HZ14.out; have := HZ15.out; have := HZ16.out; have := HZ17.out; have := HZ18.out; have := HZ19.out; have := HZ20.out; have := HZ21.out; have := HZ22.out; have := HZ23.out; have := HZ24.out; have := HZ25.out; have := HZ26.out; have := HZ27.out; have := HZ28.out; have := HZ29.out; omega))) (Nat.le_refl _))
        have HOg30 := Lib.hid (HOg29.out.btw hm (by have := HZ1.out; have := HZ2.out; have := HZ3.out; have := HZ4.out; have := HZ5.out; have := HZ6.out; have := HZ7.out; have := HZ8.out; have := HZ9.out; have := HZ10.out; have := HZ11.out; have := HZ12.out; have := HZ13.out; have := HZ14.out; have := HZ15.out; have := HZ16.out; have := HZ17.out; have := HZ18.out; have := HZ19.out; have := HZ20.out; have := HZ21.out; have := HZ22.out; have := HZ23.out; have := HZ24.out; have := HZ25.out; have := HZ26.out; have := HZ27.out; have := HZ28.out; have := HZ29.out; omega))
        have HKgb030 := Lib.hid ((hm.block _ (by have := lt_of_block HKgb029.out; have := HZ1.out; have := HZ2.out; have := HZ3.out; have := HZ4.out; have := HZ5.out; have := HZ6.out; have := HZ7.out; have := HZ8.out; have := HZ9.out; have := HZ10.out; have := HZ11.out; have := HZ12.out; have := HZ13.out; have := HZ14.out; have := HZ15.out; have := HZ16.out; have := HZ17.out; have := HZ18.out; have := HZ19.out; have := HZ20.out; have := HZ21.out; have := HZ22.out; have := HZ23.out; have := HZ24.out; have := HZ25.out; have := HZ26.out; have := HZ27.out; have := HZ28.out; have := HZ29.out; omega)).trans HKgb029.out)
        have HOh30 := Lib.hid (HOh29.out.btw hm (by have := HZ1.out; have := HZ2.out; have := HZ3.out; have := HZ4.out; have := HZ5.out; have := HZ6.out; have := HZ7.out; have := HZ8.out; have := HZ9.out; have := HZ10.out; have := HZ11.out; have := HZ12.out; have := HZ13.out; have := HZ14.out; have := HZ15.out; have := HZ16.out; have := HZ17.out; have := HZ18.out; have := HZ19.out; have := HZ20.out; have := HZ21.out; have := HZ22.out; have := HZ23.out; have := HZ24.out; have := HZ25.out; have := HZ26.out; have := HZ27.out; have := HZ28.out; have := HZ29.out; omega))
        have HBs5_30 : Hid (Below w5.heap.size w5 w30) := Lib.hid (HBs5_29.out.trans (hm.below.mono (by have := HZ1.out; have := HZ2.out; have := HZ3.out; have := HZ4.out; have := HZ5.out; have := HZ6.out; have := HZ7.out; have := HZ8.out; have := HZ9.out; have := HZ10.out; have := HZ11.out; have := HZ12.out; have := HZ13.out; have := HZ14.out; have := HZ15.out; have := HZ16.out; have := HZ17.out; have := HZ18.out; have := HZ19.out; have := HZ20.out; have := HZ21.out; have := HZ22.out; have := HZ23.out; have := HZ24.out; have := HZ25.out; have := HZ26.out; have := HZ27.out; have := HZ28.out; have := HZ29.out; omega)))
        have HBs23_30 : Hid (Below w23.heap.size w23 w30) := Lib.hid (HBs23_29.out.trans (hm.below.mono (by have := HZ1.out; have := HZ2.out; have := HZ3.out; have := HZ4.out; have := HZ5.out; have := HZ6.out; have := HZ7.out; have := HZ8.out; have := HZ9.out; have := HZ10.out; have := HZ11.out; have := HZ12.out; have := HZ13.out; have := HZ14.out; have := HZ15.out; have := HZ16.out; have := HZ17.out; have := HZ18.out; have := HZ19.out; have := HZ20.out; have := HZ21.out; have := HZ22.out; have := HZ23.out; have := HZ24.out; have := HZ25.out; have := HZ26.out; have := HZ27.out; have := HZ28.out; have := HZ29.out; omega)))
        clear hm
        have HKhb030 := Lib.hid (hkb)
        clear hkb
        clear ca10 fa10 lta1 cwb00 fwb00 ltwb0 cgb00 fgb00 ltgb0 chb00 fhb00 lthb0
        have lta1 := lt_of_block HKa130.out
        obtain ⟨ca10, fa10⟩ := cell1 HKa130.out
        have ltwb0 := lt_of_block HKwb030.out
        obtain ⟨cwb00, fwb00⟩ := cell1 HKwb030.out
        have ltgb0 := lt_of_block HKgb030.out
        obtain ⟨cgb00, fgb00⟩ := cell1 HKgb030.out
        have lthb0 := lt_of_block HKhb030.out
        obtain ⟨chb00, fhb00⟩ := cell1 HKhb030.out
        refine hK.out _ _ (ca10) (fun hHeld => ?_)
        clear hK K
        try simp only [Act.put]
        refine take1 (i := 14) (v := ?v50) (some 23) rfl rfl (by kernel_rfl) (by kernel_rfl) (by kernel_rfl) (fun _ _ _ h => h) (Or.inl ⟨by rfl, ?y50⟩) (by assumption) ?r50
        case y50 => (intro w hSw; (try dsimp only at hSw); go_simp; (first | done | with_reducible rfl))
        try simp only [Act.put, List.setIfInBounds_toArray, List.set_cons_zero, List.set_cons_succ]
        refine wpAnyH_done (by kernel_rfl) ?_ _
        go_wp2_with fail
        go_meet
        exact ⟨w24.heap.size, ph0, kh0, rfl, rfl, HKhb030.out, HOh30.out.reads, HBs23_30.out⟩
    case rest =>
      obtain ⟨bh0, ph0, kh0, rfl, rfl, hkq0, hrq0, hb⟩ := hcut
      rename World => w24
      have HB24 : Hid (Below w.heap.size w w24) := Lib.hid (HB23.out.trans (hb.mono HB23.out.size))
      have HZ24 : Hid (w23.heap.size ≤ w24.heap.size) := Lib.hid hb.size
      have HRf024 := Lib.hid (HRf00.out.below HB24.out (Nat.le_refl _))
      have HRf124 := Lib.hid (HRf10.out.below HB24.out (Nat.le_refl _))
      have HRf224 := Lib.hid (HRf20.out.below HB24.out (Nat.le_refl _))
      have HKa124 := Lib.hid ((hb.block _ (lt_of_block HKa123.out)).trans HKa123.out)
      have HKwb024 := Lib.hid ((hb.block _ (lt_of_block HKwb023.out)).trans HKwb023.out)
      have HRw024 := Lib.hid (HRw023.out.below hb (Nat.le_refl _))
      have HOg24 := Lib.hid (HOg23.out.next hb)
      have HKgb024 := Lib.hid ((hb.block _ (lt_of_block HKgb023.out)).trans HKgb023.out)
      have HBs5_24 : Hid (Below w5.heap.size w5 w24) := Lib.hid (HBs5_23.out.trans (hb.mono HBs5_23.out.size))
      clear hb
      have hlth0 := lt_of_block hkq0
      have HKhb024 := Lib.hid (hkq0)
      have HRh024 := Lib.hid (hrq0)
      have HBs24_24 : Hid (Below w24.heap.size w24 w24) := Lib.hid (Below.refl _ _)
      clear hkq0 hrq0
      clear ca10 fa10 lta1 cwb00 fwb00 ltwb0 cgb00 fgb00 ltgb0
      have lta1 := lt_of_block HKa124.out
      obtain ⟨ca10, fa10⟩ := cell1 HKa124.out
      have ltwb0 := lt_of_block HKwb024.out
      obtain ⟨cwb00, fwb00⟩ := cell1 HKwb024.out
      have ltgb0 := lt_of_block HKgb024.out
      obtain ⟨cgb00, fgb00⟩ := cell1 HKgb024.out
      have lthb0 := lt_of_block HKhb024.out
      obtain ⟨chb00, fhb00⟩ := cell1 HKhb024.out
      go_wp2_with fail
      refine (eqAmount_yes _ _ qs0 _ HRh024.out HRw024.out).mono ?_
      rintro e w25 ⟨rfl, hb⟩
      have HB25 : Hid (Below w.heap.size w w25) := Lib.hid (HB24.out.trans (hb.mono HB24.out.size))
      have HZ25 : Hid (w24.heap.size ≤ w25.heap.size) := Lib.hid hb.size
      have HRf025 := Lib.hid (HRf00.out.below HB25.out (Nat.le_refl _))
      have HRf125 := Lib.hid (HRf10.out.below HB25.out (Nat.le_refl _))
      have HRf225 := Lib.hid (HRf20.out.below HB25.out (Nat.le_refl _))
      have HKa125 := Lib.hid ((hb.block _ (lt_of_block HKa124.out)).trans HKa124.out)
      have HKwb025 := Lib.hid ((hb.block _ (lt_of_block HKwb024.out)).trans HKwb024.out)
      have HRw025 := Lib.hid (HRw024.out.below hb (Nat.le_refl _))
      have HOg25 := Lib.hid (HOg24.out.next hb)
      have HKgb025 := Lib.hid ((hb.block _ (lt_of_block HKgb024.out)).trans HKgb024.out)
      have HKhb025 := Lib.hid ((hb.block _ (lt_of_block HKhb024.out)).trans HKhb024.out)
      have HRh025 := Lib.hid (HRh024.out.below hb (Nat.le_refl _))
      have HBs5_25 : Hid (Below w5.heap.size w5 w25) := Lib.hid (HBs5_24.out.trans (hb.mono HBs5_24.out.size))
      have HBs24_25 : Hid (Below w24.heap.size w24 w25) := Lib.hid (HBs24_24.out.trans (hb.mono HBs24_24.out.size))
      clear hb
      clear ca10 fa10 lta1 cwb00 fwb00 ltwb0 cgb00 fgb00 ltgb0 chb00 fhb00 lthb0
      have lta1 := lt_of_block HKa125.out
      obtain ⟨ca10, fa10⟩ := cell1 HKa125.out
      have ltwb0 := lt_of_block HKwb025.out
      obtain ⟨cwb00, fwb00⟩ := cell1 HKwb025.out
      have ltgb0 := lt_of_block HKgb025.out
      obtain ⟨cgb00, fgb00⟩ := cell1 HKgb025.out
      have lthb0 := lt_of_block HKhb025.out
      obtain ⟨chb00, fhb00⟩ := cell1 HKhb025.out
      go_wp2_with fail
      refine (heldAmount_any _ qs0.length (1) _ (by have := HOg25.out.reads; exact this) (by omega) (by omega)).mono ?_
      rintro e w26 ⟨rfl, hb⟩
      have HB26 : Hid (Below w.heap.size w w26) := Lib.hid (HB25.out.trans (hb.mono HB25.out.size))
      have HZ26 : Hid (w25.heap.size ≤ w26.heap.size) := Lib.hid hb.size
      have HRf026 := Lib.hid (HRf00.out.below HB26.out (Nat.le_refl _))
      have HRf126 := Lib.hid (HRf10.out.below HB26.out (Nat.le_refl _))
      have HRf226 := Lib.hid (HRf20.out.below HB26.out (Nat.le_refl _))
      have HKa126 := Lib.hid ((hb.block _ (lt_of_block HKa125.out)).trans HKa125.out)
      have HKwb026 := Lib.hid ((hb.block _ (lt_of_block HKwb025.out)).trans HKwb025.out)
      have HRw026 := Lib.hid (HRw025.out.below hb (Nat.le_refl _))
      have HOg26 := Lib.hid (HOg25.out.next hb)
      have HKgb026 := Lib.hid ((hb.block _ (lt_of_block HKgb025.out)).trans HKgb025.out)
      have HKhb026 := Lib.hid ((hb.block _ (lt_of_block HKhb025.out)).trans HKhb025.out)
      have HRh026 := Lib.hid (HRh025.out.below hb (Nat.le_refl _))
      have HBs5_26 : Hid (Below w5.heap.size w5 w26) := Lib.hid (HBs5_25.out.trans (hb.mono HBs5_25.out.size))
      have HBs24_26 : Hid (Below w24.heap.size w24 w26) := Lib.hid (HBs24_25.out.trans (hb.mono HBs24_25.out.size))
      clear hb
      clear ca10 fa10 lta1 cwb00 fwb00 ltwb0 cgb00 fgb00 ltgb0 chb00 fhb00 lthb0
      have lta1 := lt_of_block HKa126.out
      obtain ⟨ca10, fa10⟩ := cell1 HKa126.out
      have ltwb0 := lt_of_block HKwb026.out
      obtain ⟨cwb00, fwb00⟩ := cell1 HKwb026.out
      have ltgb0 := lt_of_block HKgb026.out
      obtain ⟨cgb00, fgb00⟩ := cell1 HKgb026.out
      have lthb0 := lt_of_block HKhb026.out
      obtain ⟨chb00, fhb00⟩ := cell1 HKhb026.out
      go_wp2_with fail
      go_ret
      exact ⟨rfl, HB26.out⟩
end Go.Proofs.Ytlmnbecfaaeohaa
