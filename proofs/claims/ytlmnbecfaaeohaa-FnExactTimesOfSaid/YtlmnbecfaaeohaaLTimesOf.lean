/- The law on TimesOf: it returns true where the model and the program give one answer. -/
import Derived.Test.YtlmnbecfaaeohaaAmts
import Derived.Test.YtlmnbecfaaeohaaUnits
import Derived.Test.YtlmnbecfaaeohaaKa
import Derived.Deep.RegionHeld3
import Derived.Deep.Cut
namespace Go.Proofs.Ytlmnbecfaaeohaa
set_option linter.unusedVariables false
open Go.RowKit

set_option maxRecDepth 100000 in
set_option maxHeartbeats 3200000 in
theorem lawTimesOf (w : World) (sv0 : Value) (us0 : List Un) (h0 : RowsR 2 unC w sv0 us0) (hs0 : ∀ u ∈ us0, u.nm.size ≤ maxLen) (sv1 : Value) (cs1 : List Int) (h1 : RowsR 1 inC w sv1 cs1) (a2 : Int) (qs0 : List Int) (hq0 : qs0.length ≤ 1000) (r1 : Bool) 
    (hS : ∀ s0 s1 w, RowsR 2 unC w s0 us0 → RowsR 1 inC w s1 cs1 → Calls Try.prog 34 #[s0, .agg #[s1], .int .i64 a2] w fun e w' => (∃ t0, e = .returned (.tuple #[.agg #[t0], .bool r1]) ∧ OwA w.heap.size w'.heap.size w' t0 qs0) ∧ Below w.heap.size w w') 
    (hI : ∀ s0 s1 w, RowsR 2 unC w s0 us0 → RowsR 1 inC w s1 cs1 → Calls Try.prog 35 #[s0, .agg #[s1], .int .i64 a2] w fun e w' => (∃ t0, e = .returned (.tuple #[.agg #[t0], .bool r1]) ∧ OwA w.heap.size w'.heap.size w' t0 qs0) ∧ Below w.heap.size w w') :
    Calls Try.prog 9 #[sv0, .agg #[sv1], .int .i64 a2] w fun e w' => e = .returned (.bool true) ∧ Below w.heap.size w w' := by
  have HS := Lib.hid hS
  have HI := Lib.hid hI
  obtain ⟨ad0, cp0, rfl⟩ := h0.form
  have hm0 : us0.length ≤ 9223372036854775807 := by obtain ⟨_, _, _, ⟨m, _⟩, _⟩ := h0; exact m
  obtain ⟨ad1, cp1, rfl⟩ := h1.form
  have hm1 : cs1.length ≤ 9223372036854775807 := by obtain ⟨_, _, _, ⟨m, _⟩, _⟩ := h1; exact m
  have hqk : ¬ (1 + (qs0.length : Int) < 0) := by omega
  have hqk' : ((1 + (qs0.length : Int)) != (1 + (qs0.length : Int))) = false := by simp
  have HB0 : Hid (Below w.heap.size w w) := Lib.hid (Below.refl _ _)
  have HRf00 := Lib.hid (h0)
  have HRf10 := Lib.hid (h1)
  have HSZ0 := Lib.hid hs0
  clear hS hI h0 h1 hs0
  have hr1 : (r1 != r1) = false := by simp
  go_enter Try.func9, Try.ntmps9
  go_wp2_with fail
  have hb : Below w.heap.size w (w.alloc (.cells #[.slice ad1 cs1.length cp1] 31)) := (Below.refl _ _).alloc (Nat.le_refl _) _
  have hk : (w.alloc (.cells #[.slice ad1 cs1.length cp1] 31)).heap[w.heap.size]? = some (.cells #[.slice ad1 cs1.length cp1] 31 (0, 0)) := alloc_at rfl
  have hz : (w.alloc (.cells #[.slice ad1 cs1.length cp1] 31)).heap.size = w.heap.size + 1 := by simp
  generalize w.alloc (.cells #[.slice ad1 cs1.length cp1] 31) = w1 at hb hk hz ⊢
  have HB1 : Hid (Below w.heap.size w w1) := Lib.hid (HB0.out.trans (hb.mono HB0.out.size))
  have HZ1 : Hid (w.heap.size ≤ w1.heap.size) := Lib.hid hb.size
  have HRf01 := Lib.hid (HRf00.out.below HB1.out (Nat.le_refl _))
  have HRf11 := Lib.hid (HRf10.out.below HB1.out (Nat.le_refl _))
  have HKa11 := Lib.hid hk
  replace HZ1 : Hid (w.heap.size < w1.heap.size) := Lib.hid (by omega)
  have HE1 := Lib.hid hz
  clear hb hk hz
  refine (szUnitS_any _ us0 1048576 _ HRf01.out HSZ0.out (by omega) (by omega)).mono ?_
  rintro e w2 ⟨⟨l0, rfl, hl0, hk0⟩, hb⟩
  have HB2 : Hid (Below w.heap.size w w2) := Lib.hid (HB1.out.trans (hb.mono HB1.out.size))
  have HZ2 : Hid (w1.heap.size ≤ w2.heap.size) := Lib.hid hb.size
  have HRf02 := Lib.hid (HRf00.out.below HB2.out (Nat.le_refl _))
  have HRf12 := Lib.hid (HRf10.out.below HB2.out (Nat.le_refl _))
  have HKa12 := Lib.hid ((hb.block _ (lt_of_block HKa11.out)).trans HKa11.out)
  clear hb
  by_cases hr : l0 < 0
  · clear hk0
    have lta1 := lt_of_block HKa12.out
    obtain ⟨ca10, fa10⟩ := cell1 HKa12.out
    go_wp2_with fail
    go_ret
    exact ⟨rfl, HB2.out⟩
  have hn0 : us0.length ≤ 1048576 := by have := hk0 (by omega); omega
  clear hk0
  have lta1 := lt_of_block HKa12.out
  obtain ⟨ca10, fa10⟩ := cell1 HKa12.out
  go_wp2_with fail
  refine (szAmount_any _ cs1 l0 _ HRf12.out (by omega) (by omega)).mono ?_
  rintro e w3 ⟨⟨l1, rfl, hl1, hk1⟩, hb⟩
  have HB3 : Hid (Below w.heap.size w w3) := Lib.hid (HB2.out.trans (hb.mono HB2.out.size))
  have HZ3 : Hid (w2.heap.size ≤ w3.heap.size) := Lib.hid hb.size
  have HRf03 := Lib.hid (HRf00.out.below HB3.out (Nat.le_refl _))
  have HRf13 := Lib.hid (HRf10.out.below HB3.out (Nat.le_refl _))
  have HKa13 := Lib.hid ((hb.block _ (lt_of_block HKa12.out)).trans HKa12.out)
  clear hb
  by_cases hr : l1 < 0
  · clear hk1
    clear ca10 fa10 lta1
    have lta1 := lt_of_block HKa13.out
    obtain ⟨ca10, fa10⟩ := cell1 HKa13.out
    go_wp2_with fail
    go_ret
    exact ⟨rfl, HB3.out⟩
  have hn1 : cs1.length ≤ 1048576 := by have := hk1 (by omega); omega
  clear hk1
  clear ca10 fa10 lta1
  have lta1 := lt_of_block HKa13.out
  obtain ⟨ca10, fa10⟩ := cell1 HKa13.out
  go_wp2_with fail
  clear ca10 fa10 lta1
  have lta1 := lt_of_block HKa13.out
  obtain ⟨ca10, fa10⟩ := cell1 HKa13.out
  go_cut [8, 9] from 29 (fun z0 z1 wc => ∃ (b0 : Nat) (pa0 : Option Addr) (ka0 : Nat), z0 = .pointer (some ⟨b0, 0, none⟩) ∧ z1 = .bool r1 ∧ wc.heap[b0]? = some (.cells #[.slice pa0 qs0.length ka0] 34 (0, 0)) ∧ RowsR 1 inC wc (.slice pa0 qs0.length ka0) qs0 ∧ Below w3.heap.size w3 wc)
  case first =>
    have HBs3_3 : Hid (Below w3.heap.size w3 w3) := Lib.hid (Below.refl _ _)
    refine wp_region_held_drew (S := (fun w' => w'.cell? ⟨w.heap.size, 0, none⟩ = some (.slice ad1 cs1.length cp1))) (by kernel_rfl) (ca10) (fun hHeld => ?_)
    have hb : Below w3.heap.size w3 w3.drew := (Below.refl _ _).drew
    generalize w3.drew = w4 at hb hHeld ⊢
    have HB4 : Hid (Below w.heap.size w w4) := Lib.hid (HB3.out.trans (hb.mono HB3.out.size))
    have HZ4 : Hid (w3.heap.size ≤ w4.heap.size) := Lib.hid hb.size
    have HRf04 := Lib.hid (HRf00.out.below HB4.out (Nat.le_refl _))
    have HRf14 := Lib.hid (HRf10.out.below HB4.out (Nat.le_refl _))
    have HKa14 := Lib.hid ((hb.block _ (lt_of_block HKa13.out)).trans HKa13.out)
    have HBs3_4 : Hid (Below w3.heap.size w3 w4) := Lib.hid (HBs3_3.out.trans (hb.mono HBs3_3.out.size))
    clear hb
    clear ca10 fa10 lta1
    have lta1 := lt_of_block HKa14.out
    obtain ⟨ca10, fa10⟩ := cell1 HKa14.out
    refine take1 (i := 0) (v := ?v1) (some 30) rfl rfl (by kernel_rfl) (by kernel_rfl) (by kernel_rfl) (fun _ _ _ h => h) (Or.inl ⟨by rfl, ?y1⟩) (by assumption) ?r1
    case y1 => (intro w hSw; (try dsimp only at hSw); go_simp; (first | done | with_reducible rfl))
    try simp only [Act.put, List.setIfInBounds_toArray, List.set_cons_zero, List.set_cons_succ]
    refine take1 (i := 2) (v := ?v2) (some 32) rfl rfl (by kernel_rfl) (by kernel_rfl) (by kernel_rfl) (fun _ _ _ h => h) (Or.inl ⟨by rfl, ?y2⟩) (by assumption) ?r2
    case y2 => (intro w hSw; (try dsimp only at hSw); go_simp; (first | done | with_reducible rfl))
    try simp only [Act.put, List.setIfInBounds_toArray, List.set_cons_zero, List.set_cons_succ]
    refine take1 (i := 4) (v := ?v3) (some 34) rfl rfl (by kernel_rfl) (by kernel_rfl) (by kernel_rfl) (fun _ _ _ h => h) (Or.inl ⟨by rfl, ?y3⟩) (by assumption) ?r3
    case y3 => (intro w hSw; (try dsimp only at hSw); go_simp; (first | done | with_reducible rfl))
    try simp only [Act.put, List.setIfInBounds_toArray, List.set_cons_zero, List.set_cons_succ]
    refine wpAnyH_ready (rs := [1, 9]) (by kernel_rfl) (by simp) ?_
    refine AllReadyH.cons rfl (fun K hK => ?_) (AllReadyH.cons rfl (fun K hK => ?_) AllReadyH.nil)
    · go_simp
      go_at_call 15
      refine (toUnitS_any _ us0 _ HRf04.out hn0).mono ?_
      rintro e w5 ⟨⟨swc0, rfl, ho⟩, hb⟩
      have HB5 : Hid (Below w.heap.size w w5) := Lib.hid (HB4.out.trans (hb.mono HB4.out.size))
      have HZ5 : Hid (w4.heap.size ≤ w5.heap.size) := Lib.hid hb.size
      have HRf05 := Lib.hid (HRf00.out.below HB5.out (Nat.le_refl _))
      have HRf15 := Lib.hid (HRf10.out.below HB5.out (Nat.le_refl _))
      have HKa15 := Lib.hid ((hb.block _ (lt_of_block HKa14.out)).trans HKa14.out)
      have HBs3_5 : Hid (Below w3.heap.size w3 w5) := Lib.hid (HBs3_4.out.trans (hb.mono HBs3_4.out.size))
      clear hb
      obtain ⟨pwc0, kwc0, rfl⟩ := own_form ho
      have HRwc05 := Lib.hid (RowsR.of_own unC_len ho)
      have HBs5_5 : Hid (Below w5.heap.size w5 w5) := Lib.hid (Below.refl _ _)
      clear ho
      clear ca10 fa10 lta1
      have lta1 := lt_of_block HKa15.out
      obtain ⟨ca10, fa10⟩ := cell1 HKa15.out
      try go_simp
      refine hK.out _ _ (ca10) (fun hHeld => ?_)
      clear hK K
      try simp only [Act.put, List.setIfInBounds_toArray, List.set_cons_zero, List.set_cons_succ]
      refine wpAnyH_ready (rs := [3, 9]) (by kernel_rfl) (by simp) ?_
      refine AllReadyH.cons rfl (fun K hK => ?_) (AllReadyH.cons rfl (fun K hK => ?_) AllReadyH.nil)
      · go_simp
        go_at_call 20
        refine (toAmount_any _ cs1 _ HRf15.out hn1).mono ?_
        rintro e w6 ⟨⟨swc1, rfl, ho⟩, hb⟩
        have HB6 : Hid (Below w.heap.size w w6) := Lib.hid (HB5.out.trans (hb.mono HB5.out.size))
        have HZ6 : Hid (w5.heap.size ≤ w6.heap.size) := Lib.hid hb.size
        have HRf06 := Lib.hid (HRf00.out.below HB6.out (Nat.le_refl _))
        have HRf16 := Lib.hid (HRf10.out.below HB6.out (Nat.le_refl _))
        have HKa16 := Lib.hid ((hb.block _ (lt_of_block HKa15.out)).trans HKa15.out)
        have HRwc06 := Lib.hid (HRwc05.out.below hb (Nat.le_refl _))
        have HBs3_6 : Hid (Below w3.heap.size w3 w6) := Lib.hid (HBs3_5.out.trans (hb.mono HBs3_5.out.size))
        have HBs5_6 : Hid (Below w5.heap.size w5 w6) := Lib.hid (HBs5_5.out.trans (hb.mono HBs5_5.out.size))
        clear hb
        obtain ⟨pwc1, kwc1, rfl⟩ := ho.form
        have HRwc16 := Lib.hid (ho.reads)
        have HBs6_6 : Hid (Below w6.heap.size w6 w6) := Lib.hid (Below.refl _ _)
        clear ho
        clear ca10 fa10 lta1
        have lta1 := lt_of_block HKa16.out
        obtain ⟨ca10, fa10⟩ := cell1 HKa16.out
        try go_simp
        refine hK.out _ _ (ca10) (fun hHeld => ?_)
        clear hK K
        try simp only [Act.put, List.setIfInBounds_toArray, List.set_cons_zero, List.set_cons_succ]
        refine wpAnyH_ready (rs := [5, 9]) (by kernel_rfl) (by simp) ?_
        refine AllReadyH.cons rfl (fun K hK => ?_) (AllReadyH.cons rfl (fun K hK => ?_) AllReadyH.nil)
        · go_simp
          go_at_call 34
          refine (HS.out _ _ _ HRwc06.out HRwc16.out).mono ?_
          rintro e w7 ⟨⟨tw0, rfl, ho⟩, hb⟩
          have HB7 : Hid (Below w.heap.size w w7) := Lib.hid (HB6.out.trans (hb.mono HB6.out.size))
          have HZ7 : Hid (w6.heap.size ≤ w7.heap.size) := Lib.hid hb.size
          have HRf07 := Lib.hid (HRf00.out.below HB7.out (Nat.le_refl _))
          have HRf17 := Lib.hid (HRf10.out.below HB7.out (Nat.le_refl _))
          have HKa17 := Lib.hid ((hb.block _ (lt_of_block HKa16.out)).trans HKa16.out)
          have HRwc07 := Lib.hid (HRwc06.out.below hb (Nat.le_refl _))
          have HRwc17 := Lib.hid (HRwc16.out.below hb (Nat.le_refl _))
          have HBs3_7 : Hid (Below w3.heap.size w3 w7) := Lib.hid (HBs3_6.out.trans (hb.mono HBs3_6.out.size))
          have HBs5_7 : Hid (Below w5.heap.size w5 w7) := Lib.hid (HBs5_6.out.trans (hb.mono HBs5_6.out.size))
          have HBs6_7 : Hid (Below w6.heap.size w6 w7) := Lib.hid (HBs6_6.out.trans (hb.mono HBs6_6.out.size))
          clear hb
          obtain ⟨pw0, kw0, rfl⟩ := ho.form
          have HOw7 := Lib.hid (ho)
          clear ho
          clear ca10 fa10 lta1
          have lta1 := lt_of_block HKa17.out
          obtain ⟨ca10, fa10⟩ := cell1 HKa17.out
          try go_simp
          refine hK.out _ _ (ca10) (fun hHeld => ?_)
          clear hK K
          try simp only [Act.put, List.setIfInBounds_toArray, List.set_cons_zero, List.set_cons_succ]
          refine take1 (i := 6) (v := ?v4) (some 29) rfl rfl (by kernel_rfl) (by kernel_rfl) (by kernel_rfl) (fun _ _ _ h => h) (Or.inl ⟨by rfl, ?y4⟩) (by assumption) ?r4
          case y4 => (intro w hSw; (try dsimp only at hSw); go_simp; (first | done | with_reducible rfl))
          try simp only [Act.put, List.setIfInBounds_toArray, List.set_cons_zero, List.set_cons_succ]
          refine take1 (i := 7) (v := ?v5) (some 36) rfl rfl (by kernel_rfl) (by kernel_rfl) (by kernel_rfl) (fun _ _ _ h => h) (Or.inl ⟨by rfl, ?y5⟩) (by assumption) ?r5
          case y5 => (intro w hSw; (try dsimp only at hSw); go_simp; (first | done | with_reducible rfl))
          try simp only [Act.put, List.setIfInBounds_toArray, List.set_cons_zero, List.set_cons_succ]
          refine take1 (i := 8) (v := ?v6) (some 37) rfl rfl (by kernel_rfl) (by kernel_rfl) (by kernel_rfl) (fun _ _ _ h => h) (Or.inl ⟨by rfl, ?y6⟩) (by assumption) ?r6
          case y6 => (intro w hSw; (try dsimp only at hSw); go_simp; (first | done | with_reducible rfl))
          try simp only [Act.put, List.setIfInBounds_toArray, List.set_cons_zero, List.set_cons_succ]
          refine wpAnyH_ready (rs := [9]) (by kernel_rfl) (by simp) ?_
          refine AllReadyH.cons rfl (fun K hK => ?_) AllReadyH.nil
          go_simp
          have hb : Below w7.heap.size w7 (w7.alloc (.cells #[.slice none 0 0] 34)) := (Below.refl _ _).alloc (Nat.le_refl _) _
          have hk : (w7.alloc (.cells #[.slice none 0 0] 34)).heap[w7.heap.size]? = some (.cells #[.slice none 0 0] 34 (0, 0)) := alloc_at rfl
          have hz : (w7.alloc (.cells #[.slice none 0 0] 34)).heap.size = w7.heap.size + 1 := by simp
          generalize w7.alloc (.cells #[.slice none 0 0] 34) = w8 at hb hk hz ⊢
          have HB8 : Hid (Below w.heap.size w w8) := Lib.hid (HB7.out.trans (hb.mono HB7.out.size))
          have HZ8 : Hid (w7.heap.size ≤ w8.heap.size) := Lib.hid hb.size
          have HRf08 := Lib.hid (HRf00.out.below HB8.out (Nat.le_refl _))
          have HRf18 := Lib.hid (HRf10.out.below HB8.out (Nat.le_refl _))
          have HKa18 := Lib.hid ((hb.block _ (lt_of_block HKa17.out)).trans HKa17.out)
          have HOw8 := Lib.hid (HOw7.out.next hb)
          have HBs3_8 : Hid (Below w3.heap.size w3 w8) := Lib.hid (HBs3_7.out.trans (hb.mono HBs3_7.out.size))
          have HKwb08 := Lib.hid hk
          replace HZ8 : Hid (w7.heap.size < w8.heap.size) := Lib.hid (by omega)
          have HE8 := Lib.hid hz
          clear hb hk hz
          clear ca10 fa10 lta1
          have lta1 := lt_of_block HKa18.out
          obtain ⟨ca10, fa10⟩ := cell1 HKa18.out
          have ltwb0 := lt_of_block HKwb08.out
          obtain ⟨cwb00, fwb00⟩ := cell1 HKwb08.out
          refine hK.out _ _ (ca10) (fun hHeld => ?_)
          clear hK K
          try simp only [Act.put, List.setIfInBounds_toArray, List.set_cons_zero, List.set_cons_succ]
          refine wpAnyH_ready (rs := [10]) (by kernel_rfl) (by simp) ?_
          refine AllReadyH.cons rfl (fun K hK => ?_) AllReadyH.nil
          go_simp
          have hkb := box1_set HKwb08.out (.slice pw0 qs0.length kw0)
          have hm : Btw w7.heap.size (w7.heap.size + 1) w8 (w8.setCell ⟨w7.heap.size, 0, none⟩ (.slice pw0 qs0.length kw0)) := (Btw.refl (w7.heap.size) (w7.heap.size + 1) w8).setCell (p := ⟨w7.heap.size, 0, none⟩) (Nat.le_refl _) (Nat.lt_succ_self _) _
          generalize w8.setCell ⟨w7.heap.size, 0, none⟩ (.slice pw0 qs0.length kw0) = w9 at hkb hm ⊢
          have HZ9 : Hid (w8.heap.size ≤ w9.heap.size) := Lib.hid hm.size
          have HB9 : Hid (Below w.heap.size w w9) := Lib.hid (HB8.out.trans (hm.below.mono (by have := HZ1.out; have := HZ2.out; have := HZ3.out; have := HZ4.out; have := HZ5.out; have := HZ6.out; have := HZ7.out; have := HZ8.out; have := HB0.out.size; omega)))
          have HRf09 := Lib.hid (HRf00.out.below HB9.out (Nat.le_refl _))
          have HRf19 := Lib.hid (HRf10.out.below HB9.out (Nat.le_refl _))
          have HKa19 := Lib.hid ((hm.block _ (by have := lt_of_block HKa18.out; have := HZ1.out; have := HZ2.out; have := HZ3.out; have := HZ4.out; have := HZ5.out; have := HZ6.out; have := HZ7.out; have := HZ8.out; omega)).trans HKa18.out)
          have HOw9 := Lib.hid (HOw8.out.btw hm (by have := HZ1.out; have := HZ2.out; have := HZ3.out; have := HZ4.out; have := HZ5.out; have := HZ6.out; have := HZ7.out; have := HZ8.out; omega))
          have HBs3_9 : Hid (Below w3.heap.size w3 w9) := Lib.hid (HBs3_8.out.trans (hm.below.mono (by have := HZ1.out; have := HZ2.out; have := HZ3.out; have := HZ4.out; have := HZ5.out; have := HZ6.out; have := HZ7.out; have := HZ8.out; omega)))
          clear hm
          have HKwb09 := Lib.hid (hkb)
          clear hkb
          clear ca10 fa10 lta1 cwb00 fwb00 ltwb0
          have lta1 := lt_of_block HKa19.out
          obtain ⟨ca10, fa10⟩ := cell1 HKa19.out
          have ltwb0 := lt_of_block HKwb09.out
          obtain ⟨cwb00, fwb00⟩ := cell1 HKwb09.out
          refine hK.out _ _ (ca10) (fun hHeld => ?_)
          clear hK K
          try simp only [Act.put]
          refine take1 (i := 11) (v := ?v7) (some 9) rfl rfl (by kernel_rfl) (by kernel_rfl) (by kernel_rfl) (fun _ _ _ h => h) (Or.inl ⟨by rfl, ?y7⟩) (by assumption) ?r7
          case y7 => (intro w hSw; (try dsimp only at hSw); go_simp; (first | done | with_reducible rfl))
          try simp only [Act.put, List.setIfInBounds_toArray, List.set_cons_zero, List.set_cons_succ]
          refine wpAnyH_done (by kernel_rfl) ?_ _
          go_wp2_with fail
          go_meet
          exact ⟨w7.heap.size, pw0, kw0, rfl, rfl, HKwb09.out, HOw9.out.reads, HBs3_9.out⟩
        · go_simp
          have hb : Below w6.heap.size w6 (w6.alloc (.cells #[.slice none 0 0] 34)) := (Below.refl _ _).alloc (Nat.le_refl _) _
          have hk : (w6.alloc (.cells #[.slice none 0 0] 34)).heap[w6.heap.size]? = some (.cells #[.slice none 0 0] 34 (0, 0)) := alloc_at rfl
          have hz : (w6.alloc (.cells #[.slice none 0 0] 34)).heap.size = w6.heap.size + 1 := by simp
          generalize w6.alloc (.cells #[.slice none 0 0] 34) = w7 at hb hk hz ⊢
          have HB7 : Hid (Below w.heap.size w w7) := Lib.hid (HB6.out.trans (hb.mono HB6.out.size))
          have HZ7 : Hid (w6.heap.size ≤ w7.heap.size) := Lib.hid hb.size
          have HRf07 := Lib.hid (HRf00.out.below HB7.out (Nat.le_refl _))
          have HRf17 := Lib.hid (HRf10.out.below HB7.out (Nat.le_refl _))
          have HKa17 := Lib.hid ((hb.block _ (lt_of_block HKa16.out)).trans HKa16.out)
          have HRwc07 := Lib.hid (HRwc06.out.below hb (Nat.le_refl _))
          have HRwc17 := Lib.hid (HRwc16.out.below hb (Nat.le_refl _))
          have HBs3_7 : Hid (Below w3.heap.size w3 w7) := Lib.hid (HBs3_6.out.trans (hb.mono HBs3_6.out.size))
          have HBs5_7 : Hid (Below w5.heap.size w5 w7) := Lib.hid (HBs5_6.out.trans (hb.mono HBs5_6.out.size))
          have HBs6_7 : Hid (Below w6.heap.size w6 w7) := Lib.hid (HBs6_6.out.trans (hb.mono HBs6_6.out.size))
          have HKwb07 := Lib.hid hk
          replace HZ7 : Hid (w6.heap.size < w7.heap.size) := Lib.hid (by omega)
          have HE7 := Lib.hid hz
          clear hb hk hz
          clear ca10 fa10 lta1
          have lta1 := lt_of_block HKa17.out
          obtain ⟨ca10, fa10⟩ := cell1 HKa17.out
          have ltwb0 := lt_of_block HKwb07.out
          obtain ⟨cwb00, fwb00⟩ := cell1 HKwb07.out
          refine hK.out _ _ (ca10) (fun hHeld => ?_)
          clear hK K
          try simp only [Act.put, List.setIfInBounds_toArray, List.set_cons_zero, List.set_cons_succ]
          refine wpAnyH_ready (rs := [5]) (by kernel_rfl) (by simp) ?_
          refine AllReadyH.cons rfl (fun K hK => ?_) AllReadyH.nil
          go_simp
          go_at_call 34
          refine (HS.out _ _ _ HRwc07.out HRwc17.out).mono ?_
          rintro e w8 ⟨⟨tw0, rfl, ho⟩, hb⟩
          have HB8 : Hid (Below w.heap.size w w8) := Lib.hid (HB7.out.trans (hb.mono HB7.out.size))
          have HZ8 : Hid (w7.heap.size ≤ w8.heap.size) := Lib.hid hb.size
          have HRf08 := Lib.hid (HRf00.out.below HB8.out (Nat.le_refl _))
          have HRf18 := Lib.hid (HRf10.out.below HB8.out (Nat.le_refl _))
          have HKa18 := Lib.hid ((hb.block _ (lt_of_block HKa17.out)).trans HKa17.out)
          have HRwc08 := Lib.hid (HRwc07.out.below hb (Nat.le_refl _))
          have HRwc18 := Lib.hid (HRwc17.out.below hb (Nat.le_refl _))
          have HKwb08 := Lib.hid ((hb.block _ (lt_of_block HKwb07.out)).trans HKwb07.out)
          have HBs3_8 : Hid (Below w3.heap.size w3 w8) := Lib.hid (HBs3_7.out.trans (hb.mono HBs3_7.out.size))
          have HBs5_8 : Hid (Below w5.heap.size w5 w8) := Lib.hid (HBs5_7.out.trans (hb.mono HBs5_7.out.size))
          have HBs6_8 : Hid (Below w6.heap.size w6 w8) := Lib.hid (HBs6_7.out.trans (hb.mono HBs6_7.out.size))
          clear hb
          obtain ⟨pw0, kw0, rfl⟩ := ho.form
          have HOw8 := Lib.hid (ho)
          clear ho
          clear ca10 fa10 lta1 cwb00 fwb00 ltwb0
          have lta1 := lt_of_block HKa18.out
          obtain ⟨ca10, fa10⟩ := cell1 HKa18.out
          have ltwb0 := lt_of_block HKwb08.out
          obtain ⟨cwb00, fwb00⟩ := cell1 HKwb08.out
          try go_simp
          refine hK.out _ _ (ca10) (fun hHeld => ?_)
          clear hK K
          try simp only [Act.put, List.setIfInBounds_toArray, List.set_cons_zero, List.set_cons_succ]
          refine take1 (i := 6) (v := ?v8) (some 29) rfl rfl (by kernel_rfl) (by kernel_rfl) (by kernel_rfl) (fun _ _ _ h => h) (Or.inl ⟨by rfl, ?y8⟩) (by assumption) ?r8
          case y8 => (intro w hSw; (try dsimp only at hSw); go_simp; (first | done | with_reducible rfl))
          try simp only [Act.put, List.setIfInBounds_toArray, List.set_cons_zero, List.set_cons_succ]
          refine take1 (i := 7) (v := ?v9) (some 36) rfl rfl (by kernel_rfl) (by kernel_rfl) (by kernel_rfl) (fun _ _ _ h => h) (Or.inl ⟨by rfl, ?y9⟩) (by assumption) ?r9
          case y9 => (intro w hSw; (try dsimp only at hSw); go_simp; (first | done | with_reducible rfl))
          try simp only [Act.put, List.setIfInBounds_toArray, List.set_cons_zero, List.set_cons_succ]
          refine take1 (i := 8) (v := ?v10) (some 37) rfl rfl (by kernel_rfl) (by kernel_rfl) (by kernel_rfl) (fun _ _ _ h => h) (Or.inl ⟨by rfl, ?y10⟩) (by assumption) ?r10
          case y10 => (intro w hSw; (try dsimp only at hSw); go_simp; (first | done | with_reducible rfl))
          try simp only [Act.put, List.setIfInBounds_toArray, List.set_cons_zero, List.set_cons_succ]
          refine wpAnyH_ready (rs := [10]) (by kernel_rfl) (by simp) ?_
          refine AllReadyH.cons rfl (fun K hK => ?_) AllReadyH.nil
          go_simp
          have hkb := box1_set HKwb08.out (.slice pw0 qs0.length kw0)
          have hm : Btw w6.heap.size (w6.heap.size + 1) w8 (w8.setCell ⟨w6.heap.size, 0, none⟩ (.slice pw0 qs0.length kw0)) := (Btw.refl (w6.heap.size) (w6.heap.size + 1) w8).setCell (p := ⟨w6.heap.size, 0, none⟩) (Nat.le_refl _) (Nat.lt_succ_self _) _
          generalize w8.setCell ⟨w6.heap.size, 0, none⟩ (.slice pw0 qs0.length kw0) = w9 at hkb hm ⊢
          have HZ9 : Hid (w8.heap.size ≤ w9.heap.size) := Lib.hid hm.size
          have HB9 : Hid (Below w.heap.size w w9) := Lib.hid (HB8.out.trans (hm.below.mono (by have := HZ1.out; have := HZ2.out; have := HZ3.out; have := HZ4.out; have := HZ5.out; have := HZ6.out; have := HZ7.out; have := HZ8.out; have := HB0.out.size; omega)))
          have HRf09 := Lib.hid (HRf00.out.below HB9.out (Nat.le_refl _))
          have HRf19 := Lib.hid (HRf10.out.below HB9.out (Nat.le_refl _))
          have HKa19 := Lib.hid ((hm.block _ (by have := lt_of_block HKa18.out; have := HZ1.out; have := HZ2.out; have := HZ3.out; have := HZ4.out; have := HZ5.out; have := HZ6.out; have := HZ7.out; have := HZ8.out; omega)).trans HKa18.out)
          have HOw9 := Lib.hid (HOw8.out.btw hm (by have := HZ1.out; have := HZ2.out; have := HZ3.out; have := HZ4.out; have := HZ5.out; have := HZ6.out; have := HZ7.out; have := HZ8.out; omega))
          have HBs3_9 : Hid (Below w3.heap.size w3 w9) := Lib.hid (HBs3_8.out.trans (hm.below.mono (by have := HZ1.out; have := HZ2.out; have := HZ3.out; have := HZ4.out; have := HZ5.out; have := HZ6.out; have := HZ7.out; have := HZ8.out; omega)))
          clear hm
          have HKwb09 := Lib.hid (hkb)
          clear hkb
          clear ca10 fa10 lta1 cwb00 fwb00 ltwb0
          have lta1 := lt_of_block HKa19.out
          obtain ⟨ca10, fa10⟩ := cell1 HKa19.out
          have ltwb0 := lt_of_block HKwb09.out
          obtain ⟨cwb00, fwb00⟩ := cell1 HKwb09.out
          refine hK.out _ _ (ca10) (fun hHeld => ?_)
          clear hK K
          try simp only [Act.put]
          refine take1 (i := 11) (v := ?v11) (some 9) rfl rfl (by kernel_rfl) (by kernel_rfl) (by kernel_rfl) (fun _ _ _ h => h) (Or.inl ⟨by rfl, ?y11⟩) (by assumption) ?r11
          case y11 => (intro w hSw; (try dsimp only at hSw); go_simp; (first | done | with_reducible rfl))
          try simp only [Act.put, List.setIfInBounds_toArray, List.set_cons_zero, List.set_cons_succ]
          refine wpAnyH_done (by kernel_rfl) ?_ _
          go_wp2_with fail
          go_meet
          exact ⟨w6.heap.size, pw0, kw0, rfl, rfl, HKwb09.out, HOw9.out.reads, HBs3_9.out⟩
      · go_simp
        have hb : Below w5.heap.size w5 (w5.alloc (.cells #[.slice none 0 0] 34)) := (Below.refl _ _).alloc (Nat.le_refl _) _
        have hk : (w5.alloc (.cells #[.slice none 0 0] 34)).heap[w5.heap.size]? = some (.cells #[.slice none 0 0] 34 (0, 0)) := alloc_at rfl
        have hz : (w5.alloc (.cells #[.slice none 0 0] 34)).heap.size = w5.heap.size + 1 := by simp
        generalize w5.alloc (.cells #[.slice none 0 0] 34) = w6 at hb hk hz ⊢
        have HB6 : Hid (Below w.heap.size w w6) := Lib.hid (HB5.out.trans (hb.mono HB5.out.size))
        have HZ6 : Hid (w5.heap.size ≤ w6.heap.size) := Lib.hid hb.size
        have HRf06 := Lib.hid (HRf00.out.below HB6.out (Nat.le_refl _))
        have HRf16 := Lib.hid (HRf10.out.below HB6.out (Nat.le_refl _))
        have HKa16 := Lib.hid ((hb.block _ (lt_of_block HKa15.out)).trans HKa15.out)
        have HRwc06 := Lib.hid (HRwc05.out.below hb (Nat.le_refl _))
        have HBs3_6 : Hid (Below w3.heap.size w3 w6) := Lib.hid (HBs3_5.out.trans (hb.mono HBs3_5.out.size))
        have HBs5_6 : Hid (Below w5.heap.size w5 w6) := Lib.hid (HBs5_5.out.trans (hb.mono HBs5_5.out.size))
        have HKwb06 := Lib.hid hk
        replace HZ6 : Hid (w5.heap.size < w6.heap.size) := Lib.hid (by omega)
        have HE6 := Lib.hid hz
        clear hb hk hz
        clear ca10 fa10 lta1
        have lta1 := lt_of_block HKa16.out
        obtain ⟨ca10, fa10⟩ := cell1 HKa16.out
        have ltwb0 := lt_of_block HKwb06.out
        obtain ⟨cwb00, fwb00⟩ := cell1 HKwb06.out
        refine hK.out _ _ (ca10) (fun hHeld => ?_)
        clear hK K
        try simp only [Act.put, List.setIfInBounds_toArray, List.set_cons_zero, List.set_cons_succ]
        refine wpAnyH_ready (rs := [3]) (by kernel_rfl) (by simp) ?_
        refine AllReadyH.cons rfl (fun K hK => ?_) AllReadyH.nil
        go_simp
        go_at_call 20
        refine (toAmount_any _ cs1 _ HRf16.out hn1).mono ?_
        rintro e w7 ⟨⟨swc1, rfl, ho⟩, hb⟩
        have HB7 : Hid (Below w.heap.size w w7) := Lib.hid (HB6.out.trans (hb.mono HB6.out.size))
        have HZ7 : Hid (w6.heap.size ≤ w7.heap.size) := Lib.hid hb.size
        have HRf07 := Lib.hid (HRf00.out.below HB7.out (Nat.le_refl _))
        have HRf17 := Lib.hid (HRf10.out.below HB7.out (Nat.le_refl _))
        have HKa17 := Lib.hid ((hb.block _ (lt_of_block HKa16.out)).trans HKa16.out)
        have HRwc07 := Lib.hid (HRwc06.out.below hb (Nat.le_refl _))
        have HKwb07 := Lib.hid ((hb.block _ (lt_of_block HKwb06.out)).trans HKwb06.out)
        have HBs3_7 : Hid (Below w3.heap.size w3 w7) := Lib.hid (HBs3_6.out.trans (hb.mono HBs3_6.out.size))
        have HBs5_7 : Hid (Below w5.heap.size w5 w7) := Lib.hid (HBs5_6.out.trans (hb.mono HBs5_6.out.size))
        clear hb
        obtain ⟨pwc1, kwc1, rfl⟩ := ho.form
        have HRwc17 := Lib.hid (ho.reads)
        have HBs7_7 : Hid (Below w7.heap.size w7 w7) := Lib.hid (Below.refl _ _)
        clear ho
        clear ca10 fa10 lta1 cwb00 fwb00 ltwb0
        have lta1 := lt_of_block HKa17.out
        obtain ⟨ca10, fa10⟩ := cell1 HKa17.out
        have ltwb0 := lt_of_block HKwb07.out
        obtain ⟨cwb00, fwb00⟩ := cell1 HKwb07.out
        try go_simp
        refine hK.out _ _ (ca10) (fun hHeld => ?_)
        clear hK K
        try simp only [Act.put, List.setIfInBounds_toArray, List.set_cons_zero, List.set_cons_succ]
        refine wpAnyH_ready (rs := [5]) (by kernel_rfl) (by simp) ?_
        refine AllReadyH.cons rfl (fun K hK => ?_) AllReadyH.nil
        go_simp
        go_at_call 34
        refine (HS.out _ _ _ HRwc07.out HRwc17.out).mono ?_
        rintro e w8 ⟨⟨tw0, rfl, ho⟩, hb⟩
        have HB8 : Hid (Below w.heap.size w w8) := Lib.hid (HB7.out.trans (hb.mono HB7.out.size))
        have HZ8 : Hid (w7.heap.size ≤ w8.heap.size) := Lib.hid hb.size
        have HRf08 := Lib.hid (HRf00.out.below HB8.out (Nat.le_refl _))
        have HRf18 := Lib.hid (HRf10.out.below HB8.out (Nat.le_refl _))
        have HKa18 := Lib.hid ((hb.block _ (lt_of_block HKa17.out)).trans HKa17.out)
        have HRwc08 := Lib.hid (HRwc07.out.below hb (Nat.le_refl _))
        have HKwb08 := Lib.hid ((hb.block _ (lt_of_block HKwb07.out)).trans HKwb07.out)
        have HRwc18 := Lib.hid (HRwc17.out.below hb (Nat.le_refl _))
        have HBs3_8 : Hid (Below w3.heap.size w3 w8) := Lib.hid (HBs3_7.out.trans (hb.mono HBs3_7.out.size))
        have HBs5_8 : Hid (Below w5.heap.size w5 w8) := Lib.hid (HBs5_7.out.trans (hb.mono HBs5_7.out.size))
        have HBs7_8 : Hid (Below w7.heap.size w7 w8) := Lib.hid (HBs7_7.out.trans (hb.mono HBs7_7.out.size))
        clear hb
        obtain ⟨pw0, kw0, rfl⟩ := ho.form
        have HOw8 := Lib.hid (ho)
        clear ho
        clear ca10 fa10 lta1 cwb00 fwb00 ltwb0
        have lta1 := lt_of_block HKa18.out
        obtain ⟨ca10, fa10⟩ := cell1 HKa18.out
        have ltwb0 := lt_of_block HKwb08.out
        obtain ⟨cwb00, fwb00⟩ := cell1 HKwb08.out
        try go_simp
        refine hK.out _ _ (ca10) (fun hHeld => ?_)
        clear hK K
        try simp only [Act.put, List.setIfInBounds_toArray, List.set_cons_zero, List.set_cons_succ]
        refine take1 (i := 6) (v := ?v12) (some 29) rfl rfl (by kernel_rfl) (by kernel_rfl) (by kernel_rfl) (fun _ _ _ h => h) (Or.inl ⟨by rfl, ?y12⟩) (by assumption) ?r12
        case y12 => (intro w hSw; (try dsimp only at hSw); go_simp; (first | done | with_reducible rfl))
        try simp only [Act.put, List.setIfInBounds_toArray, List.set_cons_zero, List.set_cons_succ]
        refine take1 (i := 7) (v := ?v13) (some 36) rfl rfl (by kernel_rfl) (by kernel_rfl) (by kernel_rfl) (fun _ _ _ h => h) (Or.inl ⟨by rfl, ?y13⟩) (by assumption) ?r13
        case y13 => (intro w hSw; (try dsimp only at hSw); go_simp; (first | done | with_reducible rfl))
        try simp only [Act.put, List.setIfInBounds_toArray, List.set_cons_zero, List.set_cons_succ]
        refine take1 (i := 8) (v := ?v14) (some 37) rfl rfl (by kernel_rfl) (by kernel_rfl) (by kernel_rfl) (fun _ _ _ h => h) (Or.inl ⟨by rfl, ?y14⟩) (by assumption) ?r14
        case y14 => (intro w hSw; (try dsimp only at hSw); go_simp; (first | done | with_reducible rfl))
        try simp only [Act.put, List.setIfInBounds_toArray, List.set_cons_zero, List.set_cons_succ]
        refine wpAnyH_ready (rs := [10]) (by kernel_rfl) (by simp) ?_
        refine AllReadyH.cons rfl (fun K hK => ?_) AllReadyH.nil
        go_simp
        have hkb := box1_set HKwb08.out (.slice pw0 qs0.length kw0)
        have hm : Btw w5.heap.size (w5.heap.size + 1) w8 (w8.setCell ⟨w5.heap.size, 0, none⟩ (.slice pw0 qs0.length kw0)) := (Btw.refl (w5.heap.size) (w5.heap.size + 1) w8).setCell (p := ⟨w5.heap.size, 0, none⟩) (Nat.le_refl _) (Nat.lt_succ_self _) _
        generalize w8.setCell ⟨w5.heap.size, 0, none⟩ (.slice pw0 qs0.length kw0) = w9 at hkb hm ⊢
        have HZ9 : Hid (w8.heap.size ≤ w9.heap.size) := Lib.hid hm.size
        have HB9 : Hid (Below w.heap.size w w9) := Lib.hid (HB8.out.trans (hm.below.mono (by have := HZ1.out; have := HZ2.out; have := HZ3.out; have := HZ4.out; have := HZ5.out; have := HZ6.out; have := HZ7.out; have := HZ8.out; have := HB0.out.size; omega)))
        have HRf09 := Lib.hid (HRf00.out.below HB9.out (Nat.le_refl _))
        have HRf19 := Lib.hid (HRf10.out.below HB9.out (Nat.le_refl _))
        have HKa19 := Lib.hid ((hm.block _ (by have := lt_of_block HKa18.out; have := HZ1.out; have := HZ2.out; have := HZ3.out; have := HZ4.out; have := HZ5.out; have := HZ6.out; have := HZ7.out; have := HZ8.out; omega)).trans HKa18.out)
        have HOw9 := Lib.hid (HOw8.out.btw hm (by have := HZ1.out; have := HZ2.out; have := HZ3.out; have := HZ4.out; have := HZ5.out; have := HZ6.out; have := HZ7.out; have := HZ8.out; omega))
        have HBs3_9 : Hid (Below w3.heap.size w3 w9) := Lib.hid (HBs3_8.out.trans (hm.below.mono (by have := HZ1.out; have := HZ2.out; have := HZ3.out; have := HZ4.out; have := HZ5.out; have := HZ6.out; have := HZ7.out; have := HZ8.out; omega)))
        clear hm
        have HKwb09 := Lib.hid (hkb)
        clear hkb
        clear ca10 fa10 lta1 cwb00 fwb00 ltwb0
        have lta1 := lt_of_block HKa19.out
        obtain ⟨ca10, fa10⟩ := cell1 HKa19.out
        have ltwb0 := lt_of_block HKwb09.out
        obtain ⟨cwb00, fwb00⟩ := cell1 HKwb09.out
        refine hK.out _ _ (ca10) (fun hHeld => ?_)
        clear hK K
        try simp only [Act.put]
        refine take1 (i := 11) (v := ?v15) (some 9) rfl rfl (by kernel_rfl) (by kernel_rfl) (by kernel_rfl) (fun _ _ _ h => h) (Or.inl ⟨by rfl, ?y15⟩) (by assumption) ?r15
        case y15 => (intro w hSw; (try dsimp only at hSw); go_simp; (first | done | with_reducible rfl))
        try simp only [Act.put, List.setIfInBounds_toArray, List.set_cons_zero, List.set_cons_succ]
        refine wpAnyH_done (by kernel_rfl) ?_ _
        go_wp2_with fail
        go_meet
        exact ⟨w5.heap.size, pw0, kw0, rfl, rfl, HKwb09.out, HOw9.out.reads, HBs3_9.out⟩
    · go_simp
      have hb : Below w4.heap.size w4 (w4.alloc (.cells #[.slice none 0 0] 34)) := (Below.refl _ _).alloc (Nat.le_refl _) _
      have hk : (w4.alloc (.cells #[.slice none 0 0] 34)).heap[w4.heap.size]? = some (.cells #[.slice none 0 0] 34 (0, 0)) := alloc_at rfl
      have hz : (w4.alloc (.cells #[.slice none 0 0] 34)).heap.size = w4.heap.size + 1 := by simp
      generalize w4.alloc (.cells #[.slice none 0 0] 34) = w5 at hb hk hz ⊢
      have HB5 : Hid (Below w.heap.size w w5) := Lib.hid (HB4.out.trans (hb.mono HB4.out.size))
      have HZ5 : Hid (w4.heap.size ≤ w5.heap.size) := Lib.hid hb.size
      have HRf05 := Lib.hid (HRf00.out.below HB5.out (Nat.le_refl _))
      have HRf15 := Lib.hid (HRf10.out.below HB5.out (Nat.le_refl _))
      have HKa15 := Lib.hid ((hb.block _ (lt_of_block HKa14.out)).trans HKa14.out)
      have HBs3_5 : Hid (Below w3.heap.size w3 w5) := Lib.hid (HBs3_4.out.trans (hb.mono HBs3_4.out.size))
      have HKwb05 := Lib.hid hk
      replace HZ5 : Hid (w4.heap.size < w5.heap.size) := Lib.hid (by omega)
      have HE5 := Lib.hid hz
      clear hb hk hz
      clear ca10 fa10 lta1
      have lta1 := lt_of_block HKa15.out
      obtain ⟨ca10, fa10⟩ := cell1 HKa15.out
      have ltwb0 := lt_of_block HKwb05.out
      obtain ⟨cwb00, fwb00⟩ := cell1 HKwb05.out
      refine hK.out _ _ (ca10) (fun hHeld => ?_)
      clear hK K
      try simp only [Act.put, List.setIfInBounds_toArray, List.set_cons_zero, List.set_cons_succ]
      refine wpAnyH_ready (rs := [1]) (by kernel_rfl) (by simp) ?_
      refine AllReadyH.cons rfl (fun K hK => ?_) AllReadyH.nil
      go_simp
      go_at_call 15
      refine (toUnitS_any _ us0 _ HRf05.out hn0).mono ?_
      rintro e w6 ⟨⟨swc0, rfl, ho⟩, hb⟩
      have HB6 : Hid (Below w.heap.size w w6) := Lib.hid (HB5.out.trans (hb.mono HB5.out.size))
      have HZ6 : Hid (w5.heap.size ≤ w6.heap.size) := Lib.hid hb.size
      have HRf06 := Lib.hid (HRf00.out.below HB6.out (Nat.le_refl _))
      have HRf16 := Lib.hid (HRf10.out.below HB6.out (Nat.le_refl _))
      have HKa16 := Lib.hid ((hb.block _ (lt_of_block HKa15.out)).trans HKa15.out)
      have HKwb06 := Lib.hid ((hb.block _ (lt_of_block HKwb05.out)).trans HKwb05.out)
      have HBs3_6 : Hid (Below w3.heap.size w3 w6) := Lib.hid (HBs3_5.out.trans (hb.mono HBs3_5.out.size))
      clear hb
      obtain ⟨pwc0, kwc0, rfl⟩ := own_form ho
      have HRwc06 := Lib.hid (RowsR.of_own unC_len ho)
      have HBs6_6 : Hid (Below w6.heap.size w6 w6) := Lib.hid (Below.refl _ _)
      clear ho
      clear ca10 fa10 lta1 cwb00 fwb00 ltwb0
      have lta1 := lt_of_block HKa16.out
      obtain ⟨ca10, fa10⟩ := cell1 HKa16.out
      have ltwb0 := lt_of_block HKwb06.out
      obtain ⟨cwb00, fwb00⟩ := cell1 HKwb06.out
      try go_simp
      refine hK.out _ _ (ca10) (fun hHeld => ?_)
      clear hK K
      try simp only [Act.put, List.setIfInBounds_toArray, List.set_cons_zero, List.set_cons_succ]
      refine wpAnyH_ready (rs := [3]) (by kernel_rfl) (by simp) ?_
      refine AllReadyH.cons rfl (fun K hK => ?_) AllReadyH.nil
      go_simp
      go_at_call 20
      refine (toAmount_any _ cs1 _ HRf16.out hn1).mono ?_
      rintro e w7 ⟨⟨swc1, rfl, ho⟩, hb⟩
      have HB7 : Hid (Below w.heap.size w w7) := Lib.hid (HB6.out.trans (hb.mono HB6.out.size))
      have HZ7 : Hid (w6.heap.size ≤ w7.heap.size) := Lib.hid hb.size
      have HRf07 := Lib.hid (HRf00.out.below HB7.out (Nat.le_refl _))
      have HRf17 := Lib.hid (HRf10.out.below HB7.out (Nat.le_refl _))
      have HKa17 := Lib.hid ((hb.block _ (lt_of_block HKa16.out)).trans HKa16.out)
      have HKwb07 := Lib.hid ((hb.block _ (lt_of_block HKwb06.out)).trans HKwb06.out)
      have HRwc07 := Lib.hid (HRwc06.out.below hb (Nat.le_refl _))
      have HBs3_7 : Hid (Below w3.heap.size w3 w7) := Lib.hid (HBs3_6.out.trans (hb.mono HBs3_6.out.size))
      have HBs6_7 : Hid (Below w6.heap.size w6 w7) := Lib.hid (HBs6_6.out.trans (hb.mono HBs6_6.out.size))
      clear hb
      obtain ⟨pwc1, kwc1, rfl⟩ := ho.form
      have HRwc17 := Lib.hid (ho.reads)
      have HBs7_7 : Hid (Below w7.heap.size w7 w7) := Lib.hid (Below.refl _ _)
      clear ho
      clear ca10 fa10 lta1 cwb00 fwb00 ltwb0
      have lta1 := lt_of_block HKa17.out
      obtain ⟨ca10, fa10⟩ := cell1 HKa17.out
      have ltwb0 := lt_of_block HKwb07.out
      obtain ⟨cwb00, fwb00⟩ := cell1 HKwb07.out
      try go_simp
      refine hK.out _ _ (ca10) (fun hHeld => ?_)
      clear hK K
      try simp only [Act.put, List.setIfInBounds_toArray, List.set_cons_zero, List.set_cons_succ]
      refine wpAnyH_ready (rs := [5]) (by kernel_rfl) (by simp) ?_
      refine AllReadyH.cons rfl (fun K hK => ?_) AllReadyH.nil
      go_simp
      go_at_call 34
      refine (HS.out _ _ _ HRwc07.out HRwc17.out).mono ?_
      rintro e w8 ⟨⟨tw0, rfl, ho⟩, hb⟩
      have HB8 : Hid (Below w.heap.size w w8) := Lib.hid (HB7.out.trans (hb.mono HB7.out.size))
      have HZ8 : Hid (w7.heap.size ≤ w8.heap.size) := Lib.hid hb.size
      have HRf08 := Lib.hid (HRf00.out.below HB8.out (Nat.le_refl _))
      have HRf18 := Lib.hid (HRf10.out.below HB8.out (Nat.le_refl _))
      have HKa18 := Lib.hid ((hb.block _ (lt_of_block HKa17.out)).trans HKa17.out)
      have HKwb08 := Lib.hid ((hb.block _ (lt_of_block HKwb07.out)).trans HKwb07.out)
      have HRwc08 := Lib.hid (HRwc07.out.below hb (Nat.le_refl _))
      have HRwc18 := Lib.hid (HRwc17.out.below hb (Nat.le_refl _))
      have HBs3_8 : Hid (Below w3.heap.size w3 w8) := Lib.hid (HBs3_7.out.trans (hb.mono HBs3_7.out.size))
      have HBs6_8 : Hid (Below w6.heap.size w6 w8) := Lib.hid (HBs6_7.out.trans (hb.mono HBs6_7.out.size))
      have HBs7_8 : Hid (Below w7.heap.size w7 w8) := Lib.hid (HBs7_7.out.trans (hb.mono HBs7_7.out.size))
      clear hb
      obtain ⟨pw0, kw0, rfl⟩ := ho.form
      have HOw8 := Lib.hid (ho)
      clear ho
      clear ca10 fa10 lta1 cwb00 fwb00 ltwb0
      have lta1 := lt_of_block HKa18.out
      obtain ⟨ca10, fa10⟩ := cell1 HKa18.out
      have ltwb0 := lt_of_block HKwb08.out
      obtain ⟨cwb00, fwb00⟩ := cell1 HKwb08.out
      try go_simp
      refine hK.out _ _ (ca10) (fun hHeld => ?_)
      clear hK K
      try simp only [Act.put, List.setIfInBounds_toArray, List.set_cons_zero, List.set_cons_succ]
      refine take1 (i := 6) (v := ?v16) (some 29) rfl rfl (by kernel_rfl) (by kernel_rfl) (by kernel_rfl) (fun _ _ _ h => h) (Or.inl ⟨by rfl, ?y16⟩) (by assumption) ?r16
      case y16 => (intro w hSw; (try dsimp only at hSw); go_simp; (first | done | with_reducible rfl))
      try simp only [Act.put, List.setIfInBounds_toArray, List.set_cons_zero, List.set_cons_succ]
      refine take1 (i := 7) (v := ?v17) (some 36) rfl rfl (by kernel_rfl) (by kernel_rfl) (by kernel_rfl) (fun _ _ _ h => h) (Or.inl ⟨by rfl, ?y17⟩) (by assumption) ?r17
      case y17 => (intro w hSw; (try dsimp only at hSw); go_simp; (first | done | with_reducible rfl))
      try simp only [Act.put, List.setIfInBounds_toArray, List.set_cons_zero, List.set_cons_succ]
      refine take1 (i := 8) (v := ?v18) (some 37) rfl rfl (by kernel_rfl) (by kernel_rfl) (by kernel_rfl) (fun _ _ _ h => h) (Or.inl ⟨by rfl, ?y18⟩) (by assumption) ?r18
      case y18 => (intro w hSw; (try dsimp only at hSw); go_simp; (first | done | with_reducible rfl))
      try simp only [Act.put, List.setIfInBounds_toArray, List.set_cons_zero, List.set_cons_succ]
      refine wpAnyH_ready (rs := [10]) (by kernel_rfl) (by simp) ?_
      refine AllReadyH.cons rfl (fun K hK => ?_) AllReadyH.nil
      go_simp
      have hkb := box1_set HKwb08.out (.slice pw0 qs0.length kw0)
      have hm : Btw w4.heap.size (w4.heap.size + 1) w8 (w8.setCell ⟨w4.heap.size, 0, none⟩ (.slice pw0 qs0.length kw0)) := (Btw.refl (w4.heap.size) (w4.heap.size + 1) w8).setCell (p := ⟨w4.heap.size, 0, none⟩) (Nat.le_refl _) (Nat.lt_succ_self _) _
      generalize w8.setCell ⟨w4.heap.size, 0, none⟩ (.slice pw0 qs0.length kw0) = w9 at hkb hm ⊢
      have HZ9 : Hid (w8.heap.size ≤ w9.heap.size) := Lib.hid hm.size
      have HB9 : Hid (Below w.heap.size w w9) := Lib.hid (HB8.out.trans (hm.below.mono (by have := HZ1.out; have := HZ2.out; have := HZ3.out; have := HZ4.out; have := HZ5.out; have := HZ6.out; have := HZ7.out; have := HZ8.out; have := HB0.out.size; omega)))
      have HRf09 := Lib.hid (HRf00.out.below HB9.out (Nat.le_refl _))
      have HRf19 := Lib.hid (HRf10.out.below HB9.out (Nat.le_refl _))
      have HKa19 := Lib.hid ((hm.block _ (by have := lt_of_block HKa18.out; have := HZ1.out; have := HZ2.out; have := HZ3.out; have := HZ4.out; have := HZ5.out; have := HZ6.out; have := HZ7.out; have := HZ8.out; omega)).trans HKa18.out)
      have HOw9 := Lib.hid (HOw8.out.btw hm (by have := HZ1.out; have := HZ2.out; have := HZ3.out; have := HZ4.out; have := HZ5.out; have := HZ6.out; have := HZ7.out; have := HZ8.out; omega))
      have HBs3_9 : Hid (Below w3.heap.size w3 w9) := Lib.hid (HBs3_8.out.trans (hm.below.mono (by have := HZ1.out; have := HZ2.out; have := HZ3.out; have := HZ4.out; have := HZ5.out; have := HZ6.out; have := HZ7.out; have := HZ8.out; omega)))
      clear hm
      have HKwb09 := Lib.hid (hkb)
      clear hkb
      clear ca10 fa10 lta1 cwb00 fwb00 ltwb0
      have lta1 := lt_of_block HKa19.out
      obtain ⟨ca10, fa10⟩ := cell1 HKa19.out
      have ltwb0 := lt_of_block HKwb09.out
      obtain ⟨cwb00, fwb00⟩ := cell1 HKwb09.out
      refine hK.out _ _ (ca10) (fun hHeld => ?_)
      clear hK K
      try simp only [Act.put]
      refine take1 (i := 11) (v := ?v19) (some 9) rfl rfl (by kernel_rfl) (by kernel_rfl) (by kernel_rfl) (fun _ _ _ h => h) (Or.inl ⟨by rfl, ?y19⟩) (by assumption) ?r19
      case y19 => (intro w hSw; (try dsimp only at hSw); go_simp; (first | done | with_reducible rfl))
      try simp only [Act.put, List.setIfInBounds_toArray, List.set_cons_zero, List.set_cons_succ]
      refine wpAnyH_done (by kernel_rfl) ?_ _
      go_wp2_with fail
      go_meet
      exact ⟨w4.heap.size, pw0, kw0, rfl, rfl, HKwb09.out, HOw9.out.reads, HBs3_9.out⟩
  case rest =>
    obtain ⟨bw0, pw0, kw0, rfl, rfl, hkq0, hrq0, hb⟩ := hcut
    rename World => w4
    have HB4 : Hid (Below w.heap.size w w4) := Lib.hid (HB3.out.trans (hb.mono HB3.out.size))
    have HZ4 : Hid (w3.heap.size ≤ w4.heap.size) := Lib.hid hb.size
    have HRf04 := Lib.hid (HRf00.out.below HB4.out (Nat.le_refl _))
    have HRf14 := Lib.hid (HRf10.out.below HB4.out (Nat.le_refl _))
    have HKa14 := Lib.hid ((hb.block _ (lt_of_block HKa13.out)).trans HKa13.out)
    clear hb
    have hltw0 := lt_of_block hkq0
    have HKwb04 := Lib.hid (hkq0)
    have HRw04 := Lib.hid (hrq0)
    have HBs4_4 : Hid (Below w4.heap.size w4 w4) := Lib.hid (Below.refl _ _)
    clear hkq0 hrq0
    clear ca10 fa10 lta1
    have lta1 := lt_of_block HKa14.out
    obtain ⟨ca10, fa10⟩ := cell1 HKa14.out
    have ltwb0 := lt_of_block HKwb04.out
    obtain ⟨cwb00, fwb00⟩ := cell1 HKwb04.out
    go_wp2_with fail
    refine (toUnitS_any _ us0 _ HRf04.out hn0).mono ?_
    rintro e w5 ⟨⟨sx0, rfl, ho⟩, hb⟩
    have HB5 : Hid (Below w.heap.size w w5) := Lib.hid (HB4.out.trans (hb.mono HB4.out.size))
    have HZ5 : Hid (w4.heap.size ≤ w5.heap.size) := Lib.hid hb.size
    have HRf05 := Lib.hid (HRf00.out.below HB5.out (Nat.le_refl _))
    have HRf15 := Lib.hid (HRf10.out.below HB5.out (Nat.le_refl _))
    have HKa15 := Lib.hid ((hb.block _ (lt_of_block HKa14.out)).trans HKa14.out)
    have HKwb05 := Lib.hid ((hb.block _ (lt_of_block HKwb04.out)).trans HKwb04.out)
    have HRw05 := Lib.hid (HRw04.out.below hb (Nat.le_refl _))
    have HBs4_5 : Hid (Below w4.heap.size w4 w5) := Lib.hid (HBs4_4.out.trans (hb.mono HBs4_4.out.size))
    clear hb
    obtain ⟨px0, kx0, rfl⟩ := own_form ho
    have HOx05 := Lib.hid (Ow.mk' ho)
    clear ho
    clear ca10 fa10 lta1 cwb00 fwb00 ltwb0
    have lta1 := lt_of_block HKa15.out
    obtain ⟨ca10, fa10⟩ := cell1 HKa15.out
    have ltwb0 := lt_of_block HKwb05.out
    obtain ⟨cwb00, fwb00⟩ := cell1 HKwb05.out
    go_wp2_with fail
    refine (toAmount_any _ cs1 _ HRf15.out hn1).mono ?_
    rintro e w6 ⟨⟨sx1, rfl, ho⟩, hb⟩
    have HB6 : Hid (Below w.heap.size w w6) := Lib.hid (HB5.out.trans (hb.mono HB5.out.size))
    have HZ6 : Hid (w5.heap.size ≤ w6.heap.size) := Lib.hid hb.size
    have HRf06 := Lib.hid (HRf00.out.below HB6.out (Nat.le_refl _))
    have HRf16 := Lib.hid (HRf10.out.below HB6.out (Nat.le_refl _))
    have HKa16 := Lib.hid ((hb.block _ (lt_of_block HKa15.out)).trans HKa15.out)
    have HKwb06 := Lib.hid ((hb.block _ (lt_of_block HKwb05.out)).trans HKwb05.out)
    have HRw06 := Lib.hid (HRw05.out.below hb (Nat.le_refl _))
    have HOx06 := Lib.hid (HOx05.out.next hb)
    have HBs4_6 : Hid (Below w4.heap.size w4 w6) := Lib.hid (HBs4_5.out.trans (hb.mono HBs4_5.out.size))
    clear hb
    obtain ⟨px1, kx1, rfl⟩ := ho.form
    have HOx16 := Lib.hid (ho)
    clear ho
    clear ca10 fa10 lta1 cwb00 fwb00 ltwb0
    have lta1 := lt_of_block HKa16.out
    obtain ⟨ca10, fa10⟩ := cell1 HKa16.out
    have ltwb0 := lt_of_block HKwb06.out
    obtain ⟨cwb00, fwb00⟩ := cell1 HKwb06.out
    go_wp2_with fail
    have hb : Below w6.heap.size w6 (w6.alloc (.cells #[.slice px1 cs1.length kx1] 34)) := (Below.refl _ _).alloc (Nat.le_refl _) _
    have hk : (w6.alloc (.cells #[.slice px1 cs1.length kx1] 34)).heap[w6.heap.size]? = some (.cells #[.slice px1 cs1.length kx1] 34 (0, 0)) := alloc_at rfl
    have hz : (w6.alloc (.cells #[.slice px1 cs1.length kx1] 34)).heap.size = w6.heap.size + 1 := by simp
    generalize w6.alloc (.cells #[.slice px1 cs1.length kx1] 34) = w7 at hb hk hz ⊢
    have HB7 : Hid (Below w.heap.size w w7) := Lib.hid (HB6.out.trans (hb.mono HB6.out.size))
    have HZ7 : Hid (w6.heap.size ≤ w7.heap.size) := Lib.hid hb.size
    have HRf07 := Lib.hid (HRf00.out.below HB7.out (Nat.le_refl _))
    have HRf17 := Lib.hid (HRf10.out.below HB7.out (Nat.le_refl _))
    have HKa17 := Lib.hid ((hb.block _ (lt_of_block HKa16.out)).trans HKa16.out)
    have HKwb07 := Lib.hid ((hb.block _ (lt_of_block HKwb06.out)).trans HKwb06.out)
    have HRw07 := Lib.hid (HRw06.out.below hb (Nat.le_refl _))
    have HOx07 := Lib.hid (HOx06.out.next hb)
    have HOx17 := Lib.hid (HOx16.out.next hb)
    have HBs4_7 : Hid (Below w4.heap.size w4 w7) := Lib.hid (HBs4_6.out.trans (hb.mono HBs4_6.out.size))
    have HKx17 := Lib.hid hk
    replace HZ7 : Hid (w6.heap.size < w7.heap.size) := Lib.hid (by omega)
    have HE7 := Lib.hid hz
    clear hb hk hz
    clear ca10 fa10 lta1 cwb00 fwb00 ltwb0
    have lta1 := lt_of_block HKa17.out
    obtain ⟨ca10, fa10⟩ := cell1 HKa17.out
    have ltwb0 := lt_of_block HKwb07.out
    obtain ⟨cwb00, fwb00⟩ := cell1 HKwb07.out
    have ltx1 := lt_of_block HKx17.out
    obtain ⟨cx10, fx10⟩ := cell1 HKx17.out
    refine (HI.out _ _ _ (RowsR.of_own unC_len HOx07.out.1) HOx17.out.reads).mono ?_
    rintro e w8 ⟨⟨tg0, rfl, ho⟩, hb⟩
    have HB8 : Hid (Below w.heap.size w w8) := Lib.hid (HB7.out.trans (hb.mono HB7.out.size))
    have HZ8 : Hid (w7.heap.size ≤ w8.heap.size) := Lib.hid hb.size
    have HRf08 := Lib.hid (HRf00.out.below HB8.out (Nat.le_refl _))
    have HRf18 := Lib.hid (HRf10.out.below HB8.out (Nat.le_refl _))
    have HKa18 := Lib.hid ((hb.block _ (lt_of_block HKa17.out)).trans HKa17.out)
    have HKwb08 := Lib.hid ((hb.block _ (lt_of_block HKwb07.out)).trans HKwb07.out)
    have HRw08 := Lib.hid (HRw07.out.below hb (Nat.le_refl _))
    have HOx08 := Lib.hid (HOx07.out.next hb)
    have HOx18 := Lib.hid (HOx17.out.next hb)
    have HKx18 := Lib.hid ((hb.block _ (lt_of_block HKx17.out)).trans HKx17.out)
    have HBs4_8 : Hid (Below w4.heap.size w4 w8) := Lib.hid (HBs4_7.out.trans (hb.mono HBs4_7.out.size))
    clear hb
    obtain ⟨pg0, kg0, rfl⟩ := ho.form
    have HOg8 := Lib.hid (ho)
    clear ho
    clear ca10 fa10 lta1 cwb00 fwb00 ltwb0 cx10 fx10 ltx1
    have lta1 := lt_of_block HKa18.out
    obtain ⟨ca10, fa10⟩ := cell1 HKa18.out
    have ltwb0 := lt_of_block HKwb08.out
    obtain ⟨cwb00, fwb00⟩ := cell1 HKwb08.out
    have ltx1 := lt_of_block HKx18.out
    obtain ⟨cx10, fx10⟩ := cell1 HKx18.out
    go_wp2_with fail
    have hb : Below w8.heap.size w8 (w8.alloc (.cells #[.slice pg0 qs0.length kg0] 34)) := (Below.refl _ _).alloc (Nat.le_refl _) _
    have hk : (w8.alloc (.cells #[.slice pg0 qs0.length kg0] 34)).heap[w8.heap.size]? = some (.cells #[.slice pg0 qs0.length kg0] 34 (0, 0)) := alloc_at rfl
    have hz : (w8.alloc (.cells #[.slice pg0 qs0.length kg0] 34)).heap.size = w8.heap.size + 1 := by simp
    generalize w8.alloc (.cells #[.slice pg0 qs0.length kg0] 34) = w9 at hb hk hz ⊢
    have HB9 : Hid (Below w.heap.size w w9) := Lib.hid (HB8.out.trans (hb.mono HB8.out.size))
    have HZ9 : Hid (w8.heap.size ≤ w9.heap.size) := Lib.hid hb.size
    have HRf09 := Lib.hid (HRf00.out.below HB9.out (Nat.le_refl _))
    have HRf19 := Lib.hid (HRf10.out.below HB9.out (Nat.le_refl _))
    have HKa19 := Lib.hid ((hb.block _ (lt_of_block HKa18.out)).trans HKa18.out)
    have HKwb09 := Lib.hid ((hb.block _ (lt_of_block HKwb08.out)).trans HKwb08.out)
    have HRw09 := Lib.hid (HRw08.out.below hb (Nat.le_refl _))
    have HOx09 := Lib.hid (HOx08.out.next hb)
    have HOx19 := Lib.hid (HOx18.out.next hb)
    have HKx19 := Lib.hid ((hb.block _ (lt_of_block HKx18.out)).trans HKx18.out)
    have HOg9 := Lib.hid (HOg8.out.next hb)
    have HBs4_9 : Hid (Below w4.heap.size w4 w9) := Lib.hid (HBs4_8.out.trans (hb.mono HBs4_8.out.size))
    have HKgb09 := Lib.hid hk
    replace HZ9 : Hid (w8.heap.size < w9.heap.size) := Lib.hid (by omega)
    have HE9 := Lib.hid hz
    clear hb hk hz
    clear ca10 fa10 lta1 cwb00 fwb00 ltwb0 cx10 fx10 ltx1
    have lta1 := lt_of_block HKa19.out
    obtain ⟨ca10, fa10⟩ := cell1 HKa19.out
    have ltwb0 := lt_of_block HKwb09.out
    obtain ⟨cwb00, fwb00⟩ := cell1 HKwb09.out
    have ltx1 := lt_of_block HKx19.out
    obtain ⟨cx10, fx10⟩ := cell1 HKx19.out
    have ltgb0 := lt_of_block HKgb09.out
    obtain ⟨cgb00, fgb00⟩ := cell1 HKgb09.out
    refine (eqAmount_yes _ _ qs0 _ HOg9.out.reads HRw09.out).mono ?_
    rintro e w10 ⟨rfl, hb⟩
    have HB10 : Hid (Below w.heap.size w w10) := Lib.hid (HB9.out.trans (hb.mono HB9.out.size))
    have HZ10 : Hid (w9.heap.size ≤ w10.heap.size) := Lib.hid hb.size
    have HRf010 := Lib.hid (HRf00.out.below HB10.out (Nat.le_refl _))
    have HRf110 := Lib.hid (HRf10.out.below HB10.out (Nat.le_refl _))
    have HKa110 := Lib.hid ((hb.block _ (lt_of_block HKa19.out)).trans HKa19.out)
    have HKwb010 := Lib.hid ((hb.block _ (lt_of_block HKwb09.out)).trans HKwb09.out)
    have HRw010 := Lib.hid (HRw09.out.below hb (Nat.le_refl _))
    have HOx010 := Lib.hid (HOx09.out.next hb)
    have HOx110 := Lib.hid (HOx19.out.next hb)
    have HKx110 := Lib.hid ((hb.block _ (lt_of_block HKx19.out)).trans HKx19.out)
    have HOg10 := Lib.hid (HOg9.out.next hb)
    have HKgb010 := Lib.hid ((hb.block _ (lt_of_block HKgb09.out)).trans HKgb09.out)
    have HBs4_10 : Hid (Below w4.heap.size w4 w10) := Lib.hid (HBs4_9.out.trans (hb.mono HBs4_9.out.size))
    clear hb
    clear ca10 fa10 lta1 cwb00 fwb00 ltwb0 cx10 fx10 ltx1 cgb00 fgb00 ltgb0
    have lta1 := lt_of_block HKa110.out
    obtain ⟨ca10, fa10⟩ := cell1 HKa110.out
    have ltwb0 := lt_of_block HKwb010.out
    obtain ⟨cwb00, fwb00⟩ := cell1 HKwb010.out
    have ltx1 := lt_of_block HKx110.out
    obtain ⟨cx10, fx10⟩ := cell1 HKx110.out
    have ltgb0 := lt_of_block HKgb010.out
    obtain ⟨cgb00, fgb00⟩ := cell1 HKgb010.out
    go_wp2_with fail
    refine (toUnitS_any _ us0 _ HRf010.out hn0).mono ?_
    rintro e w11 ⟨⟨sy0, rfl, ho⟩, hb⟩
    have HB11 : Hid (Below w.heap.size w w11) := Lib.hid (HB10.out.trans (hb.mono HB10.out.size))
    have HZ11 : Hid (w10.heap.size ≤ w11.heap.size) := Lib.hid hb.size
    have HRf011 := Lib.hid (HRf00.out.below HB11.out (Nat.le_refl _))
    have HRf111 := Lib.hid (HRf10.out.below HB11.out (Nat.le_refl _))
    have HKa111 := Lib.hid ((hb.block _ (lt_of_block HKa110.out)).trans HKa110.out)
    have HKwb011 := Lib.hid ((hb.block _ (lt_of_block HKwb010.out)).trans HKwb010.out)
    have HRw011 := Lib.hid (HRw010.out.below hb (Nat.le_refl _))
    have HOx011 := Lib.hid (HOx010.out.next hb)
    have HOx111 := Lib.hid (HOx110.out.next hb)
    have HKx111 := Lib.hid ((hb.block _ (lt_of_block HKx110.out)).trans HKx110.out)
    have HOg11 := Lib.hid (HOg10.out.next hb)
    have HKgb011 := Lib.hid ((hb.block _ (lt_of_block HKgb010.out)).trans HKgb010.out)
    have HBs4_11 : Hid (Below w4.heap.size w4 w11) := Lib.hid (HBs4_10.out.trans (hb.mono HBs4_10.out.size))
    clear hb
    obtain ⟨py0, ky0, rfl⟩ := own_form ho
    have HRy011 := Lib.hid (RowsR.of_own unC_len ho)
    have HBs11_11 : Hid (Below w11.heap.size w11 w11) := Lib.hid (Below.refl _ _)
    clear ho
    clear ca10 fa10 lta1 cwb00 fwb00 ltwb0 cx10 fx10 ltx1 cgb00 fgb00 ltgb0
    have lta1 := lt_of_block HKa111.out
    obtain ⟨ca10, fa10⟩ := cell1 HKa111.out
    have ltwb0 := lt_of_block HKwb011.out
    obtain ⟨cwb00, fwb00⟩ := cell1 HKwb011.out
    have ltx1 := lt_of_block HKx111.out
    obtain ⟨cx10, fx10⟩ := cell1 HKx111.out
    have ltgb0 := lt_of_block HKgb011.out
    obtain ⟨cgb00, fgb00⟩ := cell1 HKgb011.out
    go_wp2_with fail
    refine (eqUnitS_yes _ _ us0 _ (RowsR.of_own unC_len HOx011.out.1) HRy011.out).mono ?_
    rintro e w12 ⟨rfl, hb⟩
    have HB12 : Hid (Below w.heap.size w w12) := Lib.hid (HB11.out.trans (hb.mono HB11.out.size))
    have HZ12 : Hid (w11.heap.size ≤ w12.heap.size) := Lib.hid hb.size
    have HRf012 := Lib.hid (HRf00.out.below HB12.out (Nat.le_refl _))
    have HRf112 := Lib.hid (HRf10.out.below HB12.out (Nat.le_refl _))
    have HKa112 := Lib.hid ((hb.block _ (lt_of_block HKa111.out)).trans HKa111.out)
    have HKwb012 := Lib.hid ((hb.block _ (lt_of_block HKwb011.out)).trans HKwb011.out)
    have HRw012 := Lib.hid (HRw011.out.below hb (Nat.le_refl _))
    have HOx012 := Lib.hid (HOx011.out.next hb)
    have HOx112 := Lib.hid (HOx111.out.next hb)
    have HKx112 := Lib.hid ((hb.block _ (lt_of_block HKx111.out)).trans HKx111.out)
    have HOg12 := Lib.hid (HOg11.out.next hb)
    have HKgb012 := Lib.hid ((hb.block _ (lt_of_block HKgb011.out)).trans HKgb011.out)
    have HRy012 := Lib.hid (HRy011.out.below hb (Nat.le_refl _))
    have HBs4_12 : Hid (Below w4.heap.size w4 w12) := Lib.hid (HBs4_11.out.trans (hb.mono HBs4_11.out.size))
    have HBs11_12 : Hid (Below w11.heap.size w11 w12) := Lib.hid (HBs11_11.out.trans (hb.mono HBs11_11.out.size))
    clear hb
    clear ca10 fa10 lta1 cwb00 fwb00 ltwb0 cx10 fx10 ltx1 cgb00 fgb00 ltgb0
    have lta1 := lt_of_block HKa112.out
    obtain ⟨ca10, fa10⟩ := cell1 HKa112.out
    have ltwb0 := lt_of_block HKwb012.out
    obtain ⟨cwb00, fwb00⟩ := cell1 HKwb012.out
    have ltx1 := lt_of_block HKx112.out
    obtain ⟨cx10, fx10⟩ := cell1 HKx112.out
    have ltgb0 := lt_of_block HKgb012.out
    obtain ⟨cgb00, fgb00⟩ := cell1 HKgb012.out
    go_wp2_with fail
    clear ca10 fa10 lta1 cwb00 fwb00 ltwb0 cx10 fx10 ltx1 cgb00 fgb00 ltgb0
    have lta1 := lt_of_block HKa112.out
    obtain ⟨ca10, fa10⟩ := cell1 HKa112.out
    have ltwb0 := lt_of_block HKwb012.out
    obtain ⟨cwb00, fwb00⟩ := cell1 HKwb012.out
    have ltx1 := lt_of_block HKx112.out
    obtain ⟨cx10, fx10⟩ := cell1 HKx112.out
    have ltgb0 := lt_of_block HKgb012.out
    obtain ⟨cgb00, fgb00⟩ := cell1 HKgb012.out
    go_region_held3 (fun w' => w'.cell? ⟨w6.heap.size, 0, none⟩ = some (.slice px1 cs1.length kx1) ∧ w'.cell? ⟨w.heap.size, 0, none⟩ = some (.slice ad1 cs1.length cp1))
      (first
        | go_keep
        | exact ⟨(hq1.cell (p := ⟨w6.heap.size, 0, none⟩) ltx1).trans cx10, (hq1.cell (p := ⟨w.heap.size, 0, none⟩) lta1).trans ca10⟩)
      (first
        | (go_at_call 20; refine (toAmount_any _ cs1 _ (HRf10.out.below HB12.out.drew (Nat.le_refl _)) hn1).mono ?_; rintro e w13 ⟨⟨s7, rfl, hown7⟩, hq1⟩; obtain ⟨p7, k7, rfl⟩ := hown7.form)
        | (go_at_call 22; refine (eqAmount_yes _ _ cs1 _ (HOx112.out.reads.below ((Below.refl _ w12).drew.trans hq1) (Nat.le_refl _)) hown7.reads).mono ?_; rintro e w13 ⟨rfl, hq2⟩; replace hq1 := hq1.trans (hq2.mono hq1.size); clear hq2))
    have hb := (Below.refl _ w12).drew.trans hq1
    clear hq1 hown7
    have HB13 : Hid (Below w.heap.size w w13) := Lib.hid (HB12.out.trans (hb.mono HB12.out.size))
    have HZ13 : Hid (w12.heap.size ≤ w13.heap.size) := Lib.hid hb.size
    have HRf013 := Lib.hid (HRf00.out.below HB13.out (Nat.le_refl _))
    have HRf113 := Lib.hid (HRf10.out.below HB13.out (Nat.le_refl _))
    have HKa113 := Lib.hid ((hb.block _ (lt_of_block HKa112.out)).trans HKa112.out)
    have HKwb013 := Lib.hid ((hb.block _ (lt_of_block HKwb012.out)).trans HKwb012.out)
    have HRw013 := Lib.hid (HRw012.out.below hb (Nat.le_refl _))
    have HOx013 := Lib.hid (HOx012.out.next hb)
    have HOx113 := Lib.hid (HOx112.out.next hb)
    have HKx113 := Lib.hid ((hb.block _ (lt_of_block HKx112.out)).trans HKx112.out)
    have HOg13 := Lib.hid (HOg12.out.next hb)
    have HKgb013 := Lib.hid ((hb.block _ (lt_of_block HKgb012.out)).trans HKgb012.out)
    have HBs4_13 : Hid (Below w4.heap.size w4 w13) := Lib.hid (HBs4_12.out.trans (hb.mono HBs4_12.out.size))
    clear hb
    clear ca10 fa10 lta1 cwb00 fwb00 ltwb0 cx10 fx10 ltx1 cgb00 fgb00 ltgb0
    have lta1 := lt_of_block HKa113.out
    obtain ⟨ca10, fa10⟩ := cell1 HKa113.out
    have ltwb0 := lt_of_block HKwb013.out
    obtain ⟨cwb00, fwb00⟩ := cell1 HKwb013.out
    have ltx1 := lt_of_block HKx113.out
    obtain ⟨cx10, fx10⟩ := cell1 HKx113.out
    have ltgb0 := lt_of_block HKgb013.out
    obtain ⟨cgb00, fgb00⟩ := cell1 HKgb013.out
    go_wp2_with fail
    refine (markUnitS_any _ us0.length (1) _ _ _ _ _ HOx013.out hn0 (by omega) (by have := HZ1.out; have := HZ2.out; have := HZ3.out; have := HZ4.out; have := HZ5.out; have := HZ6.out; have := HZ7.out; have := HZ8.out; have := HZ9.out; have := HZ10.out; have := HZ11.out; have := HZ12.out; have := HZ13.out;  omega)).mono ?_
    rintro e w14 ⟨rfl, ho, hm⟩
    have HZ14 : Hid (w13.heap.size ≤ w14.heap.size) := Lib.hid hm.size
    have HB14 : Hid (Below w.heap.size w w14) := Lib.hid (HB13.out.trans (hm.below.mono (by have := HZ1.out; have := HZ2.out; have := HZ3.out; have := HZ4.out; have := HZ5.out; have := HZ6.out; have := HZ7.out; have := HZ8.out; have := HZ9.out; have := HZ10.out; have := HZ11.out; have := HZ12.out; have := HZ13.out; have := HB0.out.size; omega)))
    have HRf014 := Lib.hid (HRf00.out.below HB14.out (Nat.le_refl _))
    have HRf114 := Lib.hid (HRf10.out.below HB14.out (Nat.le_refl _))
    have HKa114 := Lib.hid ((hm.block _ (by have := lt_of_block HKa113.out; have := HZ1.out; have := HZ2.out; have := HZ3.out; have := HZ4.out; have := HZ5.out; have := HZ6.out; have := HZ7.out; have := HZ8.out; have := HZ9.out; have := HZ10.out; have := HZ11.out; have := HZ12.out; have := HZ13.out; omega)).trans HKa113.out)
    have HKwb014 := Lib.hid ((hm.block _ (by have := lt_of_block HKwb013.out; have := HZ1.out; have := HZ2.out; have := HZ3.out; have := HZ4.out; have := HZ5.out; have := HZ6.out; have := HZ7.out; have := HZ8.out; have := HZ9.out; have := HZ10.out; have := HZ11.out; have := HZ12.out; have := HZ13.out; omega)).trans HKwb013.out)
    have HRw014 := Lib.hid (HRw04.out.below (HBs4_13.out.trans (hm.below.mono (by have := HZ1.out; have := HZ2.out; have := HZ3.out; have := HZ4.out; have := HZ5.out; have := HZ6.out; have := HZ7.out; have := HZ8.out; have := HZ9.out; have := HZ10.out; have := HZ11.out; have := HZ12.out; have := HZ13.out; omega))) (Nat.le_refl _))
    have HOx114 := Lib.hid (HOx113.out.btw hm (by have := HZ1.out; have := HZ2.out; have := HZ3.out; have := HZ4.out; have := HZ5.out; have := HZ6.out; have := HZ7.out; have := HZ8.out; have := HZ9.out; have := HZ10.out; have := HZ11.out; have := HZ12.out; have := HZ13.out; omega))
    have HKx114 := Lib.hid ((hm.block _ (by have := lt_of_block HKx113.out; have := HZ1.out; have := HZ2.out; have := HZ3.out; have := HZ4.out; have := HZ5.out; have := HZ6.out; have := HZ7.out; have := HZ8.out; have := HZ9.out; have := HZ10.out; have := HZ11.out; have := HZ12.out; have := HZ13.out; omega)).trans HKx113.out)
    have HOg14 := Lib.hid (HOg13.out.btw hm (by have := HZ1.out; have := HZ2.out; have := HZ3.out; have := HZ4.out; have := HZ5.out; have := HZ6.out; have := HZ7.out; have := HZ8.out; have := HZ9.out; have := HZ10.out; have := HZ11.out; have := HZ12.out; have := HZ13.out; omega))
    have HKgb014 := Lib.hid ((hm.block _ (by have := lt_of_block HKgb013.out; have := HZ1.out; have := HZ2.out; have := HZ3.out; have := HZ4.out; have := HZ5.out; have := HZ6.out; have := HZ7.out; have := HZ8.out; have := HZ9.out; have := HZ10.out; have := HZ11.out; have := HZ12.out; have := HZ13.out; omega)).trans HKgb013.out)
    have HBs4_14 : Hid (Below w4.heap.size w4 w14) := Lib.hid (HBs4_13.out.trans (hm.below.mono (by have := HZ1.out; have := HZ2.out; have := HZ3.out; have := HZ4.out; have := HZ5.out; have := HZ6.out; have := HZ7.out; have := HZ8.out; have := HZ9.out; have := HZ10.out; have := HZ11.out; have := HZ12.out; have := HZ13.out; omega)))
    clear hm
    clear ho
    clear ca10 fa10 lta1 cwb00 fwb00 ltwb0 cx10 fx10 ltx1 cgb00 fgb00 ltgb0
    have lta1 := lt_of_block HKa114.out
    obtain ⟨ca10, fa10⟩ := cell1 HKa114.out
    have ltwb0 := lt_of_block HKwb014.out
    obtain ⟨cwb00, fwb00⟩ := cell1 HKwb014.out
    have ltx1 := lt_of_block HKx114.out
    obtain ⟨cx10, fx10⟩ := cell1 HKx114.out
    have ltgb0 := lt_of_block HKgb014.out
    obtain ⟨cgb00, fgb00⟩ := cell1 HKgb014.out
    go_wp2_with fail
    refine (markAmount_at _ cs1 _ _ _ HOx114.out hn1 (1 + 2 * (us0.length : Int)) (by omega) (by have := HZ1.out; have := HZ2.out; have := HZ3.out; have := HZ4.out; have := HZ5.out; have := HZ6.out; have := HZ7.out; have := HZ8.out; have := HZ9.out; have := HZ10.out; have := HZ11.out; have := HZ12.out; have := HZ13.out; have := HZ14.out;  omega) (by have := HZ1.out; have := HZ2.out; have := HZ3.out; have := HZ4.out; have := HZ5.out; have := HZ6.out; have := HZ7.out; have := HZ8.out; have := HZ9.out; have := HZ10.out; have := HZ11.out; have := HZ12.out; have := HZ13.out; have := HZ14.out;  omega) (by have := HZ1.out; have := HZ2.out; have := HZ3.out; have := HZ4.out; have := HZ5.out; have := HZ6.out; have := HZ7.out; have := HZ8.out; have := HZ9.out; have := HZ10.out; have := HZ11.out; have := HZ12.out; have := HZ13.out; have := HZ14.out;  omega)).mono ?_
    rintro e w15 ⟨rfl, ho, hm⟩
    have HZ15 : Hid (w14.heap.size ≤ w15.heap.size) := Lib.hid hm.size
    have HB15 : Hid (Below w.heap.size w w15) := Lib.hid (HB14.out.trans (hm.below.mono (by have := HZ1.out; have := HZ2.out; have := HZ3.out; have := HZ4.out; have := HZ5.out; have := HZ6.out; have := HZ7.out; have := HZ8.out; have := HZ9.out; have := HZ10.out; have := HZ11.out; have := HZ12.out; have := HZ13.out; have := HZ14.out; have := HB0.out.size; omega)))
    have HRf015 := Lib.hid (HRf00.out.below HB15.out (Nat.le_refl _))
    have HRf115 := Lib.hid (HRf10.out.below HB15.out (Nat.le_refl _))
    have HKa115 := Lib.hid ((hm.block _ (by have := lt_of_block HKa114.out; have := HZ1.out; have := HZ2.out; have := HZ3.out; have := HZ4.out; have := HZ5.out; have := HZ6.out; have := HZ7.out; have := HZ8.out; have := HZ9.out; have := HZ10.out; have := HZ11.out; have := HZ12.out; have := HZ13.out; have := HZ14.out; omega)).trans HKa114.out)
    have HKwb015 := Lib.hid ((hm.block _ (by have := lt_of_block HKwb014.out; have := HZ1.out; have := HZ2.out; have := HZ3.out; have := HZ4.out; have := HZ5.out; have := HZ6.out; have := HZ7.out; have := HZ8.out; have := HZ9.out; have := HZ10.out; have := HZ11.out; have := HZ12.out; have := HZ13.out; have := HZ14.out; omega)).trans HKwb014.out)
    have HRw015 := Lib.hid (HRw04.out.below (HBs4_14.out.trans (hm.below.mono (by have := HZ1.out; have := HZ2.out; have := HZ3.out; have := HZ4.out; have := HZ5.out; have := HZ6.out; have := HZ7.out; have := HZ8.out; have := HZ9.out; have := HZ10.out; have := HZ11.out; have := HZ12.out; have := HZ13.out; have := HZ14.out; omega))) (Nat.le_refl _))
    have HOg15 := Lib.hid (HOg14.out.btw hm (by have := HZ1.out; have := HZ2.out; have := HZ3.out; have := HZ4.out; have := HZ5.out; have := HZ6.out; have := HZ7.out; have := HZ8.out; have := HZ9.out; have := HZ10.out; have := HZ11.out; have := HZ12.out; have := HZ13.out; have := HZ14.out; omega))
    have HKgb015 := Lib.hid ((hm.block _ (by have := lt_of_block HKgb014.out; have := HZ1.out; have := HZ2.out; have := HZ3.out; have := HZ4.out; have := HZ5.out; have := HZ6.out; have := HZ7.out; have := HZ8.out; have := HZ9.out; have := HZ10.out; have := HZ11.out; have := HZ12.out; have := HZ13.out; have := HZ14.out; omega)).trans HKgb014.out)
    have HBs4_15 : Hid (Below w4.heap.size w4 w15) := Lib.hid (HBs4_14.out.trans (hm.below.mono (by have := HZ1.out; have := HZ2.out; have := HZ3.out; have := HZ4.out; have := HZ5.out; have := HZ6.out; have := HZ7.out; have := HZ8.out; have := HZ9.out; have := HZ10.out; have := HZ11.out; have := HZ12.out; have := HZ13.out; have := HZ14.out; omega)))
    clear hm
    clear ho
    have hxk : ¬ (1 + 2 * (us0.length : Int) + (cs1.length : Int) < 0) := by omega
    clear ca10 fa10 lta1 cwb00 fwb00 ltwb0 cx10 fx10 ltx1 cgb00 fgb00 ltgb0
    have lta1 := lt_of_block HKa115.out
    obtain ⟨ca10, fa10⟩ := cell1 HKa115.out
    have ltwb0 := lt_of_block HKwb015.out
    obtain ⟨cwb00, fwb00⟩ := cell1 HKwb015.out
    have ltgb0 := lt_of_block HKgb015.out
    obtain ⟨cgb00, fgb00⟩ := cell1 HKgb015.out
    go_wp2_with fail
    refine (eqAmount_yes _ _ qs0 _ HOg15.out.reads HRw015.out).mono ?_
    rintro e w16 ⟨rfl, hb⟩
    have HB16 : Hid (Below w.heap.size w w16) := Lib.hid (HB15.out.trans (hb.mono HB15.out.size))
    have HZ16 : Hid (w15.heap.size ≤ w16.heap.size) := Lib.hid hb.size
    have HRf016 := Lib.hid (HRf00.out.below HB16.out (Nat.le_refl _))
    have HRf116 := Lib.hid (HRf10.out.below HB16.out (Nat.le_refl _))
    have HKa116 := Lib.hid ((hb.block _ (lt_of_block HKa115.out)).trans HKa115.out)
    have HKwb016 := Lib.hid ((hb.block _ (lt_of_block HKwb015.out)).trans HKwb015.out)
    have HRw016 := Lib.hid (HRw015.out.below hb (Nat.le_refl _))
    have HOg16 := Lib.hid (HOg15.out.next hb)
    have HKgb016 := Lib.hid ((hb.block _ (lt_of_block HKgb015.out)).trans HKgb015.out)
    have HBs4_16 : Hid (Below w4.heap.size w4 w16) := Lib.hid (HBs4_15.out.trans (hb.mono HBs4_15.out.size))
    clear hb
    clear ca10 fa10 lta1 cwb00 fwb00 ltwb0 cgb00 fgb00 ltgb0
    have lta1 := lt_of_block HKa116.out
    obtain ⟨ca10, fa10⟩ := cell1 HKa116.out
    have ltwb0 := lt_of_block HKwb016.out
    obtain ⟨cwb00, fwb00⟩ := cell1 HKwb016.out
    have ltgb0 := lt_of_block HKgb016.out
    obtain ⟨cgb00, fgb00⟩ := cell1 HKgb016.out
    go_wp2_with fail
    refine (markAmount_at _ qs0 _ _ _ HOg16.out (by omega) (1) (by omega) (by have := HZ1.out; have := HZ2.out; have := HZ3.out; have := HZ4.out; have := HZ5.out; have := HZ6.out; have := HZ7.out; have := HZ8.out; have := HZ9.out; have := HZ10.out; have := HZ11.out; have := HZ12.out; have := HZ13.out; have := HZ14.out; have := HZ15.out; have := HZ16.out;  omega) (by have := HZ1.out; have := HZ2.out; have := HZ3.out; have := HZ4.out; have := HZ5.out; have := HZ6.out; have := HZ7.out; have := HZ8.out; have := HZ9.out; have := HZ10.out; have := HZ11.out; have := HZ12.out; have := HZ13.out; have := HZ14.out; have := HZ15.out; have := HZ16.out;  omega) (by have := HZ1.out; have := HZ2.out; have := HZ3.out; have := HZ4.out; have := HZ5.out; have := HZ6.out; have := HZ7.out; have := HZ8.out; have := HZ9.out; have := HZ10.out; have := HZ11.out; have := HZ12.out; have := HZ13.out; have := HZ14.out; have := HZ15.out; have := HZ16.out;  omega)).mono ?_
    rintro e w17 ⟨rfl, ho, hm⟩
    have HZ17 : Hid (w16.heap.size ≤ w17.heap.size) := Lib.hid hm.size
    have HB17 : Hid (Below w.heap.size w w17) := Lib.hid (HB16.out.trans (hm.below.mono (by have := HZ1.out; have := HZ2.out; have := HZ3.out; have := HZ4.out; have := HZ5.out; have := HZ6.out; have := HZ7.out; have := HZ8.out; have := HZ9.out; have := HZ10.out; have := HZ11.out; have := HZ12.out; have := HZ13.out; have := HZ14.out; have := HZ15.out; have := HZ16.out; have := HB0.out.size; omega)))
    have HRf017 := Lib.hid (HRf00.out.below HB17.out (Nat.le_refl _))
    have HRf117 := Lib.hid (HRf10.out.below HB17.out (Nat.le_refl _))
    have HKa117 := Lib.hid ((hm.block _ (by have := lt_of_block HKa116.out; have := HZ1.out; have := HZ2.out; have := HZ3.out; have := HZ4.out; have := HZ5.out; have := HZ6.out; have := HZ7.out; have := HZ8.out; have := HZ9.out; have := HZ10.out; have := HZ11.out; have := HZ12.out; have := HZ13.out; have := HZ14.out; have := HZ15.out; have := HZ16.out; omega)).trans HKa116.out)
    have HKwb017 := Lib.hid ((hm.block _ (by have := lt_of_block HKwb016.out; have := HZ1.out; have := HZ2.out; have := HZ3.out; have := HZ4.out; have := HZ5.out; have := HZ6.out; have := HZ7.out; have := HZ8.out; have := HZ9.out; have := HZ10.out; have := HZ11.out; have := HZ12.out; have := HZ13.out; have := HZ14.out; have := HZ15.out; have := HZ16.out; omega)).trans HKwb016.out)
    have HRw017 := Lib.hid (HRw04.out.below (HBs4_16.out.trans (hm.below.mono (by have := HZ1.out; have := HZ2.out; have := HZ3.out; have := HZ4.out; have := HZ5.out; have := HZ6.out; have := HZ7.out; have := HZ8.out; have := HZ9.out; have := HZ10.out; have := HZ11.out; have := HZ12.out; have := HZ13.out; have := HZ14.out; have := HZ15.out; have := HZ16.out; omega))) (Nat.le_refl _))
    have HKgb017 := Lib.hid ((hm.block _ (by have := lt_of_block HKgb016.out; have := HZ1.out; have := HZ2.out; have := HZ3.out; have := HZ4.out; have := HZ5.out; have := HZ6.out; have := HZ7.out; have := HZ8.out; have := HZ9.out; have := HZ10.out; have := HZ11.out; have := HZ12.out; have := HZ13.out; have := HZ14.out; have := HZ15.out; have := HZ16.out; omega)).trans HKgb016.out)
    have HBs4_17 : Hid (Below w4.heap.size w4 w17) := Lib.hid (HBs4_16.out.trans (hm.below.mono (by have := HZ1.out; have := HZ2.out; have := HZ3.out; have := HZ4.out; have := HZ5.out; have := HZ6.out; have := HZ7.out; have := HZ8.out; have := HZ9.out; have := HZ10.out; have := HZ11.out; have := HZ12.out; have := HZ13.out; have := HZ14.out; have := HZ15.out; have := HZ16.out; omega)))
    clear hm
    have HOg17 := Lib.hid (ho)
    clear ho
    clear ca10 fa10 lta1 cwb00 fwb00 ltwb0 cgb00 fgb00 ltgb0
    have lta1 := lt_of_block HKa117.out
    obtain ⟨ca10, fa10⟩ := cell1 HKa117.out
    have ltwb0 := lt_of_block HKwb017.out
    obtain ⟨cwb00, fwb00⟩ := cell1 HKwb017.out
    have ltgb0 := lt_of_block HKgb017.out
    obtain ⟨cgb00, fgb00⟩ := cell1 HKgb017.out
    go_wp2_with fail
    refine (heldAmount_any _ qs0.length (1) _ (by have := HOg17.out.reads; exact this) (by omega) (by omega)).mono ?_
    rintro e w18 ⟨rfl, hb⟩
    have HB18 : Hid (Below w.heap.size w w18) := Lib.hid (HB17.out.trans (hb.mono HB17.out.size))
    have HZ18 : Hid (w17.heap.size ≤ w18.heap.size) := Lib.hid hb.size
    have HRf018 := Lib.hid (HRf00.out.below HB18.out (Nat.le_refl _))
    have HRf118 := Lib.hid (HRf10.out.below HB18.out (Nat.le_refl _))
    have HKa118 := Lib.hid ((hb.block _ (lt_of_block HKa117.out)).trans HKa117.out)
    have HKwb018 := Lib.hid ((hb.block _ (lt_of_block HKwb017.out)).trans HKwb017.out)
    have HRw018 := Lib.hid (HRw017.out.below hb (Nat.le_refl _))
    have HOg18 := Lib.hid (HOg17.out.next hb)
    have HKgb018 := Lib.hid ((hb.block _ (lt_of_block HKgb017.out)).trans HKgb017.out)
    have HBs4_18 : Hid (Below w4.heap.size w4 w18) := Lib.hid (HBs4_17.out.trans (hb.mono HBs4_17.out.size))
    clear hb
    clear ca10 fa10 lta1 cwb00 fwb00 ltwb0 cgb00 fgb00 ltgb0
    have lta1 := lt_of_block HKa118.out
    obtain ⟨ca10, fa10⟩ := cell1 HKa118.out
    have ltwb0 := lt_of_block HKwb018.out
    obtain ⟨cwb00, fwb00⟩ := cell1 HKwb018.out
    have ltgb0 := lt_of_block HKgb018.out
    obtain ⟨cgb00, fgb00⟩ := cell1 HKgb018.out
    go_wp2_with fail
    clear ca10 fa10 lta1 cwb00 fwb00 ltwb0 cgb00 fgb00 ltgb0
    have lta1 := lt_of_block HKa118.out
    obtain ⟨ca10, fa10⟩ := cell1 HKa118.out
    have ltwb0 := lt_of_block HKwb018.out
    obtain ⟨cwb00, fwb00⟩ := cell1 HKwb018.out
    have ltgb0 := lt_of_block HKgb018.out
    obtain ⟨cgb00, fgb00⟩ := cell1 HKgb018.out
    go_cut [17, 18] from 98 (fun z0 z1 wc => ∃ (b0 : Nat) (pa0 : Option Addr) (ka0 : Nat), z0 = .pointer (some ⟨b0, 0, none⟩) ∧ z1 = .bool r1 ∧ wc.heap[b0]? = some (.cells #[.slice pa0 qs0.length ka0] 34 (0, 0)) ∧ RowsR 1 inC wc (.slice pa0 qs0.length ka0) qs0 ∧ Below w18.heap.size w18 wc)
    case first =>
      have HBs18_18 : Hid (Below w18.heap.size w18 w18) := Lib.hid (Below.refl _ _)
      refine wp_region_held_drew (S := (fun w' => w'.cell? ⟨w.heap.size, 0, none⟩ = some (.slice ad1 cs1.length cp1))) (by kernel_rfl) (ca10) (fun hHeld => ?_)
      have hb : Below w18.heap.size w18 w18.drew := (Below.refl _ _).drew
      generalize w18.drew = w19 at hb hHeld ⊢
      have HB19 : Hid (Below w.heap.size w w19) := Lib.hid (HB18.out.trans (hb.mono HB18.out.size))
      have HZ19 : Hid (w18.heap.size ≤ w19.heap.size) := Lib.hid hb.size
      have HRf019 := Lib.hid (HRf00.out.below HB19.out (Nat.le_refl _))
      have HRf119 := Lib.hid (HRf10.out.below HB19.out (Nat.le_refl _))
      have HKa119 := Lib.hid ((hb.block _ (lt_of_block HKa118.out)).trans HKa118.out)
      have HKwb019 := Lib.hid ((hb.block _ (lt_of_block HKwb018.out)).trans HKwb018.out)
      have HRw019 := Lib.hid (HRw018.out.below hb (Nat.le_refl _))
      have HOg19 := Lib.hid (HOg18.out.next hb)
      have HKgb019 := Lib.hid ((hb.block _ (lt_of_block HKgb018.out)).trans HKgb018.out)
      have HBs4_19 : Hid (Below w4.heap.size w4 w19) := Lib.hid (HBs4_18.out.trans (hb.mono HBs4_18.out.size))
      have HBs18_19 : Hid (Below w18.heap.size w18 w19) := Lib.hid (HBs18_18.out.trans (hb.mono HBs18_18.out.size))
      clear hb
      clear ca10 fa10 lta1 cwb00 fwb00 ltwb0 cgb00 fgb00 ltgb0
      have lta1 := lt_of_block HKa119.out
      obtain ⟨ca10, fa10⟩ := cell1 HKa119.out
      have ltwb0 := lt_of_block HKwb019.out
      obtain ⟨cwb00, fwb00⟩ := cell1 HKwb019.out
      have ltgb0 := lt_of_block HKgb019.out
      obtain ⟨cgb00, fgb00⟩ := cell1 HKgb019.out
      refine take1 (i := 0) (v := ?v20) (some 99) rfl rfl (by kernel_rfl) (by kernel_rfl) (by kernel_rfl) (fun _ _ _ h => h) (Or.inl ⟨by rfl, ?y20⟩) (by assumption) ?r20
      case y20 => (intro w hSw; (try dsimp only at hSw); go_simp; (first | done | with_reducible rfl))
      try simp only [Act.put, List.setIfInBounds_toArray, List.set_cons_zero, List.set_cons_succ]
      refine take1 (i := 2) (v := ?v21) (some 101) rfl rfl (by kernel_rfl) (by kernel_rfl) (by kernel_rfl) (fun _ _ _ h => h) (Or.inl ⟨by rfl, ?y21⟩) (by assumption) ?r21
      case y21 => (intro w hSw; (try dsimp only at hSw); go_simp; (first | done | with_reducible rfl))
      try simp only [Act.put, List.setIfInBounds_toArray, List.set_cons_zero, List.set_cons_succ]
      refine take1 (i := 4) (v := ?v22) (some 103) rfl rfl (by kernel_rfl) (by kernel_rfl) (by kernel_rfl) (fun _ _ _ h => h) (Or.inl ⟨by rfl, ?y22⟩) (by assumption) ?r22
      case y22 => (intro w hSw; (try dsimp only at hSw); go_simp; (first | done | with_reducible rfl))
      try simp only [Act.put, List.setIfInBounds_toArray, List.set_cons_zero, List.set_cons_succ]
      refine wpAnyH_ready (rs := [1, 9]) (by kernel_rfl) (by simp) ?_
      refine AllReadyH.cons rfl (fun K hK => ?_) (AllReadyH.cons rfl (fun K hK => ?_) AllReadyH.nil)
      · go_simp
        go_at_call 15
        refine (toUnitS_any _ us0 _ HRf019.out hn0).mono ?_
        rintro e w20 ⟨⟨shc0, rfl, ho⟩, hb⟩
        have HB20 : Hid (Below w.heap.size w w20) := Lib.hid (HB19.out.trans (hb.mono HB19.out.size))
        have HZ20 : Hid (w19.heap.size ≤ w20.heap.size) := Lib.hid hb.size
        have HRf020 := Lib.hid (HRf00.out.below HB20.out (Nat.le_refl _))
        have HRf120 := Lib.hid (HRf10.out.below HB20.out (Nat.le_refl _))
        have HKa120 := Lib.hid ((hb.block _ (lt_of_block HKa119.out)).trans HKa119.out)
        have HKwb020 := Lib.hid ((hb.block _ (lt_of_block HKwb019.out)).trans HKwb019.out)
        have HRw020 := Lib.hid (HRw019.out.below hb (Nat.le_refl _))
        have HOg20 := Lib.hid (HOg19.out.next hb)
        have HKgb020 := Lib.hid ((hb.block _ (lt_of_block HKgb019.out)).trans HKgb019.out)
        have HBs4_20 : Hid (Below w4.heap.size w4 w20) := Lib.hid (HBs4_19.out.trans (hb.mono HBs4_19.out.size))
        have HBs18_20 : Hid (Below w18.heap.size w18 w20) := Lib.hid (HBs18_19.out.trans (hb.mono HBs18_19.out.size))
        clear hb
        obtain ⟨phc0, khc0, rfl⟩ := own_form ho
        have HRhc020 := Lib.hid (RowsR.of_own unC_len ho)
        have HBs20_20 : Hid (Below w20.heap.size w20 w20) := Lib.hid (Below.refl _ _)
        clear ho
        clear ca10 fa10 lta1 cwb00 fwb00 ltwb0 cgb00 fgb00 ltgb0
        have lta1 := lt_of_block HKa120.out
        obtain ⟨ca10, fa10⟩ := cell1 HKa120.out
        have ltwb0 := lt_of_block HKwb020.out
        obtain ⟨cwb00, fwb00⟩ := cell1 HKwb020.out
        have ltgb0 := lt_of_block HKgb020.out
        obtain ⟨cgb00, fgb00⟩ := cell1 HKgb020.out
        try go_simp
        refine hK.out _ _ (ca10) (fun hHeld => ?_)
        clear hK K
        try simp only [Act.put, List.setIfInBounds_toArray, List.set_cons_zero, List.set_cons_succ]
        refine wpAnyH_ready (rs := [3, 9]) (by kernel_rfl) (by simp) ?_
        refine AllReadyH.cons rfl (fun K hK => ?_) (AllReadyH.cons rfl (fun K hK => ?_) AllReadyH.nil)
        · go_simp
          go_at_call 20
          refine (toAmount_any _ cs1 _ HRf120.out hn1).mono ?_
          rintro e w21 ⟨⟨shc1, rfl, ho⟩, hb⟩
          have HB21 : Hid (Below w.heap.size w w21) := Lib.hid (HB20.out.trans (hb.mono HB20.out.size))
          have HZ21 : Hid (w20.heap.size ≤ w21.heap.size) := Lib.hid hb.size
          have HRf021 := Lib.hid (HRf00.out.below HB21.out (Nat.le_refl _))
          have HRf121 := Lib.hid (HRf10.out.below HB21.out (Nat.le_refl _))
          have HKa121 := Lib.hid ((hb.block _ (lt_of_block HKa120.out)).trans HKa120.out)
          have HKwb021 := Lib.hid ((hb.block _ (lt_of_block HKwb020.out)).trans HKwb020.out)
          have HRw021 := Lib.hid (HRw020.out.below hb (Nat.le_refl _))
          have HOg21 := Lib.hid (HOg20.out.next hb)
          have HKgb021 := Lib.hid ((hb.block _ (lt_of_block HKgb020.out)).trans HKgb020.out)
          have HRhc021 := Lib.hid (HRhc020.out.below hb (Nat.le_refl _))
          have HBs4_21 : Hid (Below w4.heap.size w4 w21) := Lib.hid (HBs4_20.out.trans (hb.mono HBs4_20.out.size))
          have HBs18_21 : Hid (Below w18.heap.size w18 w21) := Lib.hid (HBs18_20.out.trans (hb.mono HBs18_20.out.size))
          have HBs20_21 : Hid (Below w20.heap.size w20 w21) := Lib.hid (HBs20_20.out.trans (hb.mono HBs20_20.out.size))
          clear hb
          obtain ⟨phc1, khc1, rfl⟩ := ho.form
          have HRhc121 := Lib.hid (ho.reads)
          have HBs21_21 : Hid (Below w21.heap.size w21 w21) := Lib.hid (Below.refl _ _)
          clear ho
          clear ca10 fa10 lta1 cwb00 fwb00 ltwb0 cgb00 fgb00 ltgb0
          have lta1 := lt_of_block HKa121.out
          obtain ⟨ca10, fa10⟩ := cell1 HKa121.out
          have ltwb0 := lt_of_block HKwb021.out
          obtain ⟨cwb00, fwb00⟩ := cell1 HKwb021.out
          have ltgb0 := lt_of_block HKgb021.out
          obtain ⟨cgb00, fgb00⟩ := cell1 HKgb021.out
          try go_simp
          refine hK.out _ _ (ca10) (fun hHeld => ?_)
          clear hK K
          try simp only [Act.put, List.setIfInBounds_toArray, List.set_cons_zero, List.set_cons_succ]
          refine wpAnyH_ready (rs := [5, 9]) (by kernel_rfl) (by simp) ?_
          refine AllReadyH.cons rfl (fun K hK => ?_) (AllReadyH.cons rfl (fun K hK => ?_) AllReadyH.nil)
          · go_simp
            go_at_call 35
            refine (HI.out _ _ _ HRhc021.out HRhc121.out).mono ?_
            rintro e w22 ⟨⟨th0, rfl, ho⟩, hb⟩
            have HB22 : Hid (Below w.heap.size w w22) := Lib.hid (HB21.out.trans (hb.mono HB21.out.size))
            have HZ22 : Hid (w21.heap.size ≤ w22.heap.size) := Lib.hid hb.size
            have HRf022 := Lib.hid (HRf00.out.below HB22.out (Nat.le_refl _))
            have HRf122 := Lib.hid (HRf10.out.below HB22.out (Nat.le_refl _))
            have HKa122 := Lib.hid ((hb.block _ (lt_of_block HKa121.out)).trans HKa121.out)
            have HKwb022 := Lib.hid ((hb.block _ (lt_of_block HKwb021.out)).trans HKwb021.out)
            have HRw022 := Lib.hid (HRw021.out.below hb (Nat.le_refl _))
            have HOg22 := Lib.hid (HOg21.out.next hb)
            have HKgb022 := Lib.hid ((hb.block _ (lt_of_block HKgb021.out)).trans HKgb021.out)
            have HRhc022 := Lib.hid (HRhc021.out.below hb (Nat.le_refl _))
            have HRhc122 := Lib.hid (HRhc121.out.below hb (Nat.le_refl _))
            have HBs4_22 : Hid (Below w4.heap.size w4 w22) := Lib.hid (HBs4_21.out.trans (hb.mono HBs4_21.out.size))
            have HBs18_22 : Hid (Below w18.heap.size w18 w22) := Lib.hid (HBs18_21.out.trans (hb.mono HBs18_21.out.size))
            have HBs20_22 : Hid (Below w20.heap.size w20 w22) := Lib.hid (HBs20_21.out.trans (hb.mono HBs20_21.out.size))
            have HBs21_22 : Hid (Below w21.heap.size w21 w22) := Lib.hid (HBs21_21.out.trans (hb.mono HBs21_21.out.size))
            clear hb
            obtain ⟨ph0, kh0, rfl⟩ := ho.form
            have HOh22 := Lib.hid (ho)
            clear ho
            clear ca10 fa10 lta1 cwb00 fwb00 ltwb0 cgb00 fgb00 ltgb0
            have lta1 := lt_of_block HKa122.out
            obtain ⟨ca10, fa10⟩ := cell1 HKa122.out
            have ltwb0 := lt_of_block HKwb022.out
            obtain ⟨cwb00, fwb00⟩ := cell1 HKwb022.out
            have ltgb0 := lt_of_block HKgb022.out
            obtain ⟨cgb00, fgb00⟩ := cell1 HKgb022.out
            try go_simp
            refine hK.out _ _ (ca10) (fun hHeld => ?_)
            clear hK K
            try simp only [Act.put, List.setIfInBounds_toArray, List.set_cons_zero, List.set_cons_succ]
            refine take1 (i := 6) (v := ?v23) (some 98) rfl rfl (by kernel_rfl) (by kernel_rfl) (by kernel_rfl) (fun _ _ _ h => h) (Or.inl ⟨by rfl, ?y23⟩) (by assumption) ?r23
            case y23 => (intro w hSw; (try dsimp only at hSw); go_simp; (first | done | with_reducible rfl))
            try simp only [Act.put, List.setIfInBounds_toArray, List.set_cons_zero, List.set_cons_succ]
            refine take1 (i := 7) (v := ?v24) (some 105) rfl rfl (by kernel_rfl) (by kernel_rfl) (by kernel_rfl) (fun _ _ _ h => h) (Or.inl ⟨by rfl, ?y24⟩) (by assumption) ?r24
            case y24 => (intro w hSw; (try dsimp only at hSw); go_simp; (first | done | with_reducible rfl))
            try simp only [Act.put, List.setIfInBounds_toArray, List.set_cons_zero, List.set_cons_succ]
            refine take1 (i := 8) (v := ?v25) (some 106) rfl rfl (by kernel_rfl) (by kernel_rfl) (by kernel_rfl) (fun _ _ _ h => h) (Or.inl ⟨by rfl, ?y25⟩) (by assumption) ?r25
            case y25 => (intro w hSw; (try dsimp only at hSw); go_simp; (first | done | with_reducible rfl))
            try simp only [Act.put, List.setIfInBounds_toArray, List.set_cons_zero, List.set_cons_succ]
            refine wpAnyH_ready (rs := [9]) (by kernel_rfl) (by simp) ?_
            refine AllReadyH.cons rfl (fun K hK => ?_) AllReadyH.nil
            go_simp
            have hb : Below w22.heap.size w22 (w22.alloc (.cells #[.slice none 0 0] 34)) := (Below.refl _ _).alloc (Nat.le_refl _) _
            have hk : (w22.alloc (.cells #[.slice none 0 0] 34)).heap[w22.heap.size]? = some (.cells #[.slice none 0 0] 34 (0, 0)) := alloc_at rfl
            have hz : (w22.alloc (.cells #[.slice none 0 0] 34)).heap.size = w22.heap.size + 1 := by simp
            generalize w22.alloc (.cells #[.slice none 0 0] 34) = w23 at hb hk hz ⊢
            have HB23 : Hid (Below w.heap.size w w23) := Lib.hid (HB22.out.trans (hb.mono HB22.out.size))
            have HZ23 : Hid (w22.heap.size ≤ w23.heap.size) := Lib.hid hb.size
            have HRf023 := Lib.hid (HRf00.out.below HB23.out (Nat.le_refl _))
            have HRf123 := Lib.hid (HRf10.out.below HB23.out (Nat.le_refl _))
            have HKa123 := Lib.hid ((hb.block _ (lt_of_block HKa122.out)).trans HKa122.out)
            have HKwb023 := Lib.hid ((hb.block _ (lt_of_block HKwb022.out)).trans HKwb022.out)
            have HRw023 := Lib.hid (HRw022.out.below hb (Nat.le_refl _))
            have HOg23 := Lib.hid (HOg22.out.next hb)
            have HKgb023 := Lib.hid ((hb.block _ (lt_of_block HKgb022.out)).trans HKgb022.out)
            have HOh23 := Lib.hid (HOh22.out.next hb)
            have HBs4_23 : Hid (Below w4.heap.size w4 w23) := Lib.hid (HBs4_22.out.trans (hb.mono HBs4_22.out.size))
            have HBs18_23 : Hid (Below w18.heap.size w18 w23) := Lib.hid (HBs18_22.out.trans (hb.mono HBs18_22.out.size))
            have HKhb023 := Lib.hid hk
            replace HZ23 : Hid (w22.heap.size < w23.heap.size) := Lib.hid (by omega)
            have HE23 := Lib.hid hz
            clear hb hk hz
            clear ca10 fa10 lta1 cwb00 fwb00 ltwb0 cgb00 fgb00 ltgb0
            have lta1 := lt_of_block HKa123.out
            obtain ⟨ca10, fa10⟩ := cell1 HKa123.out
            have ltwb0 := lt_of_block HKwb023.out
            obtain ⟨cwb00, fwb00⟩ := cell1 HKwb023.out
            have ltgb0 := lt_of_block HKgb023.out
            obtain ⟨cgb00, fgb00⟩ := cell1 HKgb023.out
            have lthb0 := lt_of_block HKhb023.out
            obtain ⟨chb00, fhb00⟩ := cell1 HKhb023.out
            refine hK.out _ _ (ca10) (fun hHeld => ?_)
            clear hK K
            try simp only [Act.put, List.setIfInBounds_toArray, List.set_cons_zero, List.set_cons_succ]
            refine wpAnyH_ready (rs := [10]) (by kernel_rfl) (by simp) ?_
            refine AllReadyH.cons rfl (fun K hK => ?_) AllReadyH.nil
            go_simp
            have hkb := box1_set HKhb023.out (.slice ph0 qs0.length kh0)
            have hm : Btw w22.heap.size (w22.heap.size + 1) w23 (w23.setCell ⟨w22.heap.size, 0, none⟩ (.slice ph0 qs0.length kh0)) := (Btw.refl (w22.heap.size) (w22.heap.size + 1) w23).setCell (p := ⟨w22.heap.size, 0, none⟩) (Nat.le_refl _) (Nat.lt_succ_self _) _
            generalize w23.setCell ⟨w22.heap.size, 0, none⟩ (.slice ph0 qs0.length kh0) = w24 at hkb hm ⊢
            have HZ24 : Hid (w23.heap.size ≤ w24.heap.size) := Lib.hid hm.size
            have HB24 : Hid (Below w.heap.size w w24) := Lib.hid (HB23.out.trans (hm.below.mono (by have := HZ1.out; have := HZ2.out; have := HZ3.out; have := HZ4.out; have := HZ5.out; have := HZ6.out; have := HZ7.out; have := HZ8.out; have := HZ9.out; have := HZ10.out; have := HZ11.out; have := HZ12.out; have := HZ13.out; have := HZ14.out; have := HZ15.out; have := HZ16.out; have := HZ17.out; have := HZ18.out; have := HZ19.out; have := HZ20.out; have := HZ21.out; have := HZ22.out; have := HZ23.out; have := HB0.out.size; omega)))
            have HRf024 := Lib.hid (HRf00.out.below HB24.out (Nat.le_refl _))
            have HRf124 := Lib.hid (HRf10.out.below HB24.out (Nat.le_refl _))
            have HKa124 := Lib.hid ((hm.block _ (by have := lt_of_block HKa123.out; have := HZ1.out; have := HZ2.out; have := HZ3.out; have := HZ4.out; have := HZ5.out; have := HZ6.out; have := HZ7.out; have := HZ8.out; have := HZ9.out; have := HZ10.out; have := HZ11.out; have := HZ12.out; have := HZ13.out; have := HZ14.out; have := HZ15.out; have := HZ16.out; have := HZ17.out; have := HZ18.out; have := HZ19.out; have := HZ20.out; have := HZ21.out; have := HZ22.out; have := HZ23.out; omega)).trans HKa123.out)
            have HKwb024 := Lib.hid ((hm.block _ (by have := lt_of_block HKwb023.out; have := HZ1.out; have := HZ2.out; have := HZ3.out; have := HZ4.out; have := HZ5.out; have := HZ6.out; have := HZ7.out; have := HZ8.out; have := HZ9.out; have := HZ10.out; have := HZ11.out; have := HZ12.out; have := HZ13.out; have := HZ14.out; have := HZ15.out; have := HZ16.out; have := HZ17.out; have := HZ18.out; have := HZ19.out; have := HZ20.out; have := HZ21.out; have := HZ22.out; have := HZ23.out; omega)).trans HKwb023.out)
            have HRw024 := Lib.hid (HRw04.out.below (HBs4_23.out.trans (hm.below.mono (by have := HZ1.out; have := HZ2.out; have := HZ3.out; have := HZ4.out; have := HZ5.out; have := HZ6.out; have := HZ7.out; have := HZ8.out; have := HZ9.out; have := HZ10.out; have := HZ11.out; have := HZ12.out; have := HZ13.out; have := HZ14.out; have := HZ15.out; have := HZ16.out; have := HZ17.out; have := HZ18.out; have := HZ19.out; have := HZ20.out; have := HZ21.out; have := HZ22.out; have := HZ23.out; omega))) (Nat.le_refl _))
            have HOg24 := Lib.hid (HOg23.out.btw hm (by have := HZ1.out; have := HZ2.out; have := HZ3.out; have := HZ4.out; have := HZ5.out; have := HZ6.out; have := HZ7.out; have := HZ8.out; have := HZ9.out; have := HZ10.out; have := HZ11.out; have := HZ12.out; have := HZ13.out; have := HZ14.out; have := HZ15.out; have := HZ16.out; have := HZ17.out; have := HZ18.out; have := HZ19.out; have := HZ20.out; have := HZ21.out; have := HZ22.out; have := HZ23.out; omega))
            have HKgb024 := Lib.hid ((hm.block _ (by have := lt_of_block HKgb023.out; have := HZ1.out; have := HZ2.out; have := HZ3.out; have := HZ4.out; have := HZ5.out; have := HZ6.out; have := HZ7.out; have := HZ8.out; have := HZ9.out; have := HZ10.out; have := HZ11.out; have := HZ12.out; have := HZ13.out; have := HZ14.out; have := HZ15.out; have := HZ16.out; have := HZ17.out; have := HZ18.out; have := HZ19.out; have := HZ20.out; have := HZ21.out; have := HZ22.out; have := HZ23.out; omega)).trans HKgb023.out)
            have HOh24 := Lib.hid (HOh23.out.btw hm (by have := HZ1.out; have := HZ2.out; have := HZ3.out; have := HZ4.out; have := HZ5.out; have := HZ6.out; have := HZ7.out; have := HZ8.out; have := HZ9.out; have := HZ10.out; have := HZ11.out; have := HZ12.out; have := HZ13.out; have := HZ14.out; have := HZ15.out; have := HZ16.out; have := HZ17.out; have := HZ18.out; have := HZ19.out; have := HZ20.out; have := HZ21.out; have := HZ22.out; have := HZ23.out; omega))
            have HBs4_24 : Hid (Below w4.heap.size w4 w24) := Lib.hid (HBs4_23.out.trans (hm.below.mono (by have := HZ1.out; have := HZ2.out; have := HZ3.out; have := HZ4.out; have := HZ5.out; have := HZ6.out; have := HZ7.out; have := HZ8.out; have := HZ9.out; have := HZ10.out; have := HZ11.out; have := HZ12.out; have := HZ13.out; have := HZ14.out; have := HZ15.out; have := HZ16.out; have := HZ17.out; have := HZ18.out; have := HZ19.out; have := HZ20.out; have := HZ21.out; have := HZ22.out; have := HZ23.out; omega)))
            have HBs18_24 : Hid (Below w18.heap.size w18 w24) := Lib.hid (HBs18_23.out.trans (hm.below.mono (by have := HZ1.out; have := HZ2.out; have := HZ3.out; have := HZ4.out; have := HZ5.out; have := HZ6.out; have := HZ7.out; have := HZ8.out; have := HZ9.out; have := HZ10.out; have := HZ11.out; have := HZ12.out; have := HZ13.out; have := HZ14.out; have := HZ15.out; have := HZ16.out; have := HZ17.out; have := HZ18.out; have := HZ19.out; have := HZ20.out; have := HZ21.out; have := HZ22.out; have := HZ23.out; omega)))
            clear hm
            have HKhb024 := Lib.hid (hkb)
            clear hkb
            clear ca10 fa10 lta1 cwb00 fwb00 ltwb0 cgb00 fgb00 ltgb0 chb00 fhb00 lthb0
            have lta1 := lt_of_block HKa124.out
            obtain ⟨ca10, fa10⟩ := cell1 HKa124.out
            have ltwb0 := lt_of_block HKwb024.out
            obtain ⟨cwb00, fwb00⟩ := cell1 HKwb024.out
            have ltgb0 := lt_of_block HKgb024.out
            obtain ⟨cgb00, fgb00⟩ := cell1 HKgb024.out
            have lthb0 := lt_of_block HKhb024.out
            obtain ⟨chb00, fhb00⟩ := cell1 HKhb024.out
            refine hK.out _ _ (ca10) (fun hHeld => ?_)
            clear hK K
            try simp only [Act.put]
            refine take1 (i := 11) (v := ?v26) (some 18) rfl rfl (by kernel_rfl) (by kernel_rfl) (by kernel_rfl) (fun _ _ _ h => h) (Or.inl ⟨by rfl, ?y26⟩) (by assumption) ?r26
            case y26 => (intro w hSw; (try dsimp only at hSw); go_simp; (first | done | with_reducible rfl))
            try simp only [Act.put, List.setIfInBounds_toArray, List.set_cons_zero, List.set_cons_succ]
            refine wpAnyH_done (by kernel_rfl) ?_ _
            go_wp2_with fail
            go_meet
            exact ⟨w22.heap.size, ph0, kh0, rfl, rfl, HKhb024.out, HOh24.out.reads, HBs18_24.out⟩
          · go_simp
            have hb : Below w21.heap.size w21 (w21.alloc (.cells #[.slice none 0 0] 34)) := (Below.refl _ _).alloc (Nat.le_refl _) _
            have hk : (w21.alloc (.cells #[.slice none 0 0] 34)).heap[w21.heap.size]? = some (.cells #[.slice none 0 0] 34 (0, 0)) := alloc_at rfl
            have hz : (w21.alloc (.cells #[.slice none 0 0] 34)).heap.size = w21.heap.size + 1 := by simp
            generalize w21.alloc (.cells #[.slice none 0 0] 34) = w22 at hb hk hz ⊢
            have HB22 : Hid (Below w.heap.size w w22) := Lib.hid (HB21.out.trans (hb.mono HB21.out.size))
            have HZ22 : Hid (w21.heap.size ≤ w22.heap.size) := Lib.hid hb.size
            have HRf022 := Lib.hid (HRf00.out.below HB22.out (Nat.le_refl _))
            have HRf122 := Lib.hid (HRf10.out.below HB22.out (Nat.le_refl _))
            have HKa122 := Lib.hid ((hb.block _ (lt_of_block HKa121.out)).trans HKa121.out)
            have HKwb022 := Lib.hid ((hb.block _ (lt_of_block HKwb021.out)).trans HKwb021.out)
            have HRw022 := Lib.hid (HRw021.out.below hb (Nat.le_refl _))
            have HOg22 := Lib.hid (HOg21.out.next hb)
            have HKgb022 := Lib.hid ((hb.block _ (lt_of_block HKgb021.out)).trans HKgb021.out)
            have HRhc022 := Lib.hid (HRhc021.out.below hb (Nat.le_refl _))
            have HRhc122 := Lib.hid (HRhc121.out.below hb (Nat.le_refl _))
            have HBs4_22 : Hid (Below w4.heap.size w4 w22) := Lib.hid (HBs4_21.out.trans (hb.mono HBs4_21.out.size))
            have HBs18_22 : Hid (Below w18.heap.size w18 w22) := Lib.hid (HBs18_21.out.trans (hb.mono HBs18_21.out.size))
            have HBs20_22 : Hid (Below w20.heap.size w20 w22) := Lib.hid (HBs20_21.out.trans (hb.mono HBs20_21.out.size))
            have HBs21_22 : Hid (Below w21.heap.size w21 w22) := Lib.hid (HBs21_21.out.trans (hb.mono HBs21_21.out.size))
            have HKhb022 := Lib.hid hk
            replace HZ22 : Hid (w21.heap.size < w22.heap.size) := Lib.hid (by omega)
            have HE22 := Lib.hid hz
            clear hb hk hz
            clear ca10 fa10 lta1 cwb00 fwb00 ltwb0 cgb00 fgb00 ltgb0
            have lta1 := lt_of_block HKa122.out
            obtain ⟨ca10, fa10⟩ := cell1 HKa122.out
            have ltwb0 := lt_of_block HKwb022.out
            obtain ⟨cwb00, fwb00⟩ := cell1 HKwb022.out
            have ltgb0 := lt_of_block HKgb022.out
            obtain ⟨cgb00, fgb00⟩ := cell1 HKgb022.out
            have lthb0 := lt_of_block HKhb022.out
            obtain ⟨chb00, fhb00⟩ := cell1 HKhb022.out
            refine hK.out _ _ (ca10) (fun hHeld => ?_)
            clear hK K
            try simp only [Act.put, List.setIfInBounds_toArray, List.set_cons_zero, List.set_cons_succ]
            refine wpAnyH_ready (rs := [5]) (by kernel_rfl) (by simp) ?_
            refine AllReadyH.cons rfl (fun K hK => ?_) AllReadyH.nil
            go_simp
            go_at_call 35
            refine (HI.out _ _ _ HRhc022.out HRhc122.out).mono ?_
            rintro e w23 ⟨⟨th0, rfl, ho⟩, hb⟩
            have HB23 : Hid (Below w.heap.size w w23) := Lib.hid (HB22.out.trans (hb.mono HB22.out.size))
            have HZ23 : Hid (w22.heap.size ≤ w23.heap.size) := Lib.hid hb.size
            have HRf023 := Lib.hid (HRf00.out.below HB23.out (Nat.le_refl _))
            have HRf123 := Lib.hid (HRf10.out.below HB23.out (Nat.le_refl _))
            have HKa123 := Lib.hid ((hb.block _ (lt_of_block HKa122.out)).trans HKa122.out)
            have HKwb023 := Lib.hid ((hb.block _ (lt_of_block HKwb022.out)).trans HKwb022.out)
            have HRw023 := Lib.hid (HRw022.out.below hb (Nat.le_refl _))
            have HOg23 := Lib.hid (HOg22.out.next hb)
            have HKgb023 := Lib.hid ((hb.block _ (lt_of_block HKgb022.out)).trans HKgb022.out)
            have HRhc023 := Lib.hid (HRhc022.out.below hb (Nat.le_refl _))
            have HRhc123 := Lib.hid (HRhc122.out.below hb (Nat.le_refl _))
            have HKhb023 := Lib.hid ((hb.block _ (lt_of_block HKhb022.out)).trans HKhb022.out)
            have HBs4_23 : Hid (Below w4.heap.size w4 w23) := Lib.hid (HBs4_22.out.trans (hb.mono HBs4_22.out.size))
            have HBs18_23 : Hid (Below w18.heap.size w18 w23) := Lib.hid (HBs18_22.out.trans (hb.mono HBs18_22.out.size))
            have HBs20_23 : Hid (Below w20.heap.size w20 w23) := Lib.hid (HBs20_22.out.trans (hb.mono HBs20_22.out.size))
            have HBs21_23 : Hid (Below w21.heap.size w21 w23) := Lib.hid (HBs21_22.out.trans (hb.mono HBs21_22.out.size))
            clear hb
            obtain ⟨ph0, kh0, rfl⟩ := ho.form
            have HOh23 := Lib.hid (ho)
            clear ho
            clear ca10 fa10 lta1 cwb00 fwb00 ltwb0 cgb00 fgb00 ltgb0 chb00 fhb00 lthb0
            have lta1 := lt_of_block HKa123.out
            obtain ⟨ca10, fa10⟩ := cell1 HKa123.out
            have ltwb0 := lt_of_block HKwb023.out
            obtain ⟨cwb00, fwb00⟩ := cell1 HKwb023.out
            have ltgb0 := lt_of_block HKgb023.out
            obtain ⟨cgb00, fgb00⟩ := cell1 HKgb023.out
            have lthb0 := lt_of_block HKhb023.out
            obtain ⟨chb00, fhb00⟩ := cell1 HKhb023.out
            try go_simp
            refine hK.out _ _ (ca10) (fun hHeld => ?_)
            clear hK K
            try simp only [Act.put, List.setIfInBounds_toArray, List.set_cons_zero, List.set_cons_succ]
            refine take1 (i := 6) (v := ?v27) (some 98) rfl rfl (by kernel_rfl) (by kernel_rfl) (by kernel_rfl) (fun _ _ _ h => h) (Or.inl ⟨by rfl, ?y27⟩) (by assumption) ?r27
            case y27 => (intro w hSw; (try dsimp only at hSw); go_simp; (first | done | with_reducible rfl))
            try simp only [Act.put, List.setIfInBounds_toArray, List.set_cons_zero, List.set_cons_succ]
            refine take1 (i := 7) (v := ?v28) (some 105) rfl rfl (by kernel_rfl) (by kernel_rfl) (by kernel_rfl) (fun _ _ _ h => h) (Or.inl ⟨by rfl, ?y28⟩) (by assumption) ?r28
            case y28 => (intro w hSw; (try dsimp only at hSw); go_simp; (first | done | with_reducible rfl))
            try simp only [Act.put, List.setIfInBounds_toArray, List.set_cons_zero, List.set_cons_succ]
            refine take1 (i := 8) (v := ?v29) (some 106) rfl rfl (by kernel_rfl) (by kernel_rfl) (by kernel_rfl) (fun _ _ _ h => h) (Or.inl ⟨by rfl, ?y29⟩) (by assumption) ?r29
            case y29 => (intro w hSw; (try dsimp only at hSw); go_simp; (first | done | with_reducible rfl))
            try simp only [Act.put, List.setIfInBounds_toArray, List.set_cons_zero, List.set_cons_succ]
            refine wpAnyH_ready (rs := [10]) (by kernel_rfl) (by simp) ?_
            refine AllReadyH.cons rfl (fun K hK => ?_) AllReadyH.nil
            go_simp
            have hkb := box1_set HKhb023.out (.slice ph0 qs0.length kh0)
            have hm : Btw w21.heap.size (w21.heap.size + 1) w23 (w23.setCell ⟨w21.heap.size, 0, none⟩ (.slice ph0 qs0.length kh0)) := (Btw.refl (w21.heap.size) (w21.heap.size + 1) w23).setCell (p := ⟨w21.heap.size, 0, none⟩) (Nat.le_refl _) (Nat.lt_succ_self _) _
            generalize w23.setCell ⟨w21.heap.size, 0, none⟩ (.slice ph0 qs0.length kh0) = w24 at hkb hm ⊢
            have HZ24 : Hid (w23.heap.size ≤ w24.heap.size) := Lib.hid hm.size
            have HB24 : Hid (Below w.heap.size w w24) := Lib.hid (HB23.out.trans (hm.below.mono (by have := HZ1.out; have := HZ2.out; have := HZ3.out; have := HZ4.out; have := HZ5.out; have := HZ6.out; have := HZ7.out; have := HZ8.out; have := HZ9.out; have := HZ10.out; have := HZ11.out; have := HZ12.out; have := HZ13.out; have := HZ14.out; have := HZ15.out; have := HZ16.out; have := HZ17.out; have := HZ18.out; have := HZ19.out; have := HZ20.out; have := HZ21.out; have := HZ22.out; have := HZ23.out; have := HB0.out.size; omega)))
            have HRf024 := Lib.hid (HRf00.out.below HB24.out (Nat.le_refl _))
            have HRf124 := Lib.hid (HRf10.out.below HB24.out (Nat.le_refl _))
            have HKa124 := Lib.hid ((hm.block _ (by have := lt_of_block HKa123.out; have := HZ1.out; have := HZ2.out; have := HZ3.out; have := HZ4.out; have := HZ5.out; have := HZ6.out; have := HZ7.out; have := HZ8.out; have := HZ9.out; have := HZ10.out; have := HZ11.out; have := HZ12.out; have := HZ13.out; have := HZ14.out; have := HZ15.out; have := HZ16.out; have := HZ17.out; have := HZ18.out; have := HZ19.out; have := HZ20.out; have := HZ21.out; have := HZ22.out; have := HZ23.out; omega)).trans HKa123.out)
            have HKwb024 := Lib.hid ((hm.block _ (by have := lt_of_block HKwb023.out; have := HZ1.out; have := HZ2.out; have := HZ3.out; have := HZ4.out; have := HZ5.out; have := HZ6.out; have := HZ7.out; have := HZ8.out; have := HZ9.out; have := HZ10.out; have := HZ11.out; have := HZ12.out; have := HZ13.out; have := HZ14.out; have := HZ15.out; have := HZ16.out; have := HZ17.out; have := HZ18.out; have := HZ19.out; have := HZ20.out; have := HZ21.out; have := HZ22.out; have := HZ23.out; omega)).trans HKwb023.out)
            have HRw024 := Lib.hid (HRw04.out.below (HBs4_23.out.trans (hm.below.mono (by have := HZ1.out; have := HZ2.out; have := HZ3.out; have := HZ4.out; have := HZ5.out; have := HZ6.out; have := HZ7.out; have := HZ8.out; have := HZ9.out; have := HZ10.out; have := HZ11.out; have := HZ12.out; have := HZ13.out; have := HZ14.out; have := HZ15.out; have := HZ16.out; have := HZ17.out; have := HZ18.out; have := HZ19.out; have := HZ20.out; have := HZ21.out; have := HZ22.out; have := HZ23.out; omega))) (Nat.le_refl _))
            have HOg24 := Lib.hid (HOg23.out.btw hm (by have := HZ1.out; have := HZ2.out; have := HZ3.out; have := HZ4.out; have := HZ5.out; have := HZ6.out; have := HZ7.out; have := HZ8.out; have := HZ9.out; have := HZ10.out; have := HZ11.out; have := HZ12.out; have := HZ13.out; have := HZ14.out; have := HZ15.out; have := HZ16.out; have := HZ17.out; have := HZ18.out; have := HZ19.out; have := HZ20.out; have := HZ21.out; have := HZ22.out; have := HZ23.out; omega))
            have HKgb024 := Lib.hid ((hm.block _ (by have := lt_of_block HKgb023.out; have := HZ1.out; have := HZ2.out; have := HZ3.out; have := HZ4.out; have := HZ5.out; have := HZ6.out; have := HZ7.out; have := HZ8.out; have := HZ9.out; have := HZ10.out; have := HZ11.out; have := HZ12.out; have := HZ13.out; have := HZ14.out; have := HZ15.out; have := HZ16.out; have := HZ17.out; have := HZ18.out; have := HZ19.out; have := HZ20.out; have := HZ21.out; have := HZ22.out; have := HZ23.out; omega)).trans HKgb023.out)
            have HOh24 := Lib.hid (HOh23.out.btw hm (by have := HZ1.out; have := HZ2.out; have := HZ3.out; have := HZ4.out; have := HZ5.out; have := HZ6.out; have := HZ7.out; have := HZ8.out; have := HZ9.out; have := HZ10.out; have := HZ11.out; have := HZ12.out; have := HZ13.out; have := HZ14.out; have := HZ15.out; have := HZ16.out; have := HZ17.out; have := HZ18.out; have := HZ19.out; have := HZ20.out; have := HZ21.out; have := HZ22.out; have := HZ23.out; omega))
            have HBs4_24 : Hid (Below w4.heap.size w4 w24) := Lib.hid (HBs4_23.out.trans (hm.below.mono (by have := HZ1.out; have := HZ2.out; have := HZ3.out; have := HZ4.out; have := HZ5.out; have := HZ6.out; have := HZ7.out; have := HZ8.out; have := HZ9.out; have := HZ10.out; have := HZ11.out; have := HZ12.out; have := HZ13.out; have := HZ14.out; have := HZ15.out; have := HZ16.out; have := HZ17.out; have := HZ18.out; have := HZ19.out; have := HZ20.out; have := HZ21.out; have := HZ22.out; have := HZ23.out; omega)))
            have HBs18_24 : Hid (Below w18.heap.size w18 w24) := Lib.hid (HBs18_23.out.trans (hm.below.mono (by have := HZ1.out; have := HZ2.out; have := HZ3.out; have := HZ4.out; have := HZ5.out; have := HZ6.out; have := HZ7.out; have := HZ8.out; have := HZ9.out; have := HZ10.out; have := HZ11.out; have := HZ12.out; have := HZ13.out; have := HZ14.out; have := HZ15.out; have := HZ16.out; have := HZ17.out; have := HZ18.out; have := HZ19.out; have := HZ20.out; have := HZ21.out; have := HZ22.out; have := HZ23.out; omega)))
            clear hm
            have HKhb024 := Lib.hid (hkb)
            clear hkb
            clear ca10 fa10 lta1 cwb00 fwb00 ltwb0 cgb00 fgb00 ltgb0 chb00 fhb00 lthb0
            have lta1 := lt_of_block HKa124.out
            obtain ⟨ca10, fa10⟩ := cell1 HKa124.out
            have ltwb0 := lt_of_block HKwb024.out
            obtain ⟨cwb00, fwb00⟩ := cell1 HKwb024.out
            have ltgb0 := lt_of_block HKgb024.out
            obtain ⟨cgb00, fgb00⟩ := cell1 HKgb024.out
            have lthb0 := lt_of_block HKhb024.out
            obtain ⟨chb00, fhb00⟩ := cell1 HKhb024.out
            refine hK.out _ _ (ca10) (fun hHeld => ?_)
            clear hK K
            try simp only [Act.put]
            refine take1 (i := 11) (v := ?v30) (some 18) rfl rfl (by kernel_rfl) (by kernel_rfl) (by kernel_rfl) (fun _ _ _ h => h) (Or.inl ⟨by rfl, ?y30⟩) (by assumption) ?r30
            case y30 => (intro w hSw; (try dsimp only at hSw); go_simp; (first | done | with_reducible rfl))
            try simp only [Act.put, List.setIfInBounds_toArray, List.set_cons_zero, List.set_cons_succ]
            refine wpAnyH_done (by kernel_rfl) ?_ _
            go_wp2_with fail
            go_meet
            exact ⟨w21.heap.size, ph0, kh0, rfl, rfl, HKhb024.out, HOh24.out.reads, HBs18_24.out⟩
        · go_simp
          have hb : Below w20.heap.size w20 (w20.alloc (.cells #[.slice none 0 0] 34)) := (Below.refl _ _).alloc (Nat.le_refl _) _
          have hk : (w20.alloc (.cells #[.slice none 0 0] 34)).heap[w20.heap.size]? = some (.cells #[.slice none 0 0] 34 (0, 0)) := alloc_at rfl
          have hz : (w20.alloc (.cells #[.slice none 0 0] 34)).heap.size = w20.heap.size + 1 := by simp
          generalize w20.alloc (.cells #[.slice none 0 0] 34) = w21 at hb hk hz ⊢
          have HB21 : Hid (Below w.heap.size w w21) := Lib.hid (HB20.out.trans (hb.mono HB20.out.size))
          have HZ21 : Hid (w20.heap.size ≤ w21.heap.size) := Lib.hid hb.size
          have HRf021 := Lib.hid (HRf00.out.below HB21.out (Nat.le_refl _))
          have HRf121 := Lib.hid (HRf10.out.below HB21.out (Nat.le_refl _))
          have HKa121 := Lib.hid ((hb.block _ (lt_of_block HKa120.out)).trans HKa120.out)
          have HKwb021 := Lib.hid ((hb.block _ (lt_of_block HKwb020.out)).trans HKwb020.out)
          have HRw021 := Lib.hid (HRw020.out.below hb (Nat.le_refl _))
          have HOg21 := Lib.hid (HOg20.out.next hb)
          have HKgb021 := Lib.hid ((hb.block _ (lt_of_block HKgb020.out)).trans HKgb020.out)
          have HRhc021 := Lib.hid (HRhc020.out.below hb (Nat.le_refl _))
          have HBs4_21 : Hid (Below w4.heap.size w4 w21) := Lib.hid (HBs4_20.out.trans (hb.mono HBs4_20.out.size))
          have HBs18_21 : Hid (Below w18.heap.size w18 w21) := Lib.hid (HBs18_20.out.trans (hb.mono HBs18_20.out.size))
          have HBs20_21 : Hid (Below w20.heap.size w20 w21) := Lib.hid (HBs20_20.out.trans (hb.mono HBs20_20.out.size))
          have HKhb021 := Lib.hid hk
          replace HZ21 : Hid (w20.heap.size < w21.heap.size) := Lib.hid (by omega)
          have HE21 := Lib.hid hz
          clear hb hk hz
          clear ca10 fa10 lta1 cwb00 fwb00 ltwb0 cgb00 fgb00 ltgb0
          have lta1 := lt_of_block HKa121.out
          obtain ⟨ca10, fa10⟩ := cell1 HKa121.out
          have ltwb0 := lt_of_block HKwb021.out
          obtain ⟨cwb00, fwb00⟩ := cell1 HKwb021.out
          have ltgb0 := lt_of_block HKgb021.out
          obtain ⟨cgb00, fgb00⟩ := cell1 HKgb021.out
          have lthb0 := lt_of_block HKhb021.out
          obtain ⟨chb00, fhb00⟩ := cell1 HKhb021.out
          refine hK.out _ _ (ca10) (fun hHeld => ?_)
          clear hK K
          try simp only [Act.put, List.setIfInBounds_toArray, List.set_cons_zero, List.set_cons_succ]
          refine wpAnyH_ready (rs := [3]) (by kernel_rfl) (by simp) ?_
          refine AllReadyH.cons rfl (fun K hK => ?_) AllReadyH.nil
          go_simp
          go_at_call 20
          refine (toAmount_any _ cs1 _ HRf121.out hn1).mono ?_
          rintro e w22 ⟨⟨shc1, rfl, ho⟩, hb⟩
          have HB22 : Hid (Below w.heap.size w w22) := Lib.hid (HB21.out.trans (hb.mono HB21.out.size))
          have HZ22 : Hid (w21.heap.size ≤ w22.heap.size) := Lib.hid hb.size
          have HRf022 := Lib.hid (HRf00.out.below HB22.out (Nat.le_refl _))
          have HRf122 := Lib.hid (HRf10.out.below HB22.out (Nat.le_refl _))
          have HKa122 := Lib.hid ((hb.block _ (lt_of_block HKa121.out)).trans HKa121.out)
          have HKwb022 := Lib.hid ((hb.block _ (lt_of_block HKwb021.out)).trans HKwb021.out)
          have HRw022 := Lib.hid (HRw021.out.below hb (Nat.le_refl _))
          have HOg22 := Lib.hid (HOg21.out.next hb)
          have HKgb022 := Lib.hid ((hb.block _ (lt_of_block HKgb021.out)).trans HKgb021.out)
          have HRhc022 := Lib.hid (HRhc021.out.below hb (Nat.le_refl _))
          have HKhb022 := Lib.hid ((hb.block _ (lt_of_block HKhb021.out)).trans HKhb021.out)
          have HBs4_22 : Hid (Below w4.heap.size w4 w22) := Lib.hid (HBs4_21.out.trans (hb.mono HBs4_21.out.size))
          have HBs18_22 : Hid (Below w18.heap.size w18 w22) := Lib.hid (HBs18_21.out.trans (hb.mono HBs18_21.out.size))
          have HBs20_22 : Hid (Below w20.heap.size w20 w22) := Lib.hid (HBs20_21.out.trans (hb.mono HBs20_21.out.size))
          clear hb
          obtain ⟨phc1, khc1, rfl⟩ := ho.form
          have HRhc122 := Lib.hid (ho.reads)
          have HBs22_22 : Hid (Below w22.heap.size w22 w22) := Lib.hid (Below.refl _ _)
          clear ho
          clear ca10 fa10 lta1 cwb00 fwb00 ltwb0 cgb00 fgb00 ltgb0 chb00 fhb00 lthb0
          have lta1 := lt_of_block HKa122.out
          obtain ⟨ca10, fa10⟩ := cell1 HKa122.out
          have ltwb0 := lt_of_block HKwb022.out
          obtain ⟨cwb00, fwb00⟩ := cell1 HKwb022.out
          have ltgb0 := lt_of_block HKgb022.out
          obtain ⟨cgb00, fgb00⟩ := cell1 HKgb022.out
          have lthb0 := lt_of_block HKhb022.out
          obtain ⟨chb00, fhb00⟩ := cell1 HKhb022.out
          try go_simp
          refine hK.out _ _ (ca10) (fun hHeld => ?_)
          clear hK K
          try simp only [Act.put, List.setIfInBounds_toArray, List.set_cons_zero, List.set_cons_succ]
          refine wpAnyH_ready (rs := [5]) (by kernel_rfl) (by simp) ?_
          refine AllReadyH.cons rfl (fun K hK => ?_) AllReadyH.nil
          go_simp
          go_at_call 35
          refine (HI.out _ _ _ HRhc022.out HRhc122.out).mono ?_
          rintro e w23 ⟨⟨th0, rfl, ho⟩, hb⟩
          have HB23 : Hid (Below w.heap.size w w23) := Lib.hid (HB22.out.trans (hb.mono HB22.out.size))
          have HZ23 : Hid (w22.heap.size ≤ w23.heap.size) := Lib.hid hb.size
          have HRf023 := Lib.hid (HRf00.out.below HB23.out (Nat.le_refl _))
          have HRf123 := Lib.hid (HRf10.out.below HB23.out (Nat.le_refl _))
          have HKa123 := Lib.hid ((hb.block _ (lt_of_block HKa122.out)).trans HKa122.out)
          have HKwb023 := Lib.hid ((hb.block _ (lt_of_block HKwb022.out)).trans HKwb022.out)
          have HRw023 := Lib.hid (HRw022.out.below hb (Nat.le_refl _))
          have HOg23 := Lib.hid (HOg22.out.next hb)
          have HKgb023 := Lib.hid ((hb.block _ (lt_of_block HKgb022.out)).trans HKgb022.out)
          have HRhc023 := Lib.hid (HRhc022.out.below hb (Nat.le_refl _))
          have HKhb023 := Lib.hid ((hb.block _ (lt_of_block HKhb022.out)).trans HKhb022.out)
          have HRhc123 := Lib.hid (HRhc122.out.below hb (Nat.le_refl _))
          have HBs4_23 : Hid (Below w4.heap.size w4 w23) := Lib.hid (HBs4_22.out.trans (hb.mono HBs4_22.out.size))
          have HBs18_23 : Hid (Below w18.heap.size w18 w23) := Lib.hid (HBs18_22.out.trans (hb.mono HBs18_22.out.size))
          have HBs20_23 : Hid (Below w20.heap.size w20 w23) := Lib.hid (HBs20_22.out.trans (hb.mono HBs20_22.out.size))
          have HBs22_23 : Hid (Below w22.heap.size w22 w23) := Lib.hid (HBs22_22.out.trans (hb.mono HBs22_22.out.size))
          clear hb
          obtain ⟨ph0, kh0, rfl⟩ := ho.form
          have HOh23 := Lib.hid (ho)
          clear ho
          clear ca10 fa10 lta1 cwb00 fwb00 ltwb0 cgb00 fgb00 ltgb0 chb00 fhb00 lthb0
          have lta1 := lt_of_block HKa123.out
          obtain ⟨ca10, fa10⟩ := cell1 HKa123.out
          have ltwb0 := lt_of_block HKwb023.out
          obtain ⟨cwb00, fwb00⟩ := cell1 HKwb023.out
          have ltgb0 := lt_of_block HKgb023.out
          obtain ⟨cgb00, fgb00⟩ := cell1 HKgb023.out
          have lthb0 := lt_of_block HKhb023.out
          obtain ⟨chb00, fhb00⟩ := cell1 HKhb023.out
          try go_simp
          refine hK.out _ _ (ca10) (fun hHeld => ?_)
          clear hK K
          try simp only [Act.put, List.setIfInBounds_toArray, List.set_cons_zero, List.set_cons_succ]
          refine take1 (i := 6) (v := ?v31) (some 98) rfl rfl (by kernel_rfl) (by kernel_rfl) (by kernel_rfl) (fun _ _ _ h => h) (Or.inl ⟨by rfl, ?y31⟩) (by assumption) ?r31
          case y31 => (intro w hSw; (try dsimp only at hSw); go_simp; (first | done | with_reducible rfl))
          try simp only [Act.put, List.setIfInBounds_toArray, List.set_cons_zero, List.set_cons_succ]
          refine take1 (i := 7) (v := ?v32) (some 105) rfl rfl (by kernel_rfl) (by kernel_rfl) (by kernel_rfl) (fun _ _ _ h => h) (Or.inl ⟨by rfl, ?y32⟩) (by assumption) ?r32
          case y32 => (intro w hSw; (try dsimp only at hSw); go_simp; (first | done | with_reducible rfl))
          try simp only [Act.put, List.setIfInBounds_toArray, List.set_cons_zero, List.set_cons_succ]
          refine take1 (i := 8) (v := ?v33) (some 106) rfl rfl (by kernel_rfl) (by kernel_rfl) (by kernel_rfl) (fun _ _ _ h => h) (Or.inl ⟨by rfl, ?y33⟩) (by assumption) ?r33
          case y33 => (intro w hSw; (try dsimp only at hSw); go_simp; (first | done | with_reducible rfl))
          try simp only [Act.put, List.setIfInBounds_toArray, List.set_cons_zero, List.set_cons_succ]
          refine wpAnyH_ready (rs := [10]) (by kernel_rfl) (by simp) ?_
          refine AllReadyH.cons rfl (fun K hK => ?_) AllReadyH.nil
          go_simp
          have hkb := box1_set HKhb023.out (.slice ph0 qs0.length kh0)
          have hm : Btw w20.heap.size (w20.heap.size + 1) w23 (w23.setCell ⟨w20.heap.size, 0, none⟩ (.slice ph0 qs0.length kh0)) := (Btw.refl (w20.heap.size) (w20.heap.size + 1) w23).setCell (p := ⟨w20.heap.size, 0, none⟩) (Nat.le_refl _) (Nat.lt_succ_self _) _
          generalize w23.setCell ⟨w20.heap.size, 0, none⟩ (.slice ph0 qs0.length kh0) = w24 at hkb hm ⊢
          have HZ24 : Hid (w23.heap.size ≤ w24.heap.size) := Lib.hid hm.size
          have HB24 : Hid (Below w.heap.size w w24) := Lib.hid (HB23.out.trans (hm.below.mono (by have := HZ1.out; have := HZ2.out; have := HZ3.out; have := HZ4.out; have := HZ5.out; have := HZ6.out; have := HZ7.out; have := HZ8.out; have := HZ9.out; have := HZ10.out; have := HZ11.out; have := HZ12.out; have := HZ13.out; have := HZ14.out; have := HZ15.out; have := HZ16.out; have := HZ17.out; have := HZ18.out; have := HZ19.out; have := HZ20.out; have := HZ21.out; have := HZ22.out; have := HZ23.out; have := HB0.out.size; omega)))
          have HRf024 := Lib.hid (HRf00.out.below HB24.out (Nat.le_refl _))
          have HRf124 := Lib.hid (HRf10.out.below HB24.out (Nat.le_refl _))
          have HKa124 := Lib.hid ((hm.block _ (by have := lt_of_block HKa123.out; have := HZ1.out; have := HZ2.out; have := HZ3.out; have := HZ4.out; have := HZ5.out; have := HZ6.out; have := HZ7.out; have := HZ8.out; have := HZ9.out; have := HZ10.out; have := HZ11.out; have := HZ12.out; have := HZ13.out; have := HZ14.out; have := HZ15.out; have := HZ16.out; have := HZ17.out; have := HZ18.out; have := HZ19.out; have := HZ20.out; have := HZ21.out; have := HZ22.out; have := HZ23.out; omega)).trans HKa123.out)
          have HKwb024 := Lib.hid ((hm.block _ (by have := lt_of_block HKwb023.out; have := HZ1.out; have := HZ2.out; have := HZ3.out; have := HZ4.out; have := HZ5.out; have := HZ6.out; have := HZ7.out; have := HZ8.out; have := HZ9.out; have := HZ10.out; have := HZ11.out; have := HZ12.out; have := HZ13.out; have := HZ14.out; have := HZ15.out; have := HZ16.out; have := HZ17.out; have := HZ18.out; have := HZ19.out; have := HZ20.out; have := HZ21.out; have := HZ22.out; have := HZ23.out; omega)).trans HKwb023.out)
          have HRw024 := Lib.hid (HRw04.out.below (HBs4_23.out.trans (hm.below.mono (by have := HZ1.out; have := HZ2.out; have := HZ3.out; have := HZ4.out; have := HZ5.out; have := HZ6.out; have := HZ7.out; have := HZ8.out; have := HZ9.out; have := HZ10.out; have := HZ11.out; have := HZ12.out; have := HZ13.out; have := HZ14.out; have := HZ15.out; have := HZ16.out; have := HZ17.out; have := HZ18.out; have := HZ19.out; have := HZ20.out; have := HZ21.out; have := HZ22.out; have := HZ23.out; omega))) (Nat.le_refl _))
          have HOg24 := Lib.hid (HOg23.out.btw hm (by have := HZ1.out; have := HZ2.out; have := HZ3.out; have := HZ4.out; have := HZ5.out; have := HZ6.out; have := HZ7.out; have := HZ8.out; have := HZ9.out; have := HZ10.out; have := HZ11.out; have := HZ12.out; have := HZ13.out; have := HZ14.out; have := HZ15.out; have := HZ16.out; have := HZ17.out; have := HZ18.out; have := HZ19.out; have := HZ20.out; have := HZ21.out; have := HZ22.out; have := HZ23.out; omega))
          have HKgb024 := Lib.hid ((hm.block _ (by have := lt_of_block HKgb023.out; have := HZ1.out; have := HZ2.out; have := HZ3.out; have := HZ4.out; have := HZ5.out; have := HZ6.out; have := HZ7.out; have := HZ8.out; have := HZ9.out; have := HZ10.out; have := HZ11.out; have := HZ12.out; have := HZ13.out; have := HZ14.out; have := HZ15.out; have := HZ16.out; have := HZ17.out; have := HZ18.out; have := HZ19.out; have := HZ20.out; have := HZ21.out; have := HZ22.out; have := HZ23.out; omega)).trans HKgb023.out)
          have HOh24 := Lib.hid (HOh23.out.btw hm (by have := HZ1.out; have := HZ2.out; have := HZ3.out; have := HZ4.out; have := HZ5.out; have := HZ6.out; have := HZ7.out; have := HZ8.out; have := HZ9.out; have := HZ10.out; have := HZ11.out; have := HZ12.out; have := HZ13.out; have := HZ14.out; have := HZ15.out; have := HZ16.out; have := HZ17.out; have := HZ18.out; have := HZ19.out; have := HZ20.out; have := HZ21.out; have := HZ22.out; have := HZ23.out; omega))
          have HBs4_24 : Hid (Below w4.heap.size w4 w24) := Lib.hid (HBs4_23.out.trans (hm.below.mono (by have := HZ1.out; have := HZ2.out; have := HZ3.out; have := HZ4.out; have := HZ5.out; have := HZ6.out; have := HZ7.out; have := HZ8.out; have := HZ9.out; have := HZ10.out; have := HZ11.out; have := HZ12.out; have := HZ13.out; have := HZ14.out; have := HZ15.out; have := HZ16.out; have := HZ17.out; have := HZ18.out; have := HZ19.out; have := HZ20.out; have := HZ21.out; have := HZ22.out; have := HZ23.out; omega)))
          have HBs18_24 : Hid (Below w18.heap.size w18 w24) := Lib.hid (HBs18_23.out.trans (hm.below.mono (by have := HZ1.out; have := HZ2.out; have := HZ3.out; have := HZ4.out; have := HZ5.out; have := HZ6.out; have := HZ7.out; have := HZ8.out; have := HZ9.out; have := HZ10.out; have := HZ11.out; have := HZ12.out; have := HZ13.out; have := HZ14.out; have := HZ15.out; have := HZ16.out; have := HZ17.out; have := HZ18.out; have := HZ19.out; have := HZ20.out; have := HZ21.out; have := HZ22.out; have := HZ23.out; omega)))
          clear hm
          have HKhb024 := Lib.hid (hkb)
          clear hkb
          clear ca10 fa10 lta1 cwb00 fwb00 ltwb0 cgb00 fgb00 ltgb0 chb00 fhb00 lthb0
          have lta1 := lt_of_block HKa124.out
          obtain ⟨ca10, fa10⟩ := cell1 HKa124.out
          have ltwb0 := lt_of_block HKwb024.out
          obtain ⟨cwb00, fwb00⟩ := cell1 HKwb024.out
          have ltgb0 := lt_of_block HKgb024.out
          obtain ⟨cgb00, fgb00⟩ := cell1 HKgb024.out
          have lthb0 := lt_of_block HKhb024.out
          obtain ⟨chb00, fhb00⟩ := cell1 HKhb024.out
          refine hK.out _ _ (ca10) (fun hHeld => ?_)
          clear hK K
          try simp only [Act.put]
          refine take1 (i := 11) (v := ?v34) (some 18) rfl rfl (by kernel_rfl) (by kernel_rfl) (by kernel_rfl) (fun _ _ _ h => h) (Or.inl ⟨by rfl, ?y34⟩) (by assumption) ?r34
          case y34 => (intro w hSw; (try dsimp only at hSw); go_simp; (first | done | with_reducible rfl))
          try simp only [Act.put, List.setIfInBounds_toArray, List.set_cons_zero, List.set_cons_succ]
          refine wpAnyH_done (by kernel_rfl) ?_ _
          go_wp2_with fail
          go_meet
          exact ⟨w20.heap.size, ph0, kh0, rfl, rfl, HKhb024.out, HOh24.out.reads, HBs18_24.out⟩
      · go_simp
        have hb : Below w19.heap.size w19 (w19.alloc (.cells #[.slice none 0 0] 34)) := (Below.refl _ _).alloc (Nat.le_refl _) _
        have hk : (w19.alloc (.cells #[.slice none 0 0] 34)).heap[w19.heap.size]? = some (.cells #[.slice none 0 0] 34 (0, 0)) := alloc_at rfl
        have hz : (w19.alloc (.cells #[.slice none 0 0] 34)).heap.size = w19.heap.size + 1 := by simp
        generalize w19.alloc (.cells #[.slice none 0 0] 34) = w20 at hb hk hz ⊢
        have HB20 : Hid (Below w.heap.size w w20) := Lib.hid (HB19.out.trans (hb.mono HB19.out.size))
        have HZ20 : Hid (w19.heap.size ≤ w20.heap.size) := Lib.hid hb.size
        have HRf020 := Lib.hid (HRf00.out.below HB20.out (Nat.le_refl _))
        have HRf120 := Lib.hid (HRf10.out.below HB20.out (Nat.le_refl _))
        have HKa120 := Lib.hid ((hb.block _ (lt_of_block HKa119.out)).trans HKa119.out)
        have HKwb020 := Lib.hid ((hb.block _ (lt_of_block HKwb019.out)).trans HKwb019.out)
        have HRw020 := Lib.hid (HRw019.out.below hb (Nat.le_refl _))
        have HOg20 := Lib.hid (HOg19.out.next hb)
        have HKgb020 := Lib.hid ((hb.block _ (lt_of_block HKgb019.out)).trans HKgb019.out)
        have HBs4_20 : Hid (Below w4.heap.size w4 w20) := Lib.hid (HBs4_19.out.trans (hb.mono HBs4_19.out.size))
        have HBs18_20 : Hid (Below w18.heap.size w18 w20) := Lib.hid (HBs18_19.out.trans (hb.mono HBs18_19.out.size))
        have HKhb020 := Lib.hid hk
        replace HZ20 : Hid (w19.heap.size < w20.heap.size) := Lib.hid (by omega)
        have HE20 := Lib.hid hz
        clear hb hk hz
        clear ca10 fa10 lta1 cwb00 fwb00 ltwb0 cgb00 fgb00 ltgb0
        have lta1 := lt_of_block HKa120.out
        obtain ⟨ca10, fa10⟩ := cell1 HKa120.out
        have ltwb0 := lt_of_block HKwb020.out
        obtain ⟨cwb00, fwb00⟩ := cell1 HKwb020.out
        have ltgb0 := lt_of_block HKgb020.out
        obtain ⟨cgb00, fgb00⟩ := cell1 HKgb020.out
        have lthb0 := lt_of_block HKhb020.out
        obtain ⟨chb00, fhb00⟩ := cell1 HKhb020.out
        refine hK.out _ _ (ca10) (fun hHeld => ?_)
        clear hK K
        try simp only [Act.put, List.setIfInBounds_toArray, List.set_cons_zero, List.set_cons_succ]
        refine wpAnyH_ready (rs := [1]) (by kernel_rfl) (by simp) ?_
        refine AllReadyH.cons rfl (fun K hK => ?_) AllReadyH.nil
        go_simp
        go_at_call 15
        refine (toUnitS_any _ us0 _ HRf020.out hn0).mono ?_
        rintro e w21 ⟨⟨shc0, rfl, ho⟩, hb⟩
        have HB21 : Hid (Below w.heap.size w w21) := Lib.hid (HB20.out.trans (hb.mono HB20.out.size))
        have HZ21 : Hid (w20.heap.size ≤ w21.heap.size) := Lib.hid hb.size
        have HRf021 := Lib.hid (HRf00.out.below HB21.out (Nat.le_refl _))
        have HRf121 := Lib.hid (HRf10.out.below HB21.out (Nat.le_refl _))
        have HKa121 := Lib.hid ((hb.block _ (lt_of_block HKa120.out)).trans HKa120.out)
        have HKwb021 := Lib.hid ((hb.block _ (lt_of_block HKwb020.out)).trans HKwb020.out)
        have HRw021 := Lib.hid (HRw020.out.below hb (Nat.le_refl _))
        have HOg21 := Lib.hid (HOg20.out.next hb)
        have HKgb021 := Lib.hid ((hb.block _ (lt_of_block HKgb020.out)).trans HKgb020.out)
        have HKhb021 := Lib.hid ((hb.block _ (lt_of_block HKhb020.out)).trans HKhb020.out)
        have HBs4_21 : Hid (Below w4.heap.size w4 w21) := Lib.hid (HBs4_20.out.trans (hb.mono HBs4_20.out.size))
        have HBs18_21 : Hid (Below w18.heap.size w18 w21) := Lib.hid (HBs18_20.out.trans (hb.mono HBs18_20.out.size))
        clear hb
        obtain ⟨phc0, khc0, rfl⟩ := own_form ho
        have HRhc021 := Lib.hid (RowsR.of_own unC_len ho)
        have HBs21_21 : Hid (Below w21.heap.size w21 w21) := Lib.hid (Below.refl _ _)
        clear ho
        clear ca10 fa10 lta1 cwb00 fwb00 ltwb0 cgb00 fgb00 ltgb0 chb00 fhb00 lthb0
        have lta1 := lt_of_block HKa121.out
        obtain ⟨ca10, fa10⟩ := cell1 HKa121.out
        have ltwb0 := lt_of_block HKwb021.out
        obtain ⟨cwb00, fwb00⟩ := cell1 HKwb021.out
        have ltgb0 := lt_of_block HKgb021.out
        obtain ⟨cgb00, fgb00⟩ := cell1 HKgb021.out
        have lthb0 := lt_of_block HKhb021.out
        obtain ⟨chb00, fhb00⟩ := cell1 HKhb021.out
        try go_simp
        refine hK.out _ _ (ca10) (fun hHeld => ?_)
        clear hK K
        try simp only [Act.put, List.setIfInBounds_toArray, List.set_cons_zero, List.set_cons_succ]
        refine wpAnyH_ready (rs := [3]) (by kernel_rfl) (by simp) ?_
        refine AllReadyH.cons rfl (fun K hK => ?_) AllReadyH.nil
        go_simp
        go_at_call 20
        refine (toAmount_any _ cs1 _ HRf121.out hn1).mono ?_
        rintro e w22 ⟨⟨shc1, rfl, ho⟩, hb⟩
        have HB22 : Hid (Below w.heap.size w w22) := Lib.hid (HB21.out.trans (hb.mono HB21.out.size))
        have HZ22 : Hid (w21.heap.size ≤ w22.heap.size) := Lib.hid hb.size
        have HRf022 := Lib.hid (HRf00.out.below HB22.out (Nat.le_refl _))
        have HRf122 := Lib.hid (HRf10.out.below HB22.out (Nat.le_refl _))
        have HKa122 := Lib.hid ((hb.block _ (lt_of_block HKa121.out)).trans HKa121.out)
        have HKwb022 := Lib.hid ((hb.block _ (lt_of_block HKwb021.out)).trans HKwb021.out)
        have HRw022 := Lib.hid (HRw021.out.below hb (Nat.le_refl _))
        have HOg22 := Lib.hid (HOg21.out.next hb)
        have HKgb022 := Lib.hid ((hb.block _ (lt_of_block HKgb021.out)).trans HKgb021.out)
        have HKhb022 := Lib.hid ((hb.block _ (lt_of_block HKhb021.out)).trans HKhb021.out)
        have HRhc022 := Lib.hid (HRhc021.out.below hb (Nat.le_refl _))
        have HBs4_22 : Hid (Below w4.heap.size w4 w22) := Lib.hid (HBs4_21.out.trans (hb.mono HBs4_21.out.size))
        have HBs18_22 : Hid (Below w18.heap.size w18 w22) := Lib.hid (HBs18_21.out.trans (hb.mono HBs18_21.out.size))
        have HBs21_22 : Hid (Below w21.heap.size w21 w22) := Lib.hid (HBs21_21.out.trans (hb.mono HBs21_21.out.size))
        clear hb
        obtain ⟨phc1, khc1, rfl⟩ := ho.form
        have HRhc122 := Lib.hid (ho.reads)
        have HBs22_22 : Hid (Below w22.heap.size w22 w22) := Lib.hid (Below.refl _ _)
        clear ho
        clear ca10 fa10 lta1 cwb00 fwb00 ltwb0 cgb00 fgb00 ltgb0 chb00 fhb00 lthb0
        have lta1 := lt_of_block HKa122.out
        obtain ⟨ca10, fa10⟩ := cell1 HKa122.out
        have ltwb0 := lt_of_block HKwb022.out
        obtain ⟨cwb00, fwb00⟩ := cell1 HKwb022.out
        have ltgb0 := lt_of_block HKgb022.out
        obtain ⟨cgb00, fgb00⟩ := cell1 HKgb022.out
        have lthb0 := lt_of_block HKhb022.out
        obtain ⟨chb00, fhb00⟩ := cell1 HKhb022.out
        try go_simp
        refine hK.out _ _ (ca10) (fun hHeld => ?_)
        clear hK K
        try simp only [Act.put, List.setIfInBounds_toArray, List.set_cons_zero, List.set_cons_succ]
        refine wpAnyH_ready (rs := [5]) (by kernel_rfl) (by simp) ?_
        refine AllReadyH.cons rfl (fun K hK => ?_) AllReadyH.nil
        go_simp
        go_at_call 35
        refine (HI.out _ _ _ HRhc022.out HRhc122.out).mono ?_
        rintro e w23 ⟨⟨th0, rfl, ho⟩, hb⟩
        have HB23 : Hid (Below w.heap.size w w23) := Lib.hid (HB22.out.trans (hb.mono HB22.out.size))
        have HZ23 : Hid (w22.heap.size ≤ w23.heap.size) := Lib.hid hb.size
        have HRf023 := Lib.hid (HRf00.out.below HB23.out (Nat.le_refl _))
        have HRf123 := Lib.hid (HRf10.out.below HB23.out (Nat.le_refl _))
        have HKa123 := Lib.hid ((hb.block _ (lt_of_block HKa122.out)).trans HKa122.out)
        have HKwb023 := Lib.hid ((hb.block _ (lt_of_block HKwb022.out)).trans HKwb022.out)
        have HRw023 := Lib.hid (HRw022.out.below hb (Nat.le_refl _))
        have HOg23 := Lib.hid (HOg22.out.next hb)
        have HKgb023 := Lib.hid ((hb.block _ (lt_of_block HKgb022.out)).trans HKgb022.out)
        have HKhb023 := Lib.hid ((hb.block _ (lt_of_block HKhb022.out)).trans HKhb022.out)
        have HRhc023 := Lib.hid (HRhc022.out.below hb (Nat.le_refl _))
        have HRhc123 := Lib.hid (HRhc122.out.below hb (Nat.le_refl _))
        have HBs4_23 : Hid (Below w4.heap.size w4 w23) := Lib.hid (HBs4_22.out.trans (hb.mono HBs4_22.out.size))
        have HBs18_23 : Hid (Below w18.heap.size w18 w23) := Lib.hid (HBs18_22.out.trans (hb.mono HBs18_22.out.size))
        have HBs21_23 : Hid (Below w21.heap.size w21 w23) := Lib.hid (HBs21_22.out.trans (hb.mono HBs21_22.out.size))
        have HBs22_23 : Hid (Below w22.heap.size w22 w23) := Lib.hid (HBs22_22.out.trans (hb.mono HBs22_22.out.size))
        clear hb
        obtain ⟨ph0, kh0, rfl⟩ := ho.form
        have HOh23 := Lib.hid (ho)
        clear ho
        clear ca10 fa10 lta1 cwb00 fwb00 ltwb0 cgb00 fgb00 ltgb0 chb00 fhb00 lthb0
        have lta1 := lt_of_block HKa123.out
        obtain ⟨ca10, fa10⟩ := cell1 HKa123.out
        have ltwb0 := lt_of_block HKwb023.out
        obtain ⟨cwb00, fwb00⟩ := cell1 HKwb023.out
        have ltgb0 := lt_of_block HKgb023.out
        obtain ⟨cgb00, fgb00⟩ := cell1 HKgb023.out
        have lthb0 := lt_of_block HKhb023.out
        obtain ⟨chb00, fhb00⟩ := cell1 HKhb023.out
        try go_simp
        refine hK.out _ _ (ca10) (fun hHeld => ?_)
        clear hK K
        try simp only [Act.put, List.setIfInBounds_toArray, List.set_cons_zero, List.set_cons_succ]
        refine take1 (i := 6) (v := ?v35) (some 98) rfl rfl (by kernel_rfl) (by kernel_rfl) (by kernel_rfl) (fun _ _ _ h => h) (Or.inl ⟨by rfl, ?y35⟩) (by assumption) ?r35
        case y35 => (intro w hSw; (try dsimp only at hSw); go_simp; (first | done | with_reducible rfl))
        try simp only [Act.put, List.setIfInBounds_toArray, List.set_cons_zero, List.set_cons_succ]
        refine take1 (i := 7) (v := ?v36) (some 105) rfl rfl (by kernel_rfl) (by kernel_rfl) (by kernel_rfl) (fun _ _ _ h => h) (Or.inl ⟨by rfl, ?y36⟩) (by assumption) ?r36
        case y36 => (intro w hSw; (try dsimp only at hSw); go_simp; (first | done | with_reducible rfl))
        try simp only [Act.put, List.setIfInBounds_toArray, List.set_cons_zero, List.set_cons_succ]
        refine take1 (i := 8) (v := ?v37) (some 106) rfl rfl (by kernel_rfl) (by kernel_rfl) (by kernel_rfl) (fun _ _ _ h => h) (Or.inl ⟨by rfl, ?y37⟩) (by assumption) ?r37
        case y37 => (intro w hSw; (try dsimp only at hSw); go_simp; (first | done | with_reducible rfl))
        try simp only [Act.put, List.setIfInBounds_toArray, List.set_cons_zero, List.set_cons_succ]
        refine wpAnyH_ready (rs := [10]) (by kernel_rfl) (by simp) ?_
        refine AllReadyH.cons rfl (fun K hK => ?_) AllReadyH.nil
        go_simp
        have hkb := box1_set HKhb023.out (.slice ph0 qs0.length kh0)
        have hm : Btw w19.heap.size (w19.heap.size + 1) w23 (w23.setCell ⟨w19.heap.size, 0, none⟩ (.slice ph0 qs0.length kh0)) := (Btw.refl (w19.heap.size) (w19.heap.size + 1) w23).setCell (p := ⟨w19.heap.size, 0, none⟩) (Nat.le_refl _) (Nat.lt_succ_self _) _
        generalize w23.setCell ⟨w19.heap.size, 0, none⟩ (.slice ph0 qs0.length kh0) = w24 at hkb hm ⊢
        have HZ24 : Hid (w23.heap.size ≤ w24.heap.size) := Lib.hid hm.size
        have HB24 : Hid (Below w.heap.size w w24) := Lib.hid (HB23.out.trans (hm.below.mono (by have := HZ1.out; have := HZ2.out; have := HZ3.out; have := HZ4.out; have := HZ5.out; have := HZ6.out; have := HZ7.out; have := HZ8.out; have := HZ9.out; have := HZ10.out; have := HZ11.out; have := HZ12.out; have := HZ13.out; have := HZ14.out; have := HZ15.out; have := HZ16.out; have := HZ17.out; have := HZ18.out; have := HZ19.out; have := HZ20.out; have := HZ21.out; have := HZ22.out; have := HZ23.out; have := HB0.out.size; omega)))
        have HRf024 := Lib.hid (HRf00.out.below HB24.out (Nat.le_refl _))
        have HRf124 := Lib.hid (HRf10.out.below HB24.out (Nat.le_refl _))
        have HKa124 := Lib.hid ((hm.block _ (by have := lt_of_block HKa123.out; have := HZ1.out; have := HZ2.out; have := HZ3.out; have := HZ4.out; have := HZ5.out; have := HZ6.out; have := HZ7.out; have := HZ8.out; have := HZ9.out; have := HZ10.out; have := HZ11.out; have := HZ12.out; have := HZ13.out; have := HZ14.out; have := HZ15.out; have := HZ16.out; have := HZ17.out; have := HZ18.out; have := HZ19.out; have := HZ20.out; have := HZ21.out; have := HZ22.out; have := HZ23.out; omega)).trans HKa123.out)
        have HKwb024 := Lib.hid ((hm.block _ (by have := lt_of_block HKwb023.out; have := HZ1.out; have := HZ2.out; have := HZ3.out; have := HZ4.out; have := HZ5.out; have := HZ6.out; have := HZ7.out; have := HZ8.out; have := HZ9.out; have := HZ10.out; have := HZ11.out; have := HZ12.out; have := HZ13.out; have := HZ14.out; have := HZ15.out; have := HZ16.out; have := HZ17.out; have := HZ18.out; have := HZ19.out; have := HZ20.out; have := HZ21.out; have := HZ22.out; have := HZ23.out; omega)).trans HKwb023.out)
        have HRw024 := Lib.hid (HRw04.out.below (HBs4_23.out.trans (hm.below.mono (by have := HZ1.out; have := HZ2.out; have := HZ3.out; have := HZ4.out; have := HZ5.out; have := HZ6.out; have := HZ7.out; have := HZ8.out; have := HZ9.out; have := HZ10.out; have := HZ11.out; have := HZ12.out; have := HZ13.out; have := HZ14.out; have := HZ15.out; have := HZ16.out; have := HZ17.out; have := HZ18.out; have := HZ19.out; have := HZ20.out; have := HZ21.out; have := HZ22.out; have := HZ23.out; omega))) (Nat.le_refl _))
        have HOg24 := Lib.hid (HOg23.out.btw hm (by have := HZ1.out; have := HZ2.out; have := HZ3.out; have := HZ4.out; have := HZ5.out; have := HZ6.out; have := HZ7.out; have := HZ8.out; have := HZ9.out; have := HZ10.out; have := HZ11.out; have := HZ12.out; have := HZ13.out; have := HZ14.out; have := HZ15.out; have := HZ16.out; have := HZ17.out; have := HZ18.out; have := HZ19.out; have := HZ20.out; have := HZ21.out; have := HZ22.out; have := HZ23.out; omega))
        have HKgb024 := Lib.hid ((hm.block _ (by have := lt_of_block HKgb023.out; have := HZ1.out; have := HZ2.out; have := HZ3.out; have := HZ4.out; have := HZ5.out; have := HZ6.out; have := HZ7.out; have := HZ8.out; have := HZ9.out; have := HZ10.out; have := HZ11.out; have := HZ12.out; have := HZ13.out; have := HZ14.out; have := HZ15.out; have := HZ16.out; have := HZ17.out; have := HZ18.out; have := HZ19.out; have := HZ20.out; have := HZ21.out; have := HZ22.out; have := HZ23.out; omega)).trans HKgb023.out)
        have HOh24 := Lib.hid (HOh23.out.btw hm (by have := HZ1.out; have := HZ2.out; have := HZ3.out; have := HZ4.out; have := HZ5.out; have := HZ6.out; have := HZ7.out; have := HZ8.out; have := HZ9.out; have := HZ10.out; have := HZ11.out; have := HZ12.out; have := HZ13.out; have := HZ14.out; have := HZ15.out; have := HZ16.out; have := HZ17.out; have := HZ18.out; have := HZ19.out; have := HZ20.out; have := HZ21.out; have := HZ22.out; have := HZ23.out; omega))
        have HBs4_24 : Hid (Below w4.heap.size w4 w24) := Lib.hid (HBs4_23.out.trans (hm.below.mono (by have := HZ1.out; have := HZ2.out; have := HZ3.out; have := HZ4.out; have := HZ5.out; have := HZ6.out; have := HZ7.out; have := HZ8.out; have := HZ9.out; have := HZ10.out; have := HZ11.out; have := HZ12.out; have := HZ13.out; have := HZ14.out; have := HZ15.out; have := HZ16.out; have := HZ17.out; have := HZ18.out; have := HZ19.out; have := HZ20.out; have := HZ21.out; have := HZ22.out; have := HZ23.out; omega)))
        have HBs18_24 : Hid (Below w18.heap.size w18 w24) := Lib.hid (HBs18_23.out.trans (hm.below.mono (by have := HZ1.out; have := HZ2.out; have := HZ3.out; have := HZ4.out; have := HZ5.out; have := HZ6.out; have := HZ7.out; have := HZ8.out; have := HZ9.out; have := HZ10.out; have := HZ11.out; have := HZ12.out; have := HZ13.out; have := HZ14.out; have := HZ15.out; have := HZ16.out; have := HZ17.out; have := HZ18.out; have := HZ19.out; have := HZ20.out; have := HZ21.out; have := HZ22.out; have := HZ23.out; omega)))
        clear hm
        have HKhb024 := Lib.hid (hkb)
        clear hkb
        clear ca10 fa10 lta1 cwb00 fwb00 ltwb0 cgb00 fgb00 ltgb0 chb00 fhb00 lthb0
        have lta1 := lt_of_block HKa124.out
        obtain ⟨ca10, fa10⟩ := cell1 HKa124.out
        have ltwb0 := lt_of_block HKwb024.out
        obtain ⟨cwb00, fwb00⟩ := cell1 HKwb024.out
        have ltgb0 := lt_of_block HKgb024.out
        obtain ⟨cgb00, fgb00⟩ := cell1 HKgb024.out
        have lthb0 := lt_of_block HKhb024.out
        obtain ⟨chb00, fhb00⟩ := cell1 HKhb024.out
        refine hK.out _ _ (ca10) (fun hHeld => ?_)
        clear hK K
        try simp only [Act.put]
        refine take1 (i := 11) (v := ?v38) (some 18) rfl rfl (by kernel_rfl) (by kernel_rfl) (by kernel_rfl) (fun _ _ _ h => h) (Or.inl ⟨by rfl, ?y38⟩) (by assumption) ?r38
        case y38 => (intro w hSw; (try dsimp only at hSw); go_simp; (first | done | with_reducible rfl))
        try simp only [Act.put, List.setIfInBounds_toArray, List.set_cons_zero, List.set_cons_succ]
        refine wpAnyH_done (by kernel_rfl) ?_ _
        go_wp2_with fail
        go_meet
        exact ⟨w19.heap.size, ph0, kh0, rfl, rfl, HKhb024.out, HOh24.out.reads, HBs18_24.out⟩
    case rest =>
      obtain ⟨bh0, ph0, kh0, rfl, rfl, hkq0, hrq0, hb⟩ := hcut
      rename World => w19
      have HB19 : Hid (Below w.heap.size w w19) := Lib.hid (HB18.out.trans (hb.mono HB18.out.size))
      have HZ19 : Hid (w18.heap.size ≤ w19.heap.size) := Lib.hid hb.size
      have HRf019 := Lib.hid (HRf00.out.below HB19.out (Nat.le_refl _))
      have HRf119 := Lib.hid (HRf10.out.below HB19.out (Nat.le_refl _))
      have HKa119 := Lib.hid ((hb.block _ (lt_of_block HKa118.out)).trans HKa118.out)
      have HKwb019 := Lib.hid ((hb.block _ (lt_of_block HKwb018.out)).trans HKwb018.out)
      have HRw019 := Lib.hid (HRw018.out.below hb (Nat.le_refl _))
      have HOg19 := Lib.hid (HOg18.out.next hb)
      have HKgb019 := Lib.hid ((hb.block _ (lt_of_block HKgb018.out)).trans HKgb018.out)
      have HBs4_19 : Hid (Below w4.heap.size w4 w19) := Lib.hid (HBs4_18.out.trans (hb.mono HBs4_18.out.size))
      clear hb
      have hlth0 := lt_of_block hkq0
      have HKhb019 := Lib.hid (hkq0)
      have HRh019 := Lib.hid (hrq0)
      have HBs19_19 : Hid (Below w19.heap.size w19 w19) := Lib.hid (Below.refl _ _)
      clear hkq0 hrq0
      clear ca10 fa10 lta1 cwb00 fwb00 ltwb0 cgb00 fgb00 ltgb0
      have lta1 := lt_of_block HKa119.out
      obtain ⟨ca10, fa10⟩ := cell1 HKa119.out
      have ltwb0 := lt_of_block HKwb019.out
      obtain ⟨cwb00, fwb00⟩ := cell1 HKwb019.out
      have ltgb0 := lt_of_block HKgb019.out
      obtain ⟨cgb00, fgb00⟩ := cell1 HKgb019.out
      have lthb0 := lt_of_block HKhb019.out
      obtain ⟨chb00, fhb00⟩ := cell1 HKhb019.out
      go_wp2_with fail
      refine (eqAmount_yes _ _ qs0 _ HRh019.out HRw019.out).mono ?_
      rintro e w20 ⟨rfl, hb⟩
      have HB20 : Hid (Below w.heap.size w w20) := Lib.hid (HB19.out.trans (hb.mono HB19.out.size))
      have HZ20 : Hid (w19.heap.size ≤ w20.heap.size) := Lib.hid hb.size
      have HRf020 := Lib.hid (HRf00.out.below HB20.out (Nat.le_refl _))
      have HRf120 := Lib.hid (HRf10.out.below HB20.out (Nat.le_refl _))
      have HKa120 := Lib.hid ((hb.block _ (lt_of_block HKa119.out)).trans HKa119.out)
      have HKwb020 := Lib.hid ((hb.block _ (lt_of_block HKwb019.out)).trans HKwb019.out)
      have HRw020 := Lib.hid (HRw019.out.below hb (Nat.le_refl _))
      have HOg20 := Lib.hid (HOg19.out.next hb)
      have HKgb020 := Lib.hid ((hb.block _ (lt_of_block HKgb019.out)).trans HKgb019.out)
      have HKhb020 := Lib.hid ((hb.block _ (lt_of_block HKhb019.out)).trans HKhb019.out)
      have HRh020 := Lib.hid (HRh019.out.below hb (Nat.le_refl _))
      have HBs4_20 : Hid (Below w4.heap.size w4 w20) := Lib.hid (HBs4_19.out.trans (hb.mono HBs4_19.out.size))
      have HBs19_20 : Hid (Below w19.heap.size w19 w20) := Lib.hid (HBs19_19.out.trans (hb.mono HBs19_19.out.size))
      clear hb
      clear ca10 fa10 lta1 cwb00 fwb00 ltwb0 cgb00 fgb00 ltgb0 chb00 fhb00 lthb0
      have lta1 := lt_of_block HKa120.out
      obtain ⟨ca10, fa10⟩ := cell1 HKa120.out
      have ltwb0 := lt_of_block HKwb020.out
      obtain ⟨cwb00, fwb00⟩ := cell1 HKwb020.out
      have ltgb0 := lt_of_block HKgb020.out
      obtain ⟨cgb00, fgb00⟩ := cell1 HKgb020.out
      have lthb0 := lt_of_block HKhb020.out
      obtain ⟨chb00, fhb00⟩ := cell1 HKhb020.out
      go_wp2_with fail
      refine (heldAmount_any _ qs0.length (1) _ (by have := HOg20.out.reads; exact this) (by omega) (by omega)).mono ?_
      rintro e w21 ⟨rfl, hb⟩
      have HB21 : Hid (Below w.heap.size w w21) := Lib.hid (HB20.out.trans (hb.mono HB20.out.size))
      have HZ21 : Hid (w20.heap.size ≤ w21.heap.size) := Lib.hid hb.size
      have HRf021 := Lib.hid (HRf00.out.below HB21.out (Nat.le_refl _))
      have HRf121 := Lib.hid (HRf10.out.below HB21.out (Nat.le_refl _))
      have HKa121 := Lib.hid ((hb.block _ (lt_of_block HKa120.out)).trans HKa120.out)
      have HKwb021 := Lib.hid ((hb.block _ (lt_of_block HKwb020.out)).trans HKwb020.out)
      have HRw021 := Lib.hid (HRw020.out.below hb (Nat.le_refl _))
      have HOg21 := Lib.hid (HOg20.out.next hb)
      have HKgb021 := Lib.hid ((hb.block _ (lt_of_block HKgb020.out)).trans HKgb020.out)
      have HKhb021 := Lib.hid ((hb.block _ (lt_of_block HKhb020.out)).trans HKhb020.out)
      have HRh021 := Lib.hid (HRh020.out.below hb (Nat.le_refl _))
      have HBs4_21 : Hid (Below w4.heap.size w4 w21) := Lib.hid (HBs4_20.out.trans (hb.mono HBs4_20.out.size))
      have HBs19_21 : Hid (Below w19.heap.size w19 w21) := Lib.hid (HBs19_20.out.trans (hb.mono HBs19_20.out.size))
      clear hb
      clear ca10 fa10 lta1 cwb00 fwb00 ltwb0 cgb00 fgb00 ltgb0 chb00 fhb00 lthb0
      have lta1 := lt_of_block HKa121.out
      obtain ⟨ca10, fa10⟩ := cell1 HKa121.out
      have ltwb0 := lt_of_block HKwb021.out
      obtain ⟨cwb00, fwb00⟩ := cell1 HKwb021.out
      have ltgb0 := lt_of_block HKgb021.out
      obtain ⟨cgb00, fgb00⟩ := cell1 HKgb021.out
      have lthb0 := lt_of_block HKhb021.out
      obtain ⟨chb00, fhb00⟩ := cell1 HKhb021.out
      go_wp2_with fail
      go_ret
      exact ⟨rfl, HB21.out⟩
end Go.Proofs.Ytlmnbecfaaeohaa
