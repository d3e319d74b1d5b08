/- The law on IsAmount: it returns true where the model and the program give one answer. -/
import Derived.Test.YtlmnbecfaaeohaaAmts
import Derived.Test.YtlmnbecfaaeohaaUnits
import Derived.Test.YtlmnbecfaaeohaaKa
import Derived.Deep.RegionHeld3
import Derived.Deep.Cut
namespace Go.Proofs.Ytlmnbecfaaeohaa
set_option linter.unusedVariables false
open Go.RowKit

set_option maxRecDepth 100000 in
set_option maxHeartbeats 3200000 in
theorem lawIsAmount (w : World) (sv0 : Value) (us0 : List Un) (h0 : RowsR 2 unC w sv0 us0) (hs0 : ∀ u ∈ us0, u.nm.size ≤ maxLen) (sv1 : Value) (cs1 : List Int) (h1 : RowsR 1 inC w sv1 cs1) (r0 : Bool) 
    (hS : ∀ s0 s1 w, RowsR 2 unC w s0 us0 → RowsR 1 inC w s1 cs1 → Calls Try.prog 19 #[s0, .agg #[s1]] w fun e w' => e = .returned (.bool r0) ∧ Below w.heap.size w w') 
    (hI : ∀ s0 s1 w, RowsR 2 unC w s0 us0 → RowsR 1 inC w s1 cs1 → Calls Try.prog 21 #[s0, .agg #[s1]] w fun e w' => e = .returned (.bool r0) ∧ Below w.heap.size w w') :
    Calls Try.prog 4 #[sv0, .agg #[sv1]] w fun e w' => e = .returned (.bool true) ∧ Below w.heap.size w w' := by
  have HS := Lib.hid hS
  have HI := Lib.hid hI
  obtain ⟨ad0, cp0, rfl⟩ := h0.form
  have hm0 : us0.length ≤ 9223372036854775807 := by obtain ⟨_, _, _, ⟨m, _⟩, _⟩ := h0; exact m
  obtain ⟨ad1, cp1, rfl⟩ := h1.form
  have hm1 : cs1.length ≤ 9223372036854775807 := by obtain ⟨_, _, _, ⟨m, _⟩, _⟩ := h1; exact m
  have HB0 : Hid (Below w.heap.size w w) := Lib.hid (Below.refl _ _)
  have HRf00 := Lib.hid (h0)
  have HRf10 := Lib.hid (h1)
  have HSZ0 := Lib.hid hs0
  clear hS hI h0 h1 hs0
  have hr0 : (r0 != r0) = false := by simp
  go_enter Try.func4, Try.ntmps4
  go_wp2_with fail
  have hb : Below w.heap.size w (w.alloc (.cells #[.slice ad1 cs1.length cp1] 31)) := (Below.refl _ _).alloc (Nat.le_refl _) _
  have hk : (w.alloc (.cells #[.slice ad1 cs1.length cp1] 31)).heap[w.heap.size]? = some (.cells #[.slice ad1 cs1.length cp1] 31 (0, 0)) := alloc_at rfl
  have hz : (w.alloc (.cells #[.slice ad1 cs1.length cp1] 31)).heap.size = w.heap.size + 1 := by simp
  generalize w.alloc (.cells #[.slice ad1 cs1.length cp1] 31) = w1 at hb hk hz ⊢
  have HB1 : Hid (Below w.heap.size w w1) := Lib.hid (HB0.out.trans (hb.mono HB0.out.size))
  have HZ1 : Hid (w.heap.size ≤ w1.heap.size) := Lib.hid hb.size
  have HRf01 := Lib.hid (HRf00.out.below HB1.out (Nat.le_refl _))
  have HRf11 := Lib.hid (HRf10.out.below HB1.out (Nat.le_refl _))
  have HKa11 := Lib.hid hk
  replace HZ1 : Hid (w.heap.size < w1.heap.size) := Lib.hid (by omega)
  have HE1 := Lib.hid hz
  clear hb hk hz
  refine (szUnitS_any _ us0 1048576 _ HRf01.out HSZ0.out (by omega) (by omega)).mono ?_
  rintro e w2 ⟨⟨l0, rfl, hl0, hk0⟩, hb⟩
  have HB2 : Hid (Below w.heap.size w w2) := Lib.hid (HB1.out.trans (hb.mono HB1.out.size))
  have HZ2 : Hid (w1.heap.size ≤ w2.heap.size) := Lib.hid hb.size
  have HRf02 := Lib.hid (HRf00.out.below HB2.out (Nat.le_refl _))
  have HRf12 := Lib.hid (HRf10.out.below HB2.out (Nat.le_refl _))
  have HKa12 := Lib.hid ((hb.block _ (lt_of_block HKa11.out)).trans HKa11.out)
  clear hb
  by_cases hr : l0 < 0
  · clear hk0
    have lta1 := lt_of_block HKa12.out
    obtain ⟨ca10, fa10⟩ := cell1 HKa12.out
    go_wp2_with fail
    go_ret
    exact ⟨rfl, HB2.out⟩
  have hn0 : us0.length ≤ 1048576 := by have := hk0 (by omega); omega
  clear hk0
  have lta1 := lt_of_block HKa12.out
  obtain ⟨ca10, fa10⟩ := cell1 HKa12.out
  go_wp2_with fail
  refine (szAmount_any _ cs1 l0 _ HRf12.out (by omega) (by omega)).mono ?_
  rintro e w3 ⟨⟨l1, rfl, hl1, hk1⟩, hb⟩
  have HB3 : Hid (Below w.heap.size w w3) := Lib.hid (HB2.out.trans (hb.mono HB2.out.size))
  have HZ3 : Hid (w2.heap.size ≤ w3.heap.size) := Lib.hid hb.size
  have HRf03 := Lib.hid (HRf00.out.below HB3.out (Nat.le_refl _))
  have HRf13 := Lib.hid (HRf10.out.below HB3.out (Nat.le_refl _))
  have HKa13 := Lib.hid ((hb.block _ (lt_of_block HKa12.out)).trans HKa12.out)
  clear hb
  by_cases hr : l1 < 0
  · clear hk1
    clear ca10 fa10 lta1
    have lta1 := lt_of_block HKa13.out
    obtain ⟨ca10, fa10⟩ := cell1 HKa13.out
    go_wp2_with fail
    go_ret
    exact ⟨rfl, HB3.out⟩
  have hn1 : cs1.length ≤ 1048576 := by have := hk1 (by omega); omega
  clear hk1
  clear ca10 fa10 lta1
  have lta1 := lt_of_block HKa13.out
  obtain ⟨ca10, fa10⟩ := cell1 HKa13.out
  go_wp2_with fail
  clear ca10 fa10 lta1
  have lta1 := lt_of_block HKa13.out
  obtain ⟨ca10, fa10⟩ := cell1 HKa13.out
  refine wp_region_held_drew (S := (fun w' => w'.cell? ⟨w.heap.size, 0, none⟩ = some (.slice ad1 cs1.length cp1))) (by kernel_rfl) (ca10) (fun hHeld => ?_)
  have hb : Below w3.heap.size w3 w3.drew := (Below.refl _ _).drew
  generalize w3.drew = w4 at hb hHeld ⊢
  have HB4 : Hid (Below w.heap.size w w4) := Lib.hid (HB3.out.trans (hb.mono HB3.out.size))
  have HZ4 : Hid (w3.heap.size ≤ w4.heap.size) := Lib.hid hb.size
  have HRf04 := Lib.hid (HRf00.out.below HB4.out (Nat.le_refl _))
  have HRf14 := Lib.hid (HRf10.out.below HB4.out (Nat.le_refl _))
  have HKa14 := Lib.hid ((hb.block _ (lt_of_block HKa13.out)).trans HKa13.out)
  clear hb
  clear ca10 fa10 lta1
  have lta1 := lt_of_block HKa14.out
  obtain ⟨ca10, fa10⟩ := cell1 HKa14.out
  refine take1 (i := 0) (v := ?v1) (some 20) rfl rfl (by kernel_rfl) (by kernel_rfl) (by kernel_rfl) (fun _ _ _ h => h) (Or.inl ⟨by rfl, ?y1⟩) (by assumption) ?r1
  case y1 => (intro w hSw; (try dsimp only at hSw); go_simp; (first | done | with_reducible rfl))
  try simp only [Act.put, List.setIfInBounds_toArray, List.set_cons_zero, List.set_cons_succ]
  refine take1 (i := 2) (v := ?v2) (some 22) rfl rfl (by kernel_rfl) (by kernel_rfl) (by kernel_rfl) (fun _ _ _ h => h) (Or.inl ⟨by rfl, ?y2⟩) (by assumption) ?r2
  case y2 => (intro w hSw; (try dsimp only at hSw); go_simp; (first | done | with_reducible rfl))
  try simp only [Act.put, List.setIfInBounds_toArray, List.set_cons_zero, List.set_cons_succ]
  refine wpAnyH_ready (rs := [1]) (by kernel_rfl) (by simp) ?_
  refine AllReadyH.cons rfl (fun K hK => ?_) AllReadyH.nil
  go_simp
  go_at_call 15
  refine (toUnitS_any _ us0 _ HRf04.out hn0).mono ?_
  rintro e w5 ⟨⟨swc0, rfl, ho⟩, hb⟩
  have HB5 : Hid (Below w.heap.size w w5) := Lib.hid (HB4.out.trans (hb.mono HB4.out.size))
  have HZ5 : Hid (w4.heap.size ≤ w5.heap.size) := Lib.hid hb.size
  have HRf05 := Lib.hid (HRf00.out.below HB5.out (Nat.le_refl _))
  have HRf15 := Lib.hid (HRf10.out.below HB5.out (Nat.le_refl _))
  have HKa15 := Lib.hid ((hb.block _ (lt_of_block HKa14.out)).trans HKa14.out)
  clear hb
  obtain ⟨pwc0, kwc0, rfl⟩ := own_form ho
  have HRwc05 := Lib.hid (RowsR.of_own unC_len ho)
  have HBs5_5 : Hid (Below w5.heap.size w5 w5) := Lib.hid (Below.refl _ _)
  clear ho
  clear ca10 fa10 lta1
  have lta1 := lt_of_block HKa15.out
  obtain ⟨ca10, fa10⟩ := cell1 HKa15.out
  try go_simp
  refine hK.out _ _ (ca10) (fun hHeld => ?_)
  clear hK K
  try simp only [Act.put, List.setIfInBounds_toArray, List.set_cons_zero, List.set_cons_succ]
  refine wpAnyH_ready (rs := [3]) (by kernel_rfl) (by simp) ?_
  refine AllReadyH.cons rfl (fun K hK => ?_) AllReadyH.nil
  go_simp
  go_at_call 20
  refine (toAmount_any _ cs1 _ HRf15.out hn1).mono ?_
  rintro e w6 ⟨⟨swc1, rfl, ho⟩, hb⟩
  have HB6 : Hid (Below w.heap.size w w6) := Lib.hid (HB5.out.trans (hb.mono HB5.out.size))
  have HZ6 : Hid (w5.heap.size ≤ w6.heap.size) := Lib.hid hb.size
  have HRf06 := Lib.hid (HRf00.out.below HB6.out (Nat.le_refl _))
  have HRf16 := Lib.hid (HRf10.out.below HB6.out (Nat.le_refl _))
  have HKa16 := Lib.hid ((hb.block _ (lt_of_block HKa15.out)).trans HKa15.out)
  have HRwc06 := Lib.hid (HRwc05.out.below hb (Nat.le_refl _))
  have HBs5_6 : Hid (Below w5.heap.size w5 w6) := Lib.hid (HBs5_5.out.trans (hb.mono HBs5_5.out.size))
  clear hb
  obtain ⟨pwc1, kwc1, rfl⟩ := ho.form
  have HRwc16 := Lib.hid (ho.reads)
  have HBs6_6 : Hid (Below w6.heap.size w6 w6) := Lib.hid (Below.refl _ _)
  clear ho
  clear ca10 fa10 lta1
  have lta1 := lt_of_block HKa16.out
  obtain ⟨ca10, fa10⟩ := cell1 HKa16.out
  try go_simp
  refine hK.out _ _ (ca10) (fun hHeld => ?_)
  clear hK K
  try simp only [Act.put, List.setIfInBounds_toArray, List.set_cons_zero, List.set_cons_succ]
  refine wpAnyH_ready (rs := [4]) (by kernel_rfl) (by simp) ?_
  refine AllReadyH.cons rfl (fun K hK => ?_) AllReadyH.nil
  go_simp
  go_at_call 19
  refine (HS.out _ _ _ HRwc06.out HRwc16.out).mono ?_
  rintro e w7 ⟨rfl, hb⟩
  have HB7 : Hid (Below w.heap.size w w7) := Lib.hid (HB6.out.trans (hb.mono HB6.out.size))
  have HZ7 : Hid (w6.heap.size ≤ w7.heap.size) := Lib.hid hb.size
  have HRf07 := Lib.hid (HRf00.out.below HB7.out (Nat.le_refl _))
  have HRf17 := Lib.hid (HRf10.out.below HB7.out (Nat.le_refl _))
  have HKa17 := Lib.hid ((hb.block _ (lt_of_block HKa16.out)).trans HKa16.out)
  have HRwc07 := Lib.hid (HRwc06.out.below hb (Nat.le_refl _))
  have HRwc17 := Lib.hid (HRwc16.out.below hb (Nat.le_refl _))
  have HBs5_7 : Hid (Below w5.heap.size w5 w7) := Lib.hid (HBs5_6.out.trans (hb.mono HBs5_6.out.size))
  have HBs6_7 : Hid (Below w6.heap.size w6 w7) := Lib.hid (HBs6_6.out.trans (hb.mono HBs6_6.out.size))
  clear hb
  clear ca10 fa10 lta1
  have lta1 := lt_of_block HKa17.out
  obtain ⟨ca10, fa10⟩ := cell1 HKa17.out
  try go_simp
  refine hK.out _ _ (ca10) (fun hHeld => ?_)
  clear hK K
  try simp only [Act.put, List.setIfInBounds_toArray, List.set_cons_zero, List.set_cons_succ]
  refine take1 (i := 5) (v := ?v3) (some 6) rfl rfl (by kernel_rfl) (by kernel_rfl) (by kernel_rfl) (fun _ _ _ h => h) (Or.inl ⟨by rfl, ?y3⟩) (by assumption) ?r3
  case y3 => (intro w hSw; (try dsimp only at hSw); go_simp; (first | done | with_reducible rfl))
  try simp only [Act.put, List.setIfInBounds_toArray, List.set_cons_zero, List.set_cons_succ]
  refine wpAnyH_done (by kernel_rfl) ?_ _
  go_wp2_with fail
  clear ca10 fa10 lta1
  have lta1 := lt_of_block HKa17.out
  obtain ⟨ca10, fa10⟩ := cell1 HKa17.out
  refine (toUnitS_any _ us0 _ HRf07.out hn0).mono ?_
  rintro e w8 ⟨⟨sx0, rfl, ho⟩, hb⟩
  have HB8 : Hid (Below w.heap.size w w8) := Lib.hid (HB7.out.trans (hb.mono HB7.out.size))
  have HZ8 : Hid (w7.heap.size ≤ w8.heap.size) := Lib.hid hb.size
  have HRf08 := Lib.hid (HRf00.out.below HB8.out (Nat.le_refl _))
  have HRf18 := Lib.hid (HRf10.out.below HB8.out (Nat.le_refl _))
  have HKa18 := Lib.hid ((hb.block _ (lt_of_block HKa17.out)).trans HKa17.out)
  clear hb
  obtain ⟨px0, kx0, rfl⟩ := own_form ho
  have HOx08 := Lib.hid (Ow.mk' ho)
  clear ho
  clear ca10 fa10 lta1
  have lta1 := lt_of_block HKa18.out
  obtain ⟨ca10, fa10⟩ := cell1 HKa18.out
  go_wp2_with fail
  refine (toAmount_any _ cs1 _ HRf18.out hn1).mono ?_
  rintro e w9 ⟨⟨sx1, rfl, ho⟩, hb⟩
  have HB9 : Hid (Below w.heap.size w w9) := Lib.hid (HB8.out.trans (hb.mono HB8.out.size))
  have HZ9 : Hid (w8.heap.size ≤ w9.heap.size) := Lib.hid hb.size
  have HRf09 := Lib.hid (HRf00.out.below HB9.out (Nat.le_refl _))
  have HRf19 := Lib.hid (HRf10.out.below HB9.out (Nat.le_refl _))
  have HKa19 := Lib.hid ((hb.block _ (lt_of_block HKa18.out)).trans HKa18.out)
  have HOx09 := Lib.hid (HOx08.out.next hb)
  clear hb
  obtain ⟨px1, kx1, rfl⟩ := ho.form
  have HOx19 := Lib.hid (ho)
  clear ho
  clear ca10 fa10 lta1
  have lta1 := lt_of_block HKa19.out
  obtain ⟨ca10, fa10⟩ := cell1 HKa19.out
  go_wp2_with fail
  have hb : Below w9.heap.size w9 (w9.alloc (.cells #[.slice px1 cs1.length kx1] 34)) := (Below.refl _ _).alloc (Nat.le_refl _) _
  have hk : (w9.alloc (.cells #[.slice px1 cs1.length kx1] 34)).heap[w9.heap.size]? = some (.cells #[.slice px1 cs1.length kx1] 34 (0, 0)) := alloc_at rfl
  have hz : (w9.alloc (.cells #[.slice px1 cs1.length kx1] 34)).heap.size = w9.heap.size + 1 := by simp
  generalize w9.alloc (.cells #[.slice px1 cs1.length kx1] 34) = w10 at hb hk hz ⊢
  have HB10 : Hid (Below w.heap.size w w10) := Lib.hid (HB9.out.trans (hb.mono HB9.out.size))
  have HZ10 : Hid (w9.heap.size ≤ w10.heap.size) := Lib.hid hb.size
  have HRf010 := Lib.hid (HRf00.out.below HB10.out (Nat.le_refl _))
  have HRf110 := Lib.hid (HRf10.out.below HB10.out (Nat.le_refl _))
  have HKa110 := Lib.hid ((hb.block _ (lt_of_block HKa19.out)).trans HKa19.out)
  have HOx010 := Lib.hid (HOx09.out.next hb)
  have HOx110 := Lib.hid (HOx19.out.next hb)
  have HKx110 := Lib.hid hk
  replace HZ10 : Hid (w9.heap.size < w10.heap.size) := Lib.hid (by omega)
  have HE10 := Lib.hid hz
  clear hb hk hz
  clear ca10 fa10 lta1
  have lta1 := lt_of_block HKa110.out
  obtain ⟨ca10, fa10⟩ := cell1 HKa110.out
  have ltx1 := lt_of_block HKx110.out
  obtain ⟨cx10, fx10⟩ := cell1 HKx110.out
  refine (HI.out _ _ _ (RowsR.of_own unC_len HOx010.out.1) HOx110.out.reads).mono ?_
  rintro e w11 ⟨rfl, hb⟩
  have HB11 : Hid (Below w.heap.size w w11) := Lib.hid (HB10.out.trans (hb.mono HB10.out.size))
  have HZ11 : Hid (w10.heap.size ≤ w11.heap.size) := Lib.hid hb.size
  have HRf011 := Lib.hid (HRf00.out.below HB11.out (Nat.le_refl _))
  have HRf111 := Lib.hid (HRf10.out.below HB11.out (Nat.le_refl _))
  have HKa111 := Lib.hid ((hb.block _ (lt_of_block HKa110.out)).trans HKa110.out)
  have HOx011 := Lib.hid (HOx010.out.next hb)
  have HOx111 := Lib.hid (HOx110.out.next hb)
  have HKx111 := Lib.hid ((hb.block _ (lt_of_block HKx110.out)).trans HKx110.out)
  clear hb
  clear ca10 fa10 lta1 cx10 fx10 ltx1
  have lta1 := lt_of_block HKa111.out
  obtain ⟨ca10, fa10⟩ := cell1 HKa111.out
  have ltx1 := lt_of_block HKx111.out
  obtain ⟨cx10, fx10⟩ := cell1 HKx111.out
  go_wp2_with fail
  refine (toUnitS_any _ us0 _ HRf011.out hn0).mono ?_
  rintro e w12 ⟨⟨sy0, rfl, ho⟩, hb⟩
  have HB12 : Hid (Below w.heap.size w w12) := Lib.hid (HB11.out.trans (hb.mono HB11.out.size))
  have HZ12 : Hid (w11.heap.size ≤ w12.heap.size) := Lib.hid hb.size
  have HRf012 := Lib.hid (HRf00.out.below HB12.out (Nat.le_refl _))
  have HRf112 := Lib.hid (HRf10.out.below HB12.out (Nat.le_refl _))
  have HKa112 := Lib.hid ((hb.block _ (lt_of_block HKa111.out)).trans HKa111.out)
  have HOx012 := Lib.hid (HOx011.out.next hb)
  have HOx112 := Lib.hid (HOx111.out.next hb)
  have HKx112 := Lib.hid ((hb.block _ (lt_of_block HKx111.out)).trans HKx111.out)
  clear hb
  obtain ⟨py0, ky0, rfl⟩ := own_form ho
  have HRy012 := Lib.hid (RowsR.of_own unC_len ho)
  have HBs12_12 : Hid (Below w12.heap.size w12 w12) := Lib.hid (Below.refl _ _)
  clear ho
  clear ca10 fa10 lta1 cx10 fx10 ltx1
  have lta1 := lt_of_block HKa112.out
  obtain ⟨ca10, fa10⟩ := cell1 HKa112.out
  have ltx1 := lt_of_block HKx112.out
  obtain ⟨cx10, fx10⟩ := cell1 HKx112.out
  go_wp2_with fail
  refine (eqUnitS_yes _ _ us0 _ (RowsR.of_own unC_len HOx012.out.1) HRy012.out).mono ?_
  rintro e w13 ⟨rfl, hb⟩
  have HB13 : Hid (Below w.heap.size w w13) := Lib.hid (HB12.out.trans (hb.mono HB12.out.size))
  have HZ13 : Hid (w12.heap.size ≤ w13.heap.size) := Lib.hid hb.size
  have HRf013 := Lib.hid (HRf00.out.below HB13.out (Nat.le_refl _))
  have HRf113 := Lib.hid (HRf10.out.below HB13.out (Nat.le_refl _))
  have HKa113 := Lib.hid ((hb.block _ (lt_of_block HKa112.out)).trans HKa112.out)
  have HOx013 := Lib.hid (HOx012.out.next hb)
  have HOx113 := Lib.hid (HOx112.out.next hb)
  have HKx113 := Lib.hid ((hb.block _ (lt_of_block HKx112.out)).trans HKx112.out)
  have HRy013 := Lib.hid (HRy012.out.below hb (Nat.le_refl _))
  have HBs12_13 : Hid (Below w12.heap.size w12 w13) := Lib.hid (HBs12_12.out.trans (hb.mono HBs12_12.out.size))
  clear hb
  clear ca10 fa10 lta1 cx10 fx10 ltx1
  have lta1 := lt_of_block HKa113.out
  obtain ⟨ca10, fa10⟩ := cell1 HKa113.out
  have ltx1 := lt_of_block HKx113.out
  obtain ⟨cx10, fx10⟩ := cell1 HKx113.out
  go_wp2_with fail
  clear ca10 fa10 lta1 cx10 fx10 ltx1
  have lta1 := lt_of_block HKa113.out
  obtain ⟨ca10, fa10⟩ := cell1 HKa113.out
  have ltx1 := lt_of_block HKx113.out
  obtain ⟨cx10, fx10⟩ := cell1 HKx113.out
  go_region_held3 (fun w' => w'.cell? ⟨w9.heap.size, 0, none⟩ = some (.slice px1 cs1.length kx1) ∧ w'.cell? ⟨w.heap.size, 0, none⟩ = some (.slice ad1 cs1.length cp1))
    (first
      | go_keep
      | exact ⟨(hq1.cell (p := ⟨w9.heap.size, 0, none⟩) ltx1).trans cx10, (hq1.cell (p := ⟨w.heap.size, 0, none⟩) lta1).trans ca10⟩)
    (first
      | (go_at_call 20; refine (toAmount_any _ cs1 _ (HRf10.out.below HB13.out.drew (Nat.le_refl _)) hn1).mono ?_; rintro e w14 ⟨⟨s7, rfl, hown7⟩, hq1⟩; obtain ⟨p7, k7, rfl⟩ := hown7.form)
      | (go_at_call 22; refine (eqAmount_yes _ _ cs1 _ (HOx113.out.reads.below ((Below.refl _ w13).drew.trans hq1) (Nat.le_refl _)) hown7.reads).mono ?_; rintro e w14 ⟨rfl, hq2⟩; replace hq1 := hq1.trans (hq2.mono hq1.size); clear hq2))
  have hb := (Below.refl _ w13).drew.trans hq1
  clear hq1 hown7
  have HB14 : Hid (Below w.heap.size w w14) := Lib.hid (HB13.out.trans (hb.mono HB13.out.size))
  have HZ14 : Hid (w13.heap.size ≤ w14.heap.size) := Lib.hid hb.size
  have HRf014 := Lib.hid (HRf00.out.below HB14.out (Nat.le_refl _))
  have HRf114 := Lib.hid (HRf10.out.below HB14.out (Nat.le_refl _))
  have HKa114 := Lib.hid ((hb.block _ (lt_of_block HKa113.out)).trans HKa113.out)
  have HOx014 := Lib.hid (HOx013.out.next hb)
  have HOx114 := Lib.hid (HOx113.out.next hb)
  have HKx114 := Lib.hid ((hb.block _ (lt_of_block HKx113.out)).trans HKx113.out)
  clear hb
  clear ca10 fa10 lta1 cx10 fx10 ltx1
  have lta1 := lt_of_block HKa114.out
  obtain ⟨ca10, fa10⟩ := cell1 HKa114.out
  have ltx1 := lt_of_block HKx114.out
  obtain ⟨cx10, fx10⟩ := cell1 HKx114.out
  go_wp2_with fail
  go_ret
  exact ⟨rfl, HB14.out⟩
end Go.Proofs.Ytlmnbecfaaeohaa
