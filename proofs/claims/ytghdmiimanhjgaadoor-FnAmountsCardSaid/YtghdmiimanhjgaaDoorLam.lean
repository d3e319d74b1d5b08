/- The law FnAmounts. -/
import Derived.Test.YtghdmiimanhjgaaDoorVms
import Derived.Test.YtghdmiimanhjgaaDoorDma
import Derived.Test.YtghdmiimanhjgaaDoorDcv
import Derived.Test.YtghdmiimanhjgaaDoorMsv
import Derived.Test.YtghdmiimanhjgaaDoorMm4
import Derived.Test.YtghdmiimanhjgaaDoorIm3
import Derived.Test.YtghdmiimanhjgaaDoorIm2
import Derived.Test.YtghdmiimanhjgaaDoorMm3
import Derived.Test.YtghdmiimanhjgaaDoorAti
import Derived.Deep.Cut
namespace Go.Proofs.YtghdmiimanhjgaaDoor
set_option linter.unusedVariables false
open Go.RowKit
set_option linter.unusedSimpArgs false

theorem nm_small {us : List Un} (h : ∀ u ∈ us, u.nm.size ≤ 11) : ∀ u ∈ us, u.nm.size ≤ maxLen := fun u hu => by have := h u hu; unfold maxLen; omega
theorem am_times (us : List Un) (xs : List Int) (n : Int) : ∃ (qs : List Int) (r : Bool) (x0 : Int) (b0 : Bool) (x1 : Int) (b1 : Bool), TestF (okAm us xs ∧ (0 ≤ n ∧ n ≤ 1000)) us (n * valA us xs) qs r ∧ ValF us xs x0 b0 ∧ ValF us qs x1 b1 ∧ (r = true → b0 = true ∧ b1 = true ∧ IntKind.i64.wrap (n * x0) = x1) := by
  obtain ⟨qs, r, hk⟩ := testF_or (okAm us xs ∧ (0 ≤ n ∧ n ≤ 1000)) us (n * valA us xs)
  obtain ⟨x0, b0, h0⟩ := valF_or us xs
  obtain ⟨x1, b1, h1⟩ := valF_or us qs
  refine ⟨qs, r, x0, b0, x1, b1, hk, h0, h1, fun hr => ?_⟩
  subst hr
  have hk2 : (okAm us xs ∧ (0 ≤ n ∧ n ≤ 1000)) ∧ okP us (n * valA us xs) ∧ qs = propL us (n * valA us xs) := by
    rcases hk with ⟨g1, ⟨g2, g3, -⟩ | ⟨-, -, h⟩⟩ | ⟨-, -, h⟩
    · exact ⟨g1, g2, g3⟩
    · cases h
    · cases h
  obtain ⟨⟨g1, n0, n1⟩, g2, rfl⟩ := hk2
  have hX := valA_lt g1
  have a1 := prop_ok g1.1 g2
  rcases h0 with ⟨-, e0, f0⟩ | ⟨hn, -, -⟩
  · rcases h1 with ⟨-, e1, f1⟩ | ⟨hn, -, -⟩
    · rw [valA_prop g1.1] at e1
      subst e0 e1
      have k1 : n * valA us xs ≤ 1000 * valA us xs := Int.mul_le_mul_of_nonneg_right n1 hX.1
      have k0 : 0 ≤ n * valA us xs := g2.1
      refine ⟨f0, f1, ?_⟩
      generalize n * valA us xs = P at k0 k1 ⊢
      rw [IntKind.wrap_i64]; omega
    · exact absurd a1 hn
  · exact absurd g1 hn
theorem am_units (us : List Un) (nm : ByteArray) : ∃ (x : Int) (r : Bool), UnF us nm x r ∧ (r = true → 1 ≤ x) := by
  obtain ⟨x, r, h⟩ := unF_or us nm
  refine ⟨x, r, h, fun hr => ?_⟩
  subst hr
  rcases h with ⟨ho, k, -, rfl, -⟩ | ⟨-, -, -, h⟩ | ⟨-, -, h⟩
  · exact (unP_bound ho (k + 1)).1
  · cases h
  · cases h
/-- The units counted before place j. -/
def lstU (us : List Un) (j : Nat) : Int := if j = 0 then 0 else unP us j
theorem am_step {us : List Un} (ho : okS us) (j : Nat) (hj : j < us.length) : UnF us us[j].nm (lstU us (j + 1)) true ∧ lstU us j < lstU us (j + 1) := by
  have e : lstU us (j + 1) = unP us (j + 1) := by unfold lstU; rw [if_neg (by omega)]
  refine ⟨.inl ⟨ho, j, ⟨hj, rfl, fun i _ hij => (ho.2 j hj).2.2 i hij⟩, e, rfl⟩, ?_⟩
  rw [e]
  by_cases h0 : j = 0
  · subst h0
    have := (unP_bound ho (0 + 1)).1
    unfold lstU; rw [if_pos rfl]; omega
  · have e2 : lstU us j = unP us j := by unfold lstU; rw [if_neg h0]
    have hs := ((ho.2 j hj).2.1.2 (by omega)).1
    rw [← szU_at us j hj] at hs
    have h1 := (unP_bound ho j).1
    have h2 : unP us j * 2 ≤ unP us j * szU us j := Int.mul_le_mul_of_nonneg_left hs (by omega)
    rw [e2, show unP us (j + 1) = unP us j * szU us j from rfl]
    omega
theorem am_text (us : List Un) (cs : List Int) : ∃ (s : ByteArray) (t : Bool), AtF us cs s t ∧ (t = true ↔ okAm us cs) := by
  obtain ⟨s, t, h⟩ := atF_or us cs
  refine ⟨s, t, h, ?_⟩
  rcases h with ⟨h, -, rfl⟩ | ⟨h, -, rfl⟩
  · exact ⟨fun _ => h, fun _ => rfl⟩
  · exact ⟨fun e => (by cases e), fun e => absurd e h⟩

set_option maxRecDepth 100000 in
set_option maxHeartbeats 25600000 in
theorem lawAmounts (w : World) (ad : Option Addr) (cp : Nat) (L : List UInt8) (h : SlR w (.slice ad L.length cp) (L.map fun c => .int .u8 (c.toNat : Int))) (ht : Lib.TabIs Tryd.prog w "internal/strconv.uint64pow10" .u64 Lib.pow10Tab) :
    Calls Tryd.prog 3 #[.slice ad L.length cp] w fun e w' => e = .returned (.bool true) ∧ Below w.heap.size w w' := by
  have hm : L.length ≤ 9223372036854775807 := by
    obtain ⟨a, c, e, ⟨m, _⟩, _⟩ := h
    rw [List.length_map] at m
    exact m
  have HT := Lib.hid ht
  clear ht
  have HB0 : Hid (Below w.heap.size w w) := Lib.hid (Below.refl _ _)
  have HRk0 := Lib.hid (h)
  clear h
  by_cases hbig : (65536 : Int) < (L.length : Int)
  · go_enter Tryd.func3, Tryd.ntmps3
    go_wp2_with fail
    refine (rBig_any ad L.length cp _ true (decide_eq_true hbig)).mono ?_
    rintro e w' ⟨rfl, hw⟩
    subst w'
    go_wp2_with fail
    go_ret
    exact ⟨rfl, Below.refl _ _⟩
  · go_enter Tryd.func3, Tryd.ntmps3
    go_wp2_with fail
    refine (rBig_any ad L.length cp _ false (decide_eq_false (by omega))).mono ?_
    rintro e w' ⟨rfl, hw⟩
    subst w'
    go_wp2_with fail
    refine (drawTimesOf_any _ L _ HRk0.out).mono ?_
    rintro e w1 ⟨⟨v, x, us1, xs1, n1, rfl, hv, hx, ⟨hl, hnm⟩, hxl, hz0, hz1⟩, hb⟩
    have HB1 : Hid (Below w.heap.size w w1) := Lib.hid (HB0.out.trans (hb.mono HB0.out.size))
    have HZ1 : Hid (w.heap.size ≤ w1.heap.size) := Lib.hid hb.size
    have HRk1 := Lib.hid (HRk0.out.below HB1.out (Nat.le_refl _))
    clear hb
    obtain ⟨qs1, ks1, rfl⟩ := own_form hv
    have HRs1 := Lib.hid ((RowsR.of_own unC_len hv))
    have HBs1_1 : Hid (Below w1.heap.size w1 w1) := Lib.hid (Below.refl _ _)
    clear hv
    have HSZ1 := Lib.hid (nm_small hnm)
    clear hl hnm
    obtain ⟨q10, k10, rfl⟩ := own_form hx
    have HRx1 := Lib.hid ((RowsR.of_own inC_len hx))
    clear hx
    clear hxl
    obtain ⟨q1, r1, x0, b0, x1, b1, hk, hv0, hv1, hT⟩ := am_times us1 xs1 n1
    have HK1 := Lib.hid hk
    have HV0 := Lib.hid hv0
    have HV1 := Lib.hid hv1
    have HT1 := Lib.hid hT
    clear hk hv0 hv1 hT
    have e1 : (r1 != r1) = false := by simp
    go_wp2_with fail
    have hb : Below w1.heap.size w1 (w1.alloc (.cells #[.slice q10 xs1.length k10] 27)) := (Below.refl _ _).alloc (Nat.le_refl _) _
    have hk : (w1.alloc (.cells #[.slice q10 xs1.length k10] 27)).heap[w1.heap.size]? = some (.cells #[.slice q10 xs1.length k10] 27 (0, 0)) := alloc_at rfl
    have hz : (w1.alloc (.cells #[.slice q10 xs1.length k10] 27)).heap.size = w1.heap.size + 1 := by simp
    generalize w1.alloc (.cells #[.slice q10 xs1.length k10] 27) = w2 at hb hk hz ⊢
    have HB2 : Hid (Below w.heap.size w w2) := Lib.hid (HB1.out.trans (hb.mono HB1.out.size))
    have HZ2 : Hid (w1.heap.size ≤ w2.heap.size) := Lib.hid hb.size
    have HRk2 := Lib.hid (HRk0.out.below HB2.out (Nat.le_refl _))
    have HRs2 := Lib.hid (HRs1.out.below hb (Nat.le_refl _))
    have HRx2 := Lib.hid (HRx1.out.below hb (Nat.le_refl _))
    have HBs1_2 : Hid (Below w1.heap.size w1 w2) := Lib.hid (HBs1_1.out.trans (hb.mono HBs1_1.out.size))
    have HKb102 := Lib.hid hk
    replace HZ2 : Hid (w1.heap.size < w2.heap.size) := Lib.hid (by omega)
    have HE2 := Lib.hid hz
    clear hb hk hz
    refine (iTimesOf_any _ _ us1 xs1 n1 _ HRs2.out HSZ1.out HRx2.out q1 r1 HK1.out).mono ?_
    rintro e w3 ⟨⟨t, rfl, ho⟩, hb⟩
    have HB3 : Hid (Below w.heap.size w w3) := Lib.hid (HB2.out.trans (hb.mono HB2.out.size))
    have HZ3 : Hid (w2.heap.size ≤ w3.heap.size) := Lib.hid hb.size
    have HRk3 := Lib.hid (HRk0.out.below HB3.out (Nat.le_refl _))
    have HRs3 := Lib.hid (HRs2.out.below hb (Nat.le_refl _))
    have HRx3 := Lib.hid (HRx2.out.below hb (Nat.le_refl _))
    have HKb103 := Lib.hid ((hb.block _ (lt_of_block HKb102.out)).trans HKb102.out)
    have HBs1_3 : Hid (Below w1.heap.size w1 w3) := Lib.hid (HBs1_2.out.trans (hb.mono HBs1_2.out.size))
    clear hb
    obtain ⟨q11, k11, rfl⟩ : ∃ a c, t = .slice a q1.length c := ho.form
    have HRo3 := Lib.hid (ho.reads)
    have HBs3_3 : Hid (Below w3.heap.size w3 w3) := Lib.hid (Below.refl _ _)
    clear ho
    have ltb10 := lt_of_block HKb103.out
    obtain ⟨cb100, fb100⟩ := cell1 HKb103.out
    go_wp2_with fail
    have hb : Below w3.heap.size w3 (w3.alloc (.cells #[.slice q11 q1.length k11] 27)) := (Below.refl _ _).alloc (Nat.le_refl _) _
    have hk : (w3.alloc (.cells #[.slice q11 q1.length k11] 27)).heap[w3.heap.size]? = some (.cells #[.slice q11 q1.length k11] 27 (0, 0)) := alloc_at rfl
    have hz : (w3.alloc (.cells #[.slice q11 q1.length k11] 27)).heap.size = w3.heap.size + 1 := by simp
    generalize w3.alloc (.cells #[.slice q11 q1.length k11] 27) = w4 at hb hk hz ⊢
    have HB4 : Hid (Below w.heap.size w w4) := Lib.hid (HB3.out.trans (hb.mono HB3.out.size))
    have HZ4 : Hid (w3.heap.size ≤ w4.heap.size) := Lib.hid hb.size
    have HRk4 := Lib.hid (HRk0.out.below HB4.out (Nat.le_refl _))
    have HRs4 := Lib.hid (HRs3.out.below hb (Nat.le_refl _))
    have HRx4 := Lib.hid (HRx3.out.below hb (Nat.le_refl _))
    have HKb104 := Lib.hid ((hb.block _ (lt_of_block HKb103.out)).trans HKb103.out)
    have HRo4 := Lib.hid (HRo3.out.below hb (Nat.le_refl _))
    have HBs1_4 : Hid (Below w1.heap.size w1 w4) := Lib.hid (HBs1_3.out.trans (hb.mono HBs1_3.out.size))
    have HBs3_4 : Hid (Below w3.heap.size w3 w4) := Lib.hid (HBs3_3.out.trans (hb.mono HBs3_3.out.size))
    have HKb114 := Lib.hid hk
    replace HZ4 : Hid (w3.heap.size < w4.heap.size) := Lib.hid (by omega)
    have HE4 := Lib.hid hz
    clear hb hk hz
    refine (sTimesOf_any _ _ us1 xs1 n1 _ HRs4.out HSZ1.out HRx4.out q1 r1 HK1.out).mono ?_
    rintro e w5 ⟨⟨t, rfl, ho⟩, hb⟩
    have HB5 : Hid (Below w.heap.size w w5) := Lib.hid (HB4.out.trans (hb.mono HB4.out.size))
    have HZ5 : Hid (w4.heap.size ≤ w5.heap.size) := Lib.hid hb.size
    have HRk5 := Lib.hid (HRk0.out.below HB5.out (Nat.le_refl _))
    have HRs5 := Lib.hid (HRs4.out.below hb (Nat.le_refl _))
    have HRx5 := Lib.hid (HRx4.out.below hb (Nat.le_refl _))
    have HKb105 := Lib.hid ((hb.block _ (lt_of_block HKb104.out)).trans HKb104.out)
    have HRo5 := Lib.hid (HRo4.out.below hb (Nat.le_refl _))
    have HKb115 := Lib.hid ((hb.block _ (lt_of_block HKb114.out)).trans HKb114.out)
    have HBs1_5 : Hid (Below w1.heap.size w1 w5) := Lib.hid (HBs1_4.out.trans (hb.mono HBs1_4.out.size))
    have HBs3_5 : Hid (Below w3.heap.size w3 w5) := Lib.hid (HBs3_4.out.trans (hb.mono HBs3_4.out.size))
    clear hb
    obtain ⟨q12, k12, rfl⟩ : ∃ a c, t = .slice a q1.length c := ho.form
    have HRp5 := Lib.hid (ho.reads)
    have HBs5_5 : Hid (Below w5.heap.size w5 w5) := Lib.hid (Below.refl _ _)
    clear ho
    clear cb100 fb100 ltb10
    have ltb10 := lt_of_block HKb105.out
    obtain ⟨cb100, fb100⟩ := cell1 HKb105.out
    have ltb11 := lt_of_block HKb115.out
    obtain ⟨cb110, fb110⟩ := cell1 HKb115.out
    go_wp2_with fail
    have hb : Below w5.heap.size w5 (w5.alloc (.cells #[.slice q12 q1.length k12] 27)) := (Below.refl _ _).alloc (Nat.le_refl _) _
    have hk : (w5.alloc (.cells #[.slice q12 q1.length k12] 27)).heap[w5.heap.size]? = some (.cells #[.slice q12 q1.length k12] 27 (0, 0)) := alloc_at rfl
    have hz : (w5.alloc (.cells #[.slice q12 q1.length k12] 27)).heap.size = w5.heap.size + 1 := by simp
    generalize w5.alloc (.cells #[.slice q12 q1.length k12] 27) = w6 at hb hk hz ⊢
    have HB6 : Hid (Below w.heap.size w w6) := Lib.hid (HB5.out.trans (hb.mono HB5.out.size))
    have HZ6 : Hid (w5.heap.size ≤ w6.heap.size) := Lib.hid hb.size
    have HRk6 := Lib.hid (HRk0.out.below HB6.out (Nat.le_refl _))
    have HRs6 := Lib.hid (HRs5.out.below hb (Nat.le_refl _))
    have HRx6 := Lib.hid (HRx5.out.below hb (Nat.le_refl _))
    have HKb106 := Lib.hid ((hb.block _ (lt_of_block HKb105.out)).trans HKb105.out)
    have HRo6 := Lib.hid (HRo5.out.below hb (Nat.le_refl _))
    have HKb116 := Lib.hid ((hb.block _ (lt_of_block HKb115.out)).trans HKb115.out)
    have HRp6 := Lib.hid (HRp5.out.below hb (Nat.le_refl _))
    have HBs1_6 : Hid (Below w1.heap.size w1 w6) := Lib.hid (HBs1_5.out.trans (hb.mono HBs1_5.out.size))
    have HBs3_6 : Hid (Below w3.heap.size w3 w6) := Lib.hid (HBs3_5.out.trans (hb.mono HBs3_5.out.size))
    have HBs5_6 : Hid (Below w5.heap.size w5 w6) := Lib.hid (HBs5_5.out.trans (hb.mono HBs5_5.out.size))
    have HKb126 := Lib.hid hk
    replace HZ6 : Hid (w5.heap.size < w6.heap.size) := Lib.hid (by omega)
    have HE6 := Lib.hid hz
    clear hb hk hz
    refine (rAmount_yes _ _ q1 _ HRo6.out HRp6.out).mono ?_
    rintro e w7 ⟨rfl, hb⟩
    have HB7 : Hid (Below w.heap.size w w7) := Lib.hid (HB6.out.trans (hb.mono HB6.out.size))
    have HZ7 : Hid (w6.heap.size ≤ w7.heap.size) := Lib.hid hb.size
    have HRk7 := Lib.hid (HRk0.out.below HB7.out (Nat.le_refl _))
    have HRs7 := Lib.hid (HRs6.out.below hb (Nat.le_refl _))
    have HRx7 := Lib.hid (HRx6.out.below hb (Nat.le_refl _))
    have HKb107 := Lib.hid ((hb.block _ (lt_of_block HKb106.out)).trans HKb106.out)
    have HRo7 := Lib.hid (HRo6.out.below hb (Nat.le_refl _))
    have HKb117 := Lib.hid ((hb.block _ (lt_of_block HKb116.out)).trans HKb116.out)
    have HRp7 := Lib.hid (HRp6.out.below hb (Nat.le_refl _))
    have HKb127 := Lib.hid ((hb.block _ (lt_of_block HKb126.out)).trans HKb126.out)
    have HBs1_7 : Hid (Below w1.heap.size w1 w7) := Lib.hid (HBs1_6.out.trans (hb.mono HBs1_6.out.size))
    have HBs3_7 : Hid (Below w3.heap.size w3 w7) := Lib.hid (HBs3_6.out.trans (hb.mono HBs3_6.out.size))
    have HBs5_7 : Hid (Below w5.heap.size w5 w7) := Lib.hid (HBs5_6.out.trans (hb.mono HBs5_6.out.size))
    clear hb
    clear cb100 fb100 ltb10 cb110 fb110 ltb11
    have ltb10 := lt_of_block HKb107.out
    obtain ⟨cb100, fb100⟩ := cell1 HKb107.out
    have ltb11 := lt_of_block HKb117.out
    obtain ⟨cb110, fb110⟩ := cell1 HKb117.out
    go_upto_if 76 with (fail)
    go_cut [] from 3 (fun wc => Below w.heap.size w wc)
    case first =>
      cases r1 with
      | true =>
        obtain ⟨rfl, rfl, hw⟩ := HT1.out rfl
        have g1 : (x1 != x1) = false := by simp
        clear cb100 fb100 ltb10 cb110 fb110 ltb11
        have ltb10 := lt_of_block HKb107.out
        obtain ⟨cb100, fb100⟩ := cell1 HKb107.out
        have ltb11 := lt_of_block HKb117.out
        obtain ⟨cb110, fb110⟩ := cell1 HKb117.out
        go_wp2_with fail
        refine (iVal_any _ _ us1 xs1 _ HRs7.out HSZ1.out HRx7.out x0 true HV0.out).mono ?_
        rintro e w8 ⟨rfl, hb⟩
        have HB8 : Hid (Below w.heap.size w w8) := Lib.hid (HB7.out.trans (hb.mono HB7.out.size))
        have HZ8 : Hid (w7.heap.size ≤ w8.heap.size) := Lib.hid hb.size
        have HRk8 := Lib.hid (HRk0.out.below HB8.out (Nat.le_refl _))
        have HRs8 := Lib.hid (HRs7.out.below hb (Nat.le_refl _))
        have HRx8 := Lib.hid (HRx7.out.below hb (Nat.le_refl _))
        have HKb108 := Lib.hid ((hb.block _ (lt_of_block HKb107.out)).trans HKb107.out)
        have HRo8 := Lib.hid (HRo7.out.below hb (Nat.le_refl _))
        have HKb118 := Lib.hid ((hb.block _ (lt_of_block HKb117.out)).trans HKb117.out)
        have HBs1_8 : Hid (Below w1.heap.size w1 w8) := Lib.hid (HBs1_7.out.trans (hb.mono HBs1_7.out.size))
        have HBs3_8 : Hid (Below w3.heap.size w3 w8) := Lib.hid (HBs3_7.out.trans (hb.mono HBs3_7.out.size))
        clear hb
        clear cb100 fb100 ltb10 cb110 fb110 ltb11
        have ltb10 := lt_of_block HKb108.out
        obtain ⟨cb100, fb100⟩ := cell1 HKb108.out
        have ltb11 := lt_of_block HKb118.out
        obtain ⟨cb110, fb110⟩ := cell1 HKb118.out
        go_wp2_with fail
        refine (iVal_any _ _ us1 q1 _ HRs8.out HSZ1.out HRo8.out x1 true HV1.out).mono ?_
        rintro e w9 ⟨rfl, hb⟩
        have HB9 : Hid (Below w.heap.size w w9) := Lib.hid (HB8.out.trans (hb.mono HB8.out.size))
        have HZ9 : Hid (w8.heap.size ≤ w9.heap.size) := Lib.hid hb.size
        have HRk9 := Lib.hid (HRk0.out.below HB9.out (Nat.le_refl _))
        have HRs9 := Lib.hid (HRs8.out.below hb (Nat.le_refl _))
        have HRx9 := Lib.hid (HRx8.out.below hb (Nat.le_refl _))
        have HKb109 := Lib.hid ((hb.block _ (lt_of_block HKb108.out)).trans HKb108.out)
        have HRo9 := Lib.hid (HRo8.out.below hb (Nat.le_refl _))
        have HKb119 := Lib.hid ((hb.block _ (lt_of_block HKb118.out)).trans HKb118.out)
        have HBs1_9 : Hid (Below w1.heap.size w1 w9) := Lib.hid (HBs1_8.out.trans (hb.mono HBs1_8.out.size))
        have HBs3_9 : Hid (Below w3.heap.size w3 w9) := Lib.hid (HBs3_8.out.trans (hb.mono HBs3_8.out.size))
        clear hb
        clear cb100 fb100 ltb10 cb110 fb110 ltb11
        have ltb10 := lt_of_block HKb109.out
        obtain ⟨cb100, fb100⟩ := cell1 HKb109.out
        have ltb11 := lt_of_block HKb119.out
        obtain ⟨cb110, fb110⟩ := cell1 HKb119.out
        go_wp2_with fail
        go_meet
        case rel => exact HB9.out
      | false =>
        clear cb100 fb100 ltb10 cb110 fb110 ltb11
        have ltb10 := lt_of_block HKb107.out
        obtain ⟨cb100, fb100⟩ := cell1 HKb107.out
        have ltb11 := lt_of_block HKb117.out
        obtain ⟨cb110, fb110⟩ := cell1 HKb117.out
        go_wp2_with fail
        go_meet
        case rel => exact HB7.out
    case rest =>
      rename World => w50
      have hb := hcut
      clear hcut
      have HB50 : Hid (Below w.heap.size w w50) := Lib.hid hb
      have HRk50 := Lib.hid (HRk0.out.below HB50.out (Nat.le_refl _))
      clear hb
      go_wp2_with fail
      refine (drawUnitsIn_any _ L _ HRk50.out).mono ?_
      rintro e w51 ⟨⟨v, us2, nm2, rfl, hv, hl, hnm⟩, hb⟩
      have HB51 : Hid (Below w.heap.size w w51) := Lib.hid (HB50.out.trans (hb.mono HB50.out.size))
      have HZ51 : Hid (w50.heap.size ≤ w51.heap.size) := Lib.hid hb.size
      have HRk51 := Lib.hid (HRk0.out.below HB51.out (Nat.le_refl _))
      clear hb
      have HL7 := Lib.hid hl
      obtain ⟨qs2, ks2, rfl⟩ := own_form hv
      have HRs51 := Lib.hid ((RowsR.of_own unC_len hv))
      have HBs51_51 : Hid (Below w51.heap.size w51 w51) := Lib.hid (Below.refl _ _)
      clear hv
      have HSZ2 := Lib.hid (nm_small hnm)
      clear hl hnm
      obtain ⟨x2, r2, hk, hx2⟩ := am_units us2 nm2
      have HK2 := Lib.hid hk
      have HX2 := Lib.hid hx2
      clear hk hx2
      have e2 : (r2 != r2) = false := by simp
      have g2 : (x2 != x2) = false := by simp
      go_wp2_with fail
      refine (iUnits_any _ us2 nm2 _ HRs51.out HSZ2.out x2 r2 HK2.out).mono ?_
      rintro e w52 ⟨rfl, hb⟩
      have HB52 : Hid (Below w.heap.size w w52) := Lib.hid (HB51.out.trans (hb.mono HB51.out.size))
      have HZ52 : Hid (w51.heap.size ≤ w52.heap.size) := Lib.hid hb.size
      have HRk52 := Lib.hid (HRk0.out.below HB52.out (Nat.le_refl _))
      have HRs52 := Lib.hid (HRs51.out.below hb (Nat.le_refl _))
      have HBs51_52 : Hid (Below w51.heap.size w51 w52) := Lib.hid (HBs51_51.out.trans (hb.mono HBs51_51.out.size))
      clear hb
      go_wp2_with fail
      refine (sUnits_any _ us2 nm2 _ HRs52.out HSZ2.out x2 r2 HK2.out).mono ?_
      rintro e w53 ⟨rfl, hb⟩
      have HB53 : Hid (Below w.heap.size w w53) := Lib.hid (HB52.out.trans (hb.mono HB52.out.size))
      have HZ53 : Hid (w52.heap.size ≤ w53.heap.size) := Lib.hid hb.size
      have HRk53 := Lib.hid (HRk0.out.below HB53.out (Nat.le_refl _))
      have HRs53 := Lib.hid (HRs52.out.below hb (Nat.le_refl _))
      have HBs51_53 : Hid (Below w51.heap.size w51 w53) := Lib.hid (HBs51_52.out.trans (hb.mono HBs51_52.out.size))
      clear hb
      go_upto_region 16 with (fail)
      go_cut [14, 133] from 15 (fun sv bv wc => sv = .slice qs2 us2.length ks2 ∧ bv = .bool false ∧ RowsR 2 unC wc (.slice qs2 us2.length ks2) us2 ∧ Below w.heap.size w wc)
      case first =>
        cases r2 with
        | true =>
          have hx := HX2.out rfl
          have hx3 : decide (x2 < 1) = false := decide_eq_false (by omega)
          have hx4 : ¬ x2 < 1 := by omega
          go_wp2_with fail
          go_meet
          case rel => exact ⟨rfl, rfl, HRs53.out, HB53.out⟩
        | false =>
          go_wp2_with fail
          go_meet
          case rel => exact ⟨rfl, rfl, HRs53.out, HB53.out⟩
      case rest =>
        obtain ⟨rfl, rfl, hrs, hb⟩ := hcut
        rename World => w60
        have HB60 : Hid (Below w.heap.size w w60) := Lib.hid hb
        have HRk60 := Lib.hid (HRk0.out.below HB60.out (Nat.le_refl _))
        have HRs60 := Lib.hid (hrs)
        have HBs60_60 : Hid (Below w60.heap.size w60 w60) := Lib.hid (Below.refl _ _)
        clear hb hrs
        go_wp2_with fail
        have HBL := Lib.hid HB60.out
        have HRS := Lib.hid HRs60.out
        obtain ⟨sb, hsb⟩ := okS_dec us2
        have HSB2 := Lib.hid hsb
        clear hsb
        have A2 := Lib.hid (szS_at HRs60.out)
        try go_wp2_with fail
        go_loopw [20, 21] (fun lv iv wr => ∃ j : Nat, iv = .int .i64 j ∧ lv = .int .i64 (lstU us2 j) ∧ j ≤ us2.length ∧ Below w60.heap.size w60 wr) (fun _ iv _ => us2.length - (intOf iv).toNat)
        case atStart => exact ⟨0, rfl, rfl, Nat.zero_le _, Below.refl _ _⟩
        case round =>
          rename World => w70
          obtain ⟨j, rfl, rfl, hj, hb⟩ := hrel
          have HBJ := Lib.hid hb
          have hrs := HRS.out.below hb (Nat.le_refl _)
          have hbw := HBL.out.trans (hb.mono HBL.out.size)
          by_cases hlt : j < us2.length
          · have z1 : (0 : Int) ≤ (j : Int) := by omega
            have z2 : (j : Int) < (us2.length : Int) := by omega
            have z3 : j < 7 := by have := HL7.out; omega
            cases sb with
            | true =>
              have HOK : Hid (okS us2) := Lib.hid (HSB2.out.1 rfl)
              obtain ⟨hun, hl0⟩ := am_step HOK.out j hlt
              have HUN := Lib.hid hun
              have hl1 : ¬ lstU us2 (j + 1) ≤ lstU us2 j := by omega
              have hl2 : decide (lstU us2 (j + 1) ≤ lstU us2 j) = false := decide_eq_false hl1
              clear hun
              have HB70 : Hid (Below w.heap.size w w70) := Lib.hid hbw
              have HRk70 := Lib.hid (HRk0.out.below HB70.out (Nat.le_refl _))
              have HRs70 := Lib.hid (hrs)
              have HBs70_70 : Hid (Below w70.heap.size w70 w70) := Lib.hid (Below.refl _ _)
              clear hb hrs hbw
              go_wp2_with fail
              refine (iSys_any _ us2 _ HRs70.out HSZ2.out true ⟨fun _ => HOK.out, fun _ => rfl⟩).mono ?_
              rintro e w71 ⟨rfl, hb⟩
              have HB71 : Hid (Below w.heap.size w w71) := Lib.hid (HB70.out.trans (hb.mono HB70.out.size))
              have HZ71 : Hid (w70.heap.size ≤ w71.heap.size) := Lib.hid hb.size
              have HRk71 := Lib.hid (HRk0.out.below HB71.out (Nat.le_refl _))
              have HRs71 := Lib.hid (HRs70.out.below hb (Nat.le_refl _))
              have HBs70_71 : Hid (Below w70.heap.size w70 w71) := Lib.hid (HBs70_70.out.trans (hb.mono HBs70_70.out.size))
              clear hb
              have hb2 := HBJ.out.trans (HBs70_71.out.mono HBJ.out.size)
              obtain ⟨b1, o1, rfl, _, p0, p1⟩ := A2.out _ hb2 j hlt
              clear hb2
              generalize (us2[j]'hlt).nm = nm3 at p0 HUN
              go_wp2_with fail
              refine (iUnits_any _ us2 nm3 _ HRs71.out HSZ2.out _ true HUN.out).mono ?_
              rintro e w72 ⟨rfl, hb⟩
              have HB72 : Hid (Below w.heap.size w w72) := Lib.hid (HB71.out.trans (hb.mono HB71.out.size))
              have HZ72 : Hid (w71.heap.size ≤ w72.heap.size) := Lib.hid hb.size
              have HRk72 := Lib.hid (HRk0.out.below HB72.out (Nat.le_refl _))
              have HRs72 := Lib.hid (HRs71.out.below hb (Nat.le_refl _))
              have HBs70_72 : Hid (Below w70.heap.size w70 w72) := Lib.hid (HBs70_71.out.trans (hb.mono HBs70_71.out.size))
              clear hb
              go_wp2_with fail
              go_roundw
              case rel => exact ⟨j + 1, by go_num, by first | rfl | go_num, by omega, HBJ.out.trans (HBs70_72.out.mono HBJ.out.size)⟩
              case measure => simp [intOf]; omega
            | false =>
              have HB70 : Hid (Below w.heap.size w w70) := Lib.hid hbw
              have HRk70 := Lib.hid (HRk0.out.below HB70.out (Nat.le_refl _))
              have HRs70 := Lib.hid (hrs)
              have HBs70_70 : Hid (Below w70.heap.size w70 w70) := Lib.hid (Below.refl _ _)
              clear hb hrs hbw
              go_wp2_with fail
              refine (iSys_any _ us2 _ HRs70.out HSZ2.out false HSB2.out).mono ?_
              rintro e w71 ⟨rfl, hb⟩
              have HB71 : Hid (Below w.heap.size w w71) := Lib.hid (HB70.out.trans (hb.mono HB70.out.size))
              have HZ71 : Hid (w70.heap.size ≤ w71.heap.size) := Lib.hid hb.size
              have HRk71 := Lib.hid (HRk0.out.below HB71.out (Nat.le_refl _))
              have HRs71 := Lib.hid (HRs70.out.below hb (Nat.le_refl _))
              have HBs70_71 : Hid (Below w70.heap.size w70 w71) := Lib.hid (HBs70_70.out.trans (hb.mono HBs70_70.out.size))
              clear hb
              go_wp2_with fail
              refine (drawConvertTo_any _ L _ HRk71.out).mono ?_
              rintro e w72 ⟨⟨v, x, v2, us3, us6, xs3, n3, d3, rfl, ⟨hv, hx, hv2⟩, ⟨hl, hnm⟩, ⟨hl2, hnm2⟩, -, -⟩, hb⟩
              have HB72 : Hid (Below w.heap.size w w72) := Lib.hid (HB71.out.trans (hb.mono HB71.out.size))
              have HZ72 : Hid (w71.heap.size ≤ w72.heap.size) := Lib.hid hb.size
              have HRk72 := Lib.hid (HRk0.out.below HB72.out (Nat.le_refl _))
              have HBs70_72 : Hid (Below w70.heap.size w70 w72) := Lib.hid (HBs70_71.out.trans (hb.mono HBs70_71.out.size))
              clear hb
              obtain ⟨qs3, ks3, rfl⟩ := own_form hv
              have HRs72 := Lib.hid ((RowsR.of_own unC_len hv))
              have HBs72_72 : Hid (Below w72.heap.size w72 w72) := Lib.hid (Below.refl _ _)
              clear hv
              have HSZ3 := Lib.hid (nm_small hnm)
              clear hl hnm
              obtain ⟨q30, k30, rfl⟩ := own_form hx
              have HRx72 := Lib.hid ((RowsR.of_own inC_len hx))
              clear hx
              obtain ⟨qs6, ks6, rfl⟩ := own_form hv2
              have HRt72 := Lib.hid ((RowsR.of_own unC_len hv2))
              clear hv2
              have HSZ6 := Lib.hid (nm_small hnm2)
              clear hl2 hnm2
              obtain ⟨qs3, r3, hk⟩ := testF_or (okAm us3 xs3 ∧ okS us6 ∧ (1 ≤ n3 ∧ n3 ≤ 10000) ∧ (1 ≤ d3 ∧ d3 ≤ 10000)) us6 (valA us3 xs3 * n3 / d3)
              have HK3 := Lib.hid hk
              clear hk
              have e3 : (r3 != r3) = false := by simp
              go_wp2_with fail
              have hb : Below w72.heap.size w72 (w72.alloc (.cells #[.slice q30 xs3.length k30] 27)) := (Below.refl _ _).alloc (Nat.le_refl _) _
              have hk : (w72.alloc (.cells #[.slice q30 xs3.length k30] 27)).heap[w72.heap.size]? = some (.cells #[.slice q30 xs3.length k30] 27 (0, 0)) := alloc_at rfl
              have hz : (w72.alloc (.cells #[.slice q30 xs3.length k30] 27)).heap.size = w72.heap.size + 1 := by simp
              generalize w72.alloc (.cells #[.slice q30 xs3.length k30] 27) = w73 at hb hk hz ⊢
              have HB73 : Hid (Below w.heap.size w w73) := Lib.hid (HB72.out.trans (hb.mono HB72.out.size))
              have HZ73 : Hid (w72.heap.size ≤ w73.heap.size) := Lib.hid hb.size
              have HRk73 := Lib.hid (HRk0.out.below HB73.out (Nat.le_refl _))
              have HRs73 := Lib.hid (HRs72.out.below hb (Nat.le_refl _))
              have HRx73 := Lib.hid (HRx72.out.below hb (Nat.le_refl _))
              have HRt73 := Lib.hid (HRt72.out.below hb (Nat.le_refl _))
              have HBs70_73 : Hid (Below w70.heap.size w70 w73) := Lib.hid (HBs70_72.out.trans (hb.mono HBs70_72.out.size))
              have HBs72_73 : Hid (Below w72.heap.size w72 w73) := Lib.hid (HBs72_72.out.trans (hb.mono HBs72_72.out.size))
              have HKb3073 := Lib.hid hk
              replace HZ73 : Hid (w72.heap.size < w73.heap.size) := Lib.hid (by omega)
              have HE73 := Lib.hid hz
              clear hb hk hz
              refine (iConvertTo_any _ _ _ us3 us6 xs3 n3 d3 _ HRs73.out HSZ3.out HRt73.out HSZ6.out HRx73.out qs3 r3 HK3.out).mono ?_
              rintro e w74 ⟨⟨t, rfl, ho⟩, hb⟩
              have HB74 : Hid (Below w.heap.size w w74) := Lib.hid (HB73.out.trans (hb.mono HB73.out.size))
              have HZ74 : Hid (w73.heap.size ≤ w74.heap.size) := Lib.hid hb.size
              have HRk74 := Lib.hid (HRk0.out.below HB74.out (Nat.le_refl _))
              have HRs74 := Lib.hid (HRs73.out.below hb (Nat.le_refl _))
              have HRx74 := Lib.hid (HRx73.out.below hb (Nat.le_refl _))
              have HRt74 := Lib.hid (HRt73.out.below hb (Nat.le_refl _))
              have HKb3074 := Lib.hid ((hb.block _ (lt_of_block HKb3073.out)).trans HKb3073.out)
              have HBs70_74 : Hid (Below w70.heap.size w70 w74) := Lib.hid (HBs70_73.out.trans (hb.mono HBs70_73.out.size))
              have HBs72_74 : Hid (Below w72.heap.size w72 w74) := Lib.hid (HBs72_73.out.trans (hb.mono HBs72_73.out.size))
              clear hb
              obtain ⟨q31, k31, rfl⟩ : ∃ a c, t = .slice a qs3.length c := ho.form
              have HRo74 := Lib.hid (ho.reads)
              have HBs74_74 : Hid (Below w74.heap.size w74 w74) := Lib.hid (Below.refl _ _)
              clear ho
              have ltb30 := lt_of_block HKb3074.out
              obtain ⟨cb300, fb300⟩ := cell1 HKb3074.out
              go_wp2_with fail
              have hb : Below w74.heap.size w74 (w74.alloc (.cells #[.slice q31 qs3.length k31] 27)) := (Below.refl _ _).alloc (Nat.le_refl _) _
              have hk : (w74.alloc (.cells #[.slice q31 qs3.length k31] 27)).heap[w74.heap.size]? = some (.cells #[.slice q31 qs3.length k31] 27 (0, 0)) := alloc_at rfl
              have hz : (w74.alloc (.cells #[.slice q31 qs3.length k31] 27)).heap.size = w74.heap.size + 1 := by simp
              generalize w74.alloc (.cells #[.slice q31 qs3.length k31] 27) = w75 at hb hk hz ⊢
              have HB75 : Hid (Below w.heap.size w w75) := Lib.hid (HB74.out.trans (hb.mono HB74.out.size))
              have HZ75 : Hid (w74.heap.size ≤ w75.heap.size) := Lib.hid hb.size
              have HRk75 := Lib.hid (HRk0.out.below HB75.out (Nat.le_refl _))
              have HRs75 := Lib.hid (HRs74.out.below hb (Nat.le_refl _))
              have HRx75 := Lib.hid (HRx74.out.below hb (Nat.le_refl _))
              have HRt75 := Lib.hid (HRt74.out.below hb (Nat.le_refl _))
              have HKb3075 := Lib.hid ((hb.block _ (lt_of_block HKb3074.out)).trans HKb3074.out)
              have HRo75 := Lib.hid (HRo74.out.below hb (Nat.le_refl _))
              have HBs70_75 : Hid (Below w70.heap.size w70 w75) := Lib.hid (HBs70_74.out.trans (hb.mono HBs70_74.out.size))
              have HBs72_75 : Hid (Below w72.heap.size w72 w75) := Lib.hid (HBs72_74.out.trans (hb.mono HBs72_74.out.size))
              have HBs74_75 : Hid (Below w74.heap.size w74 w75) := Lib.hid (HBs74_74.out.trans (hb.mono HBs74_74.out.size))
              have HKb3175 := Lib.hid hk
              replace HZ75 : Hid (w74.heap.size < w75.heap.size) := Lib.hid (by omega)
              have HE75 := Lib.hid hz
              clear hb hk hz
              refine (sConvertTo_any _ _ _ us3 us6 xs3 n3 d3 _ HRs75.out HSZ3.out HRt75.out HSZ6.out HRx75.out qs3 r3 HK3.out).mono ?_
              rintro e w76 ⟨⟨t, rfl, ho⟩, hb⟩
              have HB76 : Hid (Below w.heap.size w w76) := Lib.hid (HB75.out.trans (hb.mono HB75.out.size))
              have HZ76 : Hid (w75.heap.size ≤ w76.heap.size) := Lib.hid hb.size
              have HRk76 := Lib.hid (HRk0.out.below HB76.out (Nat.le_refl _))
              have HRs76 := Lib.hid (HRs75.out.below hb (Nat.le_refl _))
              have HRx76 := Lib.hid (HRx75.out.below hb (Nat.le_refl _))
              have HRt76 := Lib.hid (HRt75.out.below hb (Nat.le_refl _))
              have HKb3076 := Lib.hid ((hb.block _ (lt_of_block HKb3075.out)).trans HKb3075.out)
              have HRo76 := Lib.hid (HRo75.out.below hb (Nat.le_refl _))
              have HKb3176 := Lib.hid ((hb.block _ (lt_of_block HKb3175.out)).trans HKb3175.out)
              have HBs70_76 : Hid (Below w70.heap.size w70 w76) := Lib.hid (HBs70_75.out.trans (hb.mono HBs70_75.out.size))
              have HBs72_76 : Hid (Below w72.heap.size w72 w76) := Lib.hid (HBs72_75.out.trans (hb.mono HBs72_75.out.size))
              have HBs74_76 : Hid (Below w74.heap.size w74 w76) := Lib.hid (HBs74_75.out.trans (hb.mono HBs74_75.out.size))
              clear hb
              obtain ⟨q32, k32, rfl⟩ : ∃ a c, t = .slice a qs3.length c := ho.form
              have HRp76 := Lib.hid (ho.reads)
              have HBs76_76 : Hid (Below w76.heap.size w76 w76) := Lib.hid (Below.refl _ _)
              clear ho
              clear cb300 fb300 ltb30
              have ltb30 := lt_of_block HKb3076.out
              obtain ⟨cb300, fb300⟩ := cell1 HKb3076.out
              have ltb31 := lt_of_block HKb3176.out
              obtain ⟨cb310, fb310⟩ := cell1 HKb3176.out
              go_wp2_with fail
              have hb : Below w76.heap.size w76 (w76.alloc (.cells #[.slice q32 qs3.length k32] 27)) := (Below.refl _ _).alloc (Nat.le_refl _) _
              have hk : (w76.alloc (.cells #[.slice q32 qs3.length k32] 27)).heap[w76.heap.size]? = some (.cells #[.slice q32 qs3.length k32] 27 (0, 0)) := alloc_at rfl
              have hz : (w76.alloc (.cells #[.slice q32 qs3.length k32] 27)).heap.size = w76.heap.size + 1 := by simp
              generalize w76.alloc (.cells #[.slice q32 qs3.length k32] 27) = w77 at hb hk hz ⊢
              have HB77 : Hid (Below w.heap.size w w77) := Lib.hid (HB76.out.trans (hb.mono HB76.out.size))
              have HZ77 : Hid (w76.heap.size ≤ w77.heap.size) := Lib.hid hb.size
              have HRk77 := Lib.hid (HRk0.out.below HB77.out (Nat.le_refl _))
              have HRs77 := Lib.hid (HRs76.out.below hb (Nat.le_refl _))
              have HRx77 := Lib.hid (HRx76.out.below hb (Nat.le_refl _))
              have HRt77 := Lib.hid (HRt76.out.below hb (Nat.le_refl _))
              have HKb3077 := Lib.hid ((hb.block _ (lt_of_block HKb3076.out)).trans HKb3076.out)
              have HRo77 := Lib.hid (HRo76.out.below hb (Nat.le_refl _))
              have HKb3177 := Lib.hid ((hb.block _ (lt_of_block HKb3176.out)).trans HKb3176.out)
              have HRp77 := Lib.hid (HRp76.out.below hb (Nat.le_refl _))
              have HBs70_77 : Hid (Below w70.heap.size w70 w77) := Lib.hid (HBs70_76.out.trans (hb.mono HBs70_76.out.size))
              have HBs72_77 : Hid (Below w72.heap.size w72 w77) := Lib.hid (HBs72_76.out.trans (hb.mono HBs72_76.out.size))
              have HBs74_77 : Hid (Below w74.heap.size w74 w77) := Lib.hid (HBs74_76.out.trans (hb.mono HBs74_76.out.size))
              have HBs76_77 : Hid (Below w76.heap.size w76 w77) := Lib.hid (HBs76_76.out.trans (hb.mono HBs76_76.out.size))
              have HKb3277 := Lib.hid hk
              replace HZ77 : Hid (w76.heap.size < w77.heap.size) := Lib.hid (by omega)
              have HE77 := Lib.hid hz
              clear hb hk hz
              refine (rAmount_yes _ _ qs3 _ HRo77.out HRp77.out).mono ?_
              rintro e w78 ⟨rfl, hb⟩
              have HB78 : Hid (Below w.heap.size w w78) := Lib.hid (HB77.out.trans (hb.mono HB77.out.size))
              have HZ78 : Hid (w77.heap.size ≤ w78.heap.size) := Lib.hid hb.size
              have HRk78 := Lib.hid (HRk0.out.below HB78.out (Nat.le_refl _))
              have HRs78 := Lib.hid (HRs77.out.below hb (Nat.le_refl _))
              have HRx78 := Lib.hid (HRx77.out.below hb (Nat.le_refl _))
              have HRt78 := Lib.hid (HRt77.out.below hb (Nat.le_refl _))
              have HKb3078 := Lib.hid ((hb.block _ (lt_of_block HKb3077.out)).trans HKb3077.out)
              have HRo78 := Lib.hid (HRo77.out.below hb (Nat.le_refl _))
              have HKb3178 := Lib.hid ((hb.block _ (lt_of_block HKb3177.out)).trans HKb3177.out)
              have HRp78 := Lib.hid (HRp77.out.below hb (Nat.le_refl _))
              have HKb3278 := Lib.hid ((hb.block _ (lt_of_block HKb3277.out)).trans HKb3277.out)
              have HBs70_78 : Hid (Below w70.heap.size w70 w78) := Lib.hid (HBs70_77.out.trans (hb.mono HBs70_77.out.size))
              have HBs72_78 : Hid (Below w72.heap.size w72 w78) := Lib.hid (HBs72_77.out.trans (hb.mono HBs72_77.out.size))
              have HBs74_78 : Hid (Below w74.heap.size w74 w78) := Lib.hid (HBs74_77.out.trans (hb.mono HBs74_77.out.size))
              have HBs76_78 : Hid (Below w76.heap.size w76 w78) := Lib.hid (HBs76_77.out.trans (hb.mono HBs76_77.out.size))
              clear hb
              clear cb300 fb300 ltb30 cb310 fb310 ltb31
              have ltb30 := lt_of_block HKb3078.out
              obtain ⟨cb300, fb300⟩ := cell1 HKb3078.out
              have ltb31 := lt_of_block HKb3178.out
              obtain ⟨cb310, fb310⟩ := cell1 HKb3178.out
              have ltb32 := lt_of_block HKb3278.out
              obtain ⟨cb320, fb320⟩ := cell1 HKb3278.out
              go_wp2_with fail
              refine (drawAmountText_any _ L _ HRk78.out).mono ?_
              rintro e w79 ⟨⟨v, x, us4, xs4, rfl, hv, hx, ⟨hl, hnm⟩, hxl⟩, hb⟩
              have HB79 : Hid (Below w.heap.size w w79) := Lib.hid (HB78.out.trans (hb.mono HB78.out.size))
              have HZ79 : Hid (w78.heap.size ≤ w79.heap.size) := Lib.hid hb.size
              have HRk79 := Lib.hid (HRk0.out.below HB79.out (Nat.le_refl _))
              have HBs70_79 : Hid (Below w70.heap.size w70 w79) := Lib.hid (HBs70_78.out.trans (hb.mono HBs70_78.out.size))
              clear hb
              obtain ⟨qs4, ks4, rfl⟩ := own_form hv
              have HRs79 := Lib.hid ((RowsR.of_own unC_len hv))
              have HBs79_79 : Hid (Below w79.heap.size w79 w79) := Lib.hid (Below.refl _ _)
              clear hv
              have HSZ4 := Lib.hid (nm_small hnm)
              clear hl hnm
              obtain ⟨q40, k40, rfl⟩ := own_form hx
              have HRx79 := Lib.hid ((RowsR.of_own inC_len hx))
              clear hx
              clear hxl
              obtain ⟨s4, t4, hk, hm⟩ := am_text us4 xs4
              have HK4 := Lib.hid hk
              have HM4 := Lib.hid hm
              clear hk hm
              have e4 : (!s4.toList == s4.toList) = false := by simp
              have e5 : (t4 != t4) = false := by simp
              clear cb300 fb300 ltb30 cb310 fb310 ltb31 cb320 fb320 ltb32
              go_wp2_with fail
              have hb : Below w79.heap.size w79 (w79.alloc (.cells #[.slice q40 xs4.length k40] 27)) := (Below.refl _ _).alloc (Nat.le_refl _) _
              have hk : (w79.alloc (.cells #[.slice q40 xs4.length k40] 27)).heap[w79.heap.size]? = some (.cells #[.slice q40 xs4.length k40] 27 (0, 0)) := alloc_at rfl
              have hz : (w79.alloc (.cells #[.slice q40 xs4.length k40] 27)).heap.size = w79.heap.size + 1 := by simp
              generalize w79.alloc (.cells #[.slice q40 xs4.length k40] 27) = w80 at hb hk hz ⊢
              have HB80 : Hid (Below w.heap.size w w80) := Lib.hid (HB79.out.trans (hb.mono HB79.out.size))
              have HZ80 : Hid (w79.heap.size ≤ w80.heap.size) := Lib.hid hb.size
              have HRk80 := Lib.hid (HRk0.out.below HB80.out (Nat.le_refl _))
              have HRs80 := Lib.hid (HRs79.out.below hb (Nat.le_refl _))
              have HRx80 := Lib.hid (HRx79.out.below hb (Nat.le_refl _))
              have HBs70_80 : Hid (Below w70.heap.size w70 w80) := Lib.hid (HBs70_79.out.trans (hb.mono HBs70_79.out.size))
              have HBs79_80 : Hid (Below w79.heap.size w79 w80) := Lib.hid (HBs79_79.out.trans (hb.mono HBs79_79.out.size))
              have HKb4080 := Lib.hid hk
              replace HZ80 : Hid (w79.heap.size < w80.heap.size) := Lib.hid (by omega)
              have HE80 := Lib.hid hz
              clear hb hk hz
              refine (iText_any _ _ us4 xs4 _ HRs80.out HSZ4.out HRx80.out (tab_below HT.out HB80.out) s4 t4 HK4.out).mono ?_
              rintro e w81 ⟨rfl, hb⟩
              have HB81 : Hid (Below w.heap.size w w81) := Lib.hid (HB80.out.trans (hb.mono HB80.out.size))
              have HZ81 : Hid (w80.heap.size ≤ w81.heap.size) := Lib.hid hb.size
              have HRk81 := Lib.hid (HRk0.out.below HB81.out (Nat.le_refl _))
              have HRs81 := Lib.hid (HRs80.out.below hb (Nat.le_refl _))
              have HRx81 := Lib.hid (HRx80.out.below hb (Nat.le_refl _))
              have HKb4081 := Lib.hid ((hb.block _ (lt_of_block HKb4080.out)).trans HKb4080.out)
              have HBs70_81 : Hid (Below w70.heap.size w70 w81) := Lib.hid (HBs70_80.out.trans (hb.mono HBs70_80.out.size))
              have HBs79_81 : Hid (Below w79.heap.size w79 w81) := Lib.hid (HBs79_80.out.trans (hb.mono HBs79_80.out.size))
              clear hb
              have ltb40 := lt_of_block HKb4081.out
              obtain ⟨cb400, fb400⟩ := cell1 HKb4081.out
              go_wp2_with fail
              refine (sText_any _ _ us4 xs4 _ HRs81.out HSZ4.out HRx81.out s4 t4 HK4.out).mono ?_
              rintro e w82 ⟨rfl, hb⟩
              have HB82 : Hid (Below w.heap.size w w82) := Lib.hid (HB81.out.trans (hb.mono HB81.out.size))
              have HZ82 : Hid (w81.heap.size ≤ w82.heap.size) := Lib.hid hb.size
              have HRk82 := Lib.hid (HRk0.out.below HB82.out (Nat.le_refl _))
              have HRs82 := Lib.hid (HRs81.out.below hb (Nat.le_refl _))
              have HRx82 := Lib.hid (HRx81.out.below hb (Nat.le_refl _))
              have HKb4082 := Lib.hid ((hb.block _ (lt_of_block HKb4081.out)).trans HKb4081.out)
              have HBs70_82 : Hid (Below w70.heap.size w70 w82) := Lib.hid (HBs70_81.out.trans (hb.mono HBs70_81.out.size))
              have HBs79_82 : Hid (Below w79.heap.size w79 w82) := Lib.hid (HBs79_81.out.trans (hb.mono HBs79_81.out.size))
              clear hb
              clear cb400 fb400 ltb40
              have ltb40 := lt_of_block HKb4082.out
              obtain ⟨cb400, fb400⟩ := cell1 HKb4082.out
              go_wp2_with fail
              refine (iAm_any _ _ us4 xs4 _ HRs82.out HSZ4.out HRx82.out t4 HM4.out).mono ?_
              rintro e w83 ⟨rfl, hb⟩
              have HB83 : Hid (Below w.heap.size w w83) := Lib.hid (HB82.out.trans (hb.mono HB82.out.size))
              have HZ83 : Hid (w82.heap.size ≤ w83.heap.size) := Lib.hid hb.size
              have HRk83 := Lib.hid (HRk0.out.below HB83.out (Nat.le_refl _))
              have HRs83 := Lib.hid (HRs82.out.below hb (Nat.le_refl _))
              have HRx83 := Lib.hid (HRx82.out.below hb (Nat.le_refl _))
              have HKb4083 := Lib.hid ((hb.block _ (lt_of_block HKb4082.out)).trans HKb4082.out)
              have HBs70_83 : Hid (Below w70.heap.size w70 w83) := Lib.hid (HBs70_82.out.trans (hb.mono HBs70_82.out.size))
              have HBs79_83 : Hid (Below w79.heap.size w79 w83) := Lib.hid (HBs79_82.out.trans (hb.mono HBs79_82.out.size))
              clear hb
              clear cb400 fb400 ltb40
              have ltb40 := lt_of_block HKb4083.out
              obtain ⟨cb400, fb400⟩ := cell1 HKb4083.out
              go_wp2_with fail
              refine (drawValueIn_any _ L _ HRk83.out).mono ?_
              rintro e w84 ⟨⟨v, x, us5, xs5, rfl, hv, hx, ⟨hl, hnm⟩, hxl⟩, hb⟩
              have HB84 : Hid (Below w.heap.size w w84) := Lib.hid (HB83.out.trans (hb.mono HB83.out.size))
              have HZ84 : Hid (w83.heap.size ≤ w84.heap.size) := Lib.hid hb.size
              have HRk84 := Lib.hid (HRk0.out.below HB84.out (Nat.le_refl _))
              have HBs70_84 : Hid (Below w70.heap.size w70 w84) := Lib.hid (HBs70_83.out.trans (hb.mono HBs70_83.out.size))
              clear hb
              obtain ⟨qs5, ks5, rfl⟩ := own_form hv
              have HRs84 := Lib.hid ((RowsR.of_own unC_len hv))
              have HBs84_84 : Hid (Below w84.heap.size w84 w84) := Lib.hid (Below.refl _ _)
              clear hv
              have HSZ5 := Lib.hid (nm_small hnm)
              clear hl hnm
              obtain ⟨q50, k50, rfl⟩ := own_form hx
              have HRx84 := Lib.hid ((RowsR.of_own inC_len hx))
              clear hx
              clear hxl
              obtain ⟨x5, b5, hk⟩ := valF_or us5 xs5
              have HK5 := Lib.hid hk
              clear hk
              have e6 : (x5 == x5) = true := by simp
              have e7 : (b5 == b5) = true := by simp
              clear cb400 fb400 ltb40
              go_wp2_with fail
              have hb : Below w84.heap.size w84 (w84.alloc (.cells #[.slice q50 xs5.length k50] 27)) := (Below.refl _ _).alloc (Nat.le_refl _) _
              have hk : (w84.alloc (.cells #[.slice q50 xs5.length k50] 27)).heap[w84.heap.size]? = some (.cells #[.slice q50 xs5.length k50] 27 (0, 0)) := alloc_at rfl
              have hz : (w84.alloc (.cells #[.slice q50 xs5.length k50] 27)).heap.size = w84.heap.size + 1 := by simp
              generalize w84.alloc (.cells #[.slice q50 xs5.length k50] 27) = w85 at hb hk hz ⊢
              have HB85 : Hid (Below w.heap.size w w85) := Lib.hid (HB84.out.trans (hb.mono HB84.out.size))
              have HZ85 : Hid (w84.heap.size ≤ w85.heap.size) := Lib.hid hb.size
              have HRk85 := Lib.hid (HRk0.out.below HB85.out (Nat.le_refl _))
              have HRs85 := Lib.hid (HRs84.out.below hb (Nat.le_refl _))
              have HRx85 := Lib.hid (HRx84.out.below hb (Nat.le_refl _))
              have HBs70_85 : Hid (Below w70.heap.size w70 w85) := Lib.hid (HBs70_84.out.trans (hb.mono HBs70_84.out.size))
              have HBs84_85 : Hid (Below w84.heap.size w84 w85) := Lib.hid (HBs84_84.out.trans (hb.mono HBs84_84.out.size))
              have HKb5085 := Lib.hid hk
              replace HZ85 : Hid (w84.heap.size < w85.heap.size) := Lib.hid (by omega)
              have HE85 := Lib.hid hz
              clear hb hk hz
              refine (iVal_any _ _ us5 xs5 _ HRs85.out HSZ5.out HRx85.out x5 b5 HK5.out).mono ?_
              rintro e w86 ⟨rfl, hb⟩
              have HB86 : Hid (Below w.heap.size w w86) := Lib.hid (HB85.out.trans (hb.mono HB85.out.size))
              have HZ86 : Hid (w85.heap.size ≤ w86.heap.size) := Lib.hid hb.size
              have HRk86 := Lib.hid (HRk0.out.below HB86.out (Nat.le_refl _))
              have HRs86 := Lib.hid (HRs85.out.below hb (Nat.le_refl _))
              have HRx86 := Lib.hid (HRx85.out.below hb (Nat.le_refl _))
              have HKb5086 := Lib.hid ((hb.block _ (lt_of_block HKb5085.out)).trans HKb5085.out)
              have HBs70_86 : Hid (Below w70.heap.size w70 w86) := Lib.hid (HBs70_85.out.trans (hb.mono HBs70_85.out.size))
              have HBs84_86 : Hid (Below w84.heap.size w84 w86) := Lib.hid (HBs84_85.out.trans (hb.mono HBs84_85.out.size))
              clear hb
              have ltb50 := lt_of_block HKb5086.out
              obtain ⟨cb500, fb500⟩ := cell1 HKb5086.out
              go_wp2_with fail
              refine (sVal_any _ _ us5 xs5 _ HRs86.out HSZ5.out HRx86.out x5 b5 HK5.out).mono ?_
              rintro e w87 ⟨rfl, hb⟩
              have HB87 : Hid (Below w.heap.size w w87) := Lib.hid (HB86.out.trans (hb.mono HB86.out.size))
              have HZ87 : Hid (w86.heap.size ≤ w87.heap.size) := Lib.hid hb.size
              have HRk87 := Lib.hid (HRk0.out.below HB87.out (Nat.le_refl _))
              have HRs87 := Lib.hid (HRs86.out.below hb (Nat.le_refl _))
              have HRx87 := Lib.hid (HRx86.out.below hb (Nat.le_refl _))
              have HKb5087 := Lib.hid ((hb.block _ (lt_of_block HKb5086.out)).trans HKb5086.out)
              have HBs70_87 : Hid (Below w70.heap.size w70 w87) := Lib.hid (HBs70_86.out.trans (hb.mono HBs70_86.out.size))
              have HBs84_87 : Hid (Below w84.heap.size w84 w87) := Lib.hid (HBs84_86.out.trans (hb.mono HBs84_86.out.size))
              clear hb
              clear cb500 fb500 ltb50
              have ltb50 := lt_of_block HKb5087.out
              obtain ⟨cb500, fb500⟩ := cell1 HKb5087.out
              go_wp2_with fail
              go_ret
              exact ⟨ret_bool (by first | (simp; done) | rfl), HB87.out⟩
          · obtain rfl : j = us2.length := by omega
            have z2 : ¬ ((us2.length : Int) < (us2.length : Int)) := by omega
            have HB71 : Hid (Below w.heap.size w w70) := Lib.hid hbw
            have HRk71 := Lib.hid (HRk0.out.below HB71.out (Nat.le_refl _))
            clear hb hrs hbw
            go_wp2_with fail
            refine (drawConvertTo_any _ L _ HRk71.out).mono ?_
            rintro e w72 ⟨⟨v, x, v2, us3, us6, xs3, n3, d3, rfl, ⟨hv, hx, hv2⟩, ⟨hl, hnm⟩, ⟨hl2, hnm2⟩, -, -⟩, hb⟩
            have HB72 : Hid (Below w.heap.size w w72) := Lib.hid (HB71.out.trans (hb.mono HB71.out.size))
            have HZ72 : Hid (w70.heap.size ≤ w72.heap.size) := Lib.hid hb.size
            have HRk72 := Lib.hid (HRk0.out.below HB72.out (Nat.le_refl _))
            clear hb
            obtain ⟨qs3, ks3, rfl⟩ := own_form hv
            have HRs72 := Lib.hid ((RowsR.of_own unC_len hv))
            have HBs72_72 : Hid (Below w72.heap.size w72 w72) := Lib.hid (Below.refl _ _)
            clear hv
            have HSZ3 := Lib.hid (nm_small hnm)
            clear hl hnm
            obtain ⟨q30, k30, rfl⟩ := own_form hx
            have HRx72 := Lib.hid ((RowsR.of_own inC_len hx))
            clear hx
            obtain ⟨qs6, ks6, rfl⟩ := own_form hv2
            have HRt72 := Lib.hid ((RowsR.of_own unC_len hv2))
            clear hv2
            have HSZ6 := Lib.hid (nm_small hnm2)
            clear hl2 hnm2
            obtain ⟨qs3, r3, hk⟩ := testF_or (okAm us3 xs3 ∧ okS us6 ∧ (1 ≤ n3 ∧ n3 ≤ 10000) ∧ (1 ≤ d3 ∧ d3 ≤ 10000)) us6 (valA us3 xs3 * n3 / d3)
            have HK3 := Lib.hid hk
            clear hk
            have e3 : (r3 != r3) = false := by simp
            go_wp2_with fail
            have hb : Below w72.heap.size w72 (w72.alloc (.cells #[.slice q30 xs3.length k30] 27)) := (Below.refl _ _).alloc (Nat.le_refl _) _
            have hk : (w72.alloc (.cells #[.slice q30 xs3.length k30] 27)).heap[w72.heap.size]? = some (.cells #[.slice q30 xs3.length k30] 27 (0, 0)) := alloc_at rfl
            have hz : (w72.alloc (.cells #[.slice q30 xs3.length k30] 27)).heap.size = w72.heap.size + 1 := by simp
            generalize w72.alloc (.cells #[.slice q30 xs3.length k30] 27) = w73 at hb hk hz ⊢
            have HB73 : Hid (Below w.heap.size w w73) := Lib.hid (HB72.out.trans (hb.mono HB72.out.size))
            have HZ73 : Hid (w72.heap.size ≤ w73.heap.size) := Lib.hid hb.size
            have HRk73 := Lib.hid (HRk0.out.below HB73.out (Nat.le_refl _))
            have HRs73 := Lib.hid (HRs72.out.below hb (Nat.le_refl _))
            have HRx73 := Lib.hid (HRx72.out.below hb (Nat.le_refl _))
            have HRt73 := Lib.hid (HRt72.out.below hb (Nat.le_refl _))
            have HBs72_73 : Hid (Below w72.heap.size w72 w73) := Lib.hid (HBs72_72.out.trans (hb.mono HBs72_72.out.size))
            have HKb3073 := Lib.hid hk
            replace HZ73 : Hid (w72.heap.size < w73.heap.size) := Lib.hid (by omega)
            have HE73 := Lib.hid hz
            clear hb hk hz
            refine (iConvertTo_any _ _ _ us3 us6 xs3 n3 d3 _ HRs73.out HSZ3.out HRt73.out HSZ6.out HRx73.out qs3 r3 HK3.out).mono ?_
            rintro e w74 ⟨⟨t, rfl, ho⟩, hb⟩
            have HB74 : Hid (Below w.heap.size w w74) := Lib.hid (HB73.out.trans (hb.mono HB73.out.size))
            have HZ74 : Hid (w73.heap.size ≤ w74.heap.size) := Lib.hid hb.size
            have HRk74 := Lib.hid (HRk0.out.below HB74.out (Nat.le_refl _))
            have HRs74 := Lib.hid (HRs73.out.below hb (Nat.le_refl _))
            have HRx74 := Lib.hid (HRx73.out.below hb (Nat.le_refl _))
            have HRt74 := Lib.hid (HRt73.out.below hb (Nat.le_refl _))
            have HKb3074 := Lib.hid ((hb.block _ (lt_of_block HKb3073.out)).trans HKb3073.out)
            have HBs72_74 : Hid (Below w72.heap.size w72 w74) := Lib.hid (HBs72_73.out.trans (hb.mono HBs72_73.out.size))
            clear hb
            obtain ⟨q31, k31, rfl⟩ : ∃ a c, t = .slice a qs3.length c := ho.form
            have HRo74 := Lib.hid (ho.reads)
            have HBs74_74 : Hid (Below w74.heap.size w74 w74) := Lib.hid (Below.refl _ _)
            clear ho
            have ltb30 := lt_of_block HKb3074.out
            obtain ⟨cb300, fb300⟩ := cell1 HKb3074.out
            go_wp2_with fail
            have hb : Below w74.heap.size w74 (w74.alloc (.cells #[.slice q31 qs3.length k31] 27)) := (Below.refl _ _).alloc (Nat.le_refl _) _
            have hk : (w74.alloc (.cells #[.slice q31 qs3.length k31] 27)).heap[w74.heap.size]? = some (.cells #[.slice q31 qs3.length k31] 27 (0, 0)) := alloc_at rfl
            have hz : (w74.alloc (.cells #[.slice q31 qs3.length k31] 27)).heap.size = w74.heap.size + 1 := by simp
            generalize w74.alloc (.cells #[.slice q31 qs3.length k31] 27) = w75 at hb hk hz ⊢
            have HB75 : Hid (Below w.heap.size w w75) := Lib.hid (HB74.out.trans (hb.mono HB74.out.size))
            have HZ75 : Hid (w74.heap.size ≤ w75.heap.size) := Lib.hid hb.size
            have HRk75 := Lib.hid (HRk0.out.below HB75.out (Nat.le_refl _))
            have HRs75 := Lib.hid (HRs74.out.below hb (Nat.le_refl _))
            have HRx75 := Lib.hid (HRx74.out.below hb (Nat.le_refl _))
            have HRt75 := Lib.hid (HRt74.out.below hb (Nat.le_refl _))
            have HKb3075 := Lib.hid ((hb.block _ (lt_of_block HKb3074.out)).trans HKb3074.out)
            have HRo75 := Lib.hid (HRo74.out.below hb (Nat.le_refl _))
            have HBs72_75 : Hid (Below w72.heap.size w72 w75) := Lib.hid (HBs72_74.out.trans (hb.mono HBs72_74.out.size))
            have HBs74_75 : Hid (Below w74.heap.size w74 w75) := Lib.hid (HBs74_74.out.trans (hb.mono HBs74_74.out.size))
            have HKb3175 := Lib.hid hk
            replace HZ75 : Hid (w74.heap.size < w75.heap.size) := Lib.hid (by omega)
            have HE75 := Lib.hid hz
            clear hb hk hz
            refine (sConvertTo_any _ _ _ us3 us6 xs3 n3 d3 _ HRs75.out HSZ3.out HRt75.out HSZ6.out HRx75.out qs3 r3 HK3.out).mono ?_
            rintro e w76 ⟨⟨t, rfl, ho⟩, hb⟩
            have HB76 : Hid (Below w.heap.size w w76) := Lib.hid (HB75.out.trans (hb.mono HB75.out.size))
            have HZ76 : Hid (w75.heap.size ≤ w76.heap.size) := Lib.hid hb.size
            have HRk76 := Lib.hid (HRk0.out.below HB76.out (Nat.le_refl _))
            have HRs76 := Lib.hid (HRs75.out.below hb (Nat.le_refl _))
            have HRx76 := Lib.hid (HRx75.out.below hb (Nat.le_refl _))
            have HRt76 := Lib.hid (HRt75.out.below hb (Nat.le_refl _))
            have HKb3076 := Lib.hid ((hb.block _ (lt_of_block HKb3075.out)).trans HKb3075.out)
            have HRo76 := Lib.hid (HRo75.out.below hb (Nat.le_refl _))
            have HKb3176 := Lib.hid ((hb.block _ (lt_of_block HKb3175.out)).trans HKb3175.out)
            have HBs72_76 : Hid (Below w72.heap.size w72 w76) := Lib.hid (HBs72_75.out.trans (hb.mono HBs72_75.out.size))
            have HBs74_76 : Hid (Below w74.heap.size w74 w76) := Lib.hid (HBs74_75.out.trans (hb.mono HBs74_75.out.size))
            clear hb
            obtain ⟨q32, k32, rfl⟩ : ∃ a c, t = .slice a qs3.length c := ho.form
            have HRp76 := Lib.hid (ho.reads)
            have HBs76_76 : Hid (Below w76.heap.size w76 w76) := Lib.hid (Below.refl _ _)
            clear ho
            clear cb300 fb300 ltb30
            have ltb30 := lt_of_block HKb3076.out
            obtain ⟨cb300, fb300⟩ := cell1 HKb3076.out
            have ltb31 := lt_of_block HKb3176.out
            obtain ⟨cb310, fb310⟩ := cell1 HKb3176.out
            go_wp2_with fail
            have hb : Below w76.heap.size w76 (w76.alloc (.cells #[.slice q32 qs3.length k32] 27)) := (Below.refl _ _).alloc (Nat.le_refl _) _
            have hk : (w76.alloc (.cells #[.slice q32 qs3.length k32] 27)).heap[w76.heap.size]? = some (.cells #[.slice q32 qs3.length k32] 27 (0, 0)) := alloc_at rfl
            have hz : (w76.alloc (.cells #[.slice q32 qs3.length k32] 27)).heap.size = w76.heap.size + 1 := by simp
            generalize w76.alloc (.cells #[.slice q32 qs3.length k32] 27) = w77 at hb hk hz ⊢
            have HB77 : Hid (Below w.heap.size w w77) := Lib.hid (HB76.out.trans (hb.mono HB76.out.size))
            have HZ77 : Hid (w76.heap.size ≤ w77.heap.size) := Lib.hid hb.size
            have HRk77 := Lib.hid (HRk0.out.below HB77.out (Nat.le_refl _))
            have HRs77 := Lib.hid (HRs76.out.below hb (Nat.le_refl _))
            have HRx77 := Lib.hid (HRx76.out.below hb (Nat.le_refl _))
            have HRt77 := Lib.hid (HRt76.out.below hb (Nat.le_refl _))
            have HKb3077 := Lib.hid ((hb.block _ (lt_of_block HKb3076.out)).trans HKb3076.out)
            have HRo77 := Lib.hid (HRo76.out.below hb (Nat.le_refl _))
            have HKb3177 := Lib.hid ((hb.block _ (lt_of_block HKb3176.out)).trans HKb3176.out)
            have HRp77 := Lib.hid (HRp76.out.below hb (Nat.le_refl _))
            have HBs72_77 : Hid (Below w72.heap.size w72 w77) := Lib.hid (HBs72_76.out.trans (hb.mono HBs72_76.out.size))
            have HBs74_77 : Hid (Below w74.heap.size w74 w77) := Lib.hid (HBs74_76.out.trans (hb.mono HBs74_76.out.size))
            have HBs76_77 : Hid (Below w76.heap.size w76 w77) := Lib.hid (HBs76_76.out.trans (hb.mono HBs76_76.out.size))
            have HKb3277 := Lib.hid hk
            replace HZ77 : Hid (w76.heap.size < w77.heap.size) := Lib.hid (by omega)
            have HE77 := Lib.hid hz
            clear hb hk hz
            refine (rAmount_yes _ _ qs3 _ HRo77.out HRp77.out).mono ?_
            rintro e w78 ⟨rfl, hb⟩
            have HB78 : Hid (Below w.heap.size w w78) := Lib.hid (HB77.out.trans (hb.mono HB77.out.size))
            have HZ78 : Hid (w77.heap.size ≤ w78.heap.size) := Lib.hid hb.size
            have HRk78 := Lib.hid (HRk0.out.below HB78.out (Nat.le_refl _))
            have HRs78 := Lib.hid (HRs77.out.below hb (Nat.le_refl _))
            have HRx78 := Lib.hid (HRx77.out.below hb (Nat.le_refl _))
            have HRt78 := Lib.hid (HRt77.out.below hb (Nat.le_refl _))
            have HKb3078 := Lib.hid ((hb.block _ (lt_of_block HKb3077.out)).trans HKb3077.out)
            have HRo78 := Lib.hid (HRo77.out.below hb (Nat.le_refl _))
            have HKb3178 := Lib.hid ((hb.block _ (lt_of_block HKb3177.out)).trans HKb3177.out)
            have HRp78 := Lib.hid (HRp77.out.below hb (Nat.le_refl _))
            have HKb3278 := Lib.hid ((hb.block _ (lt_of_block HKb3277.out)).trans HKb3277.out)
            have HBs72_78 : Hid (Below w72.heap.size w72 w78) := Lib.hid (HBs72_77.out.trans (hb.mono HBs72_77.out.size))
            have HBs74_78 : Hid (Below w74.heap.size w74 w78) := Lib.hid (HBs74_77.out.trans (hb.mono HBs74_77.out.size))
            have HBs76_78 : Hid (Below w76.heap.size w76 w78) := Lib.hid (HBs76_77.out.trans (hb.mono HBs76_77.out.size))
            clear hb
            clear cb300 fb300 ltb30 cb310 fb310 ltb31
            have ltb30 := lt_of_block HKb3078.out
            obtain ⟨cb300, fb300⟩ := cell1 HKb3078.out
            have ltb31 := lt_of_block HKb3178.out
            obtain ⟨cb310, fb310⟩ := cell1 HKb3178.out
            have ltb32 := lt_of_block HKb3278.out
            obtain ⟨cb320, fb320⟩ := cell1 HKb3278.out
            go_wp2_with fail
            refine (drawAmountText_any _ L _ HRk78.out).mono ?_
            rintro e w79 ⟨⟨v, x, us4, xs4, rfl, hv, hx, ⟨hl, hnm⟩, hxl⟩, hb⟩
            have HB79 : Hid (Below w.heap.size w w79) := Lib.hid (HB78.out.trans (hb.mono HB78.out.size))
            have HZ79 : Hid (w78.heap.size ≤ w79.heap.size) := Lib.hid hb.size
            have HRk79 := Lib.hid (HRk0.out.below HB79.out (Nat.le_refl _))
            clear hb
            obtain ⟨qs4, ks4, rfl⟩ := own_form hv
            have HRs79 := Lib.hid ((RowsR.of_own unC_len hv))
            have HBs79_79 : Hid (Below w79.heap.size w79 w79) := Lib.hid (Below.refl _ _)
            clear hv
            have HSZ4 := Lib.hid (nm_small hnm)
            clear hl hnm
            obtain ⟨q40, k40, rfl⟩ := own_form hx
            have HRx79 := Lib.hid ((RowsR.of_own inC_len hx))
            clear hx
            clear hxl
            obtain ⟨s4, t4, hk, hm⟩ := am_text us4 xs4
            have HK4 := Lib.hid hk
            have HM4 := Lib.hid hm
            clear hk hm
            have e4 : (!s4.toList == s4.toList) = false := by simp
            have e5 : (t4 != t4) = false := by simp
            clear cb300 fb300 ltb30 cb310 fb310 ltb31 cb320 fb320 ltb32
            go_wp2_with fail
            have hb : Below w79.heap.size w79 (w79.alloc (.cells #[.slice q40 xs4.length k40] 27)) := (Below.refl _ _).alloc (Nat.le_refl _) _
            have hk : (w79.alloc (.cells #[.slice q40 xs4.length k40] 27)).heap[w79.heap.size]? = some (.cells #[.slice q40 xs4.length k40] 27 (0, 0)) := alloc_at rfl
            have hz : (w79.alloc (.cells #[.slice q40 xs4.length k40] 27)).heap.size = w79.heap.size + 1 := by simp
            generalize w79.alloc (.cells #[.slice q40 xs4.length k40] 27) = w80 at hb hk hz ⊢
            have HB80 : Hid (Below w.heap.size w w80) := Lib.hid (HB79.out.trans (hb.mono HB79.out.size))
            have HZ80 : Hid (w79.heap.size ≤ w80.heap.size) := Lib.hid hb.size
            have HRk80 := Lib.hid (HRk0.out.below HB80.out (Nat.le_refl _))
            have HRs80 := Lib.hid (HRs79.out.below hb (Nat.le_refl _))
            have HRx80 := Lib.hid (HRx79.out.below hb (Nat.le_refl _))
            have HBs79_80 : Hid (Below w79.heap.size w79 w80) := Lib.hid (HBs79_79.out.trans (hb.mono HBs79_79.out.size))
            have HKb4080 := Lib.hid hk
            replace HZ80 : Hid (w79.heap.size < w80.heap.size) := Lib.hid (by omega)
            have HE80 := Lib.hid hz
            clear hb hk hz
            refine (iText_any _ _ us4 xs4 _ HRs80.out HSZ4.out HRx80.out (tab_below HT.out HB80.out) s4 t4 HK4.out).mono ?_
            rintro e w81 ⟨rfl, hb⟩
            have HB81 : Hid (Below w.heap.size w w81) := Lib.hid (HB80.out.trans (hb.mono HB80.out.size))
            have HZ81 : Hid (w80.heap.size ≤ w81.heap.size) := Lib.hid hb.size
            have HRk81 := Lib.hid (HRk0.out.below HB81.out (Nat.le_refl _))
            have HRs81 := Lib.hid (HRs80.out.below hb (Nat.le_refl _))
            have HRx81 := Lib.hid (HRx80.out.below hb (Nat.le_refl _))
            have HKb4081 := Lib.hid ((hb.block _ (lt_of_block HKb4080.out)).trans HKb4080.out)
            have HBs79_81 : Hid (Below w79.heap.size w79 w81) := Lib.hid (HBs79_80.out.trans (hb.mono HBs79_80.out.size))
            clear hb
            have ltb40 := lt_of_block HKb4081.out
            obtain ⟨cb400, fb400⟩ := cell1 HKb4081.out
            go_wp2_with fail
            refine (sText_any _ _ us4 xs4 _ HRs81.out HSZ4.out HRx81.out s4 t4 HK4.out).mono ?_
            rintro e w82 ⟨rfl, hb⟩
            have HB82 : Hid (Below w.heap.size w w82) := Lib.hid (HB81.out.trans (hb.mono HB81.out.size))
            have HZ82 : Hid (w81.heap.size ≤ w82.heap.size) := Lib.hid hb.size
            have HRk82 := Lib.hid (HRk0.out.below HB82.out (Nat.le_refl _))
            have HRs82 := Lib.hid (HRs81.out.below hb (Nat.le_refl _))
            have HRx82 := Lib.hid (HRx81.out.below hb (Nat.le_refl _))
            have HKb4082 := Lib.hid ((hb.block _ (lt_of_block HKb4081.out)).trans HKb4081.out)
            have HBs79_82 : Hid (Below w79.heap.size w79 w82) := Lib.hid (HBs79_81.out.trans (hb.mono HBs79_81.out.size))
            clear hb
            clear cb400 fb400 ltb40
            have ltb40 := lt_of_block HKb4082.out
            obtain ⟨cb400, fb400⟩ := cell1 HKb4082.out
            go_wp2_with fail
            refine (iAm_any _ _ us4 xs4 _ HRs82.out HSZ4.out HRx82.out t4 HM4.out).mono ?_
            rintro e w83 ⟨rfl, hb⟩
            have HB83 : Hid (Below w.heap.size w w83) := Lib.hid (HB82.out.trans (hb.mono HB82.out.size))
            have HZ83 : Hid (w82.heap.size ≤ w83.heap.size) := Lib.hid hb.size
            have HRk83 := Lib.hid (HRk0.out.below HB83.out (Nat.le_refl _))
            have HRs83 := Lib.hid (HRs82.out.below hb (Nat.le_refl _))
            have HRx83 := Lib.hid (HRx82.out.below hb (Nat.le_refl _))
            have HKb4083 := Lib.hid ((hb.block _ (lt_of_block HKb4082.out)).trans HKb4082.out)
            have HBs79_83 : Hid (Below w79.heap.size w79 w83) := Lib.hid (HBs79_82.out.trans (hb.mono HBs79_82.out.size))
            clear hb
            clear cb400 fb400 ltb40
            have ltb40 := lt_of_block HKb4083.out
            obtain ⟨cb400, fb400⟩ := cell1 HKb4083.out
            go_wp2_with fail
            refine (drawValueIn_any _ L _ HRk83.out).mono ?_
            rintro e w84 ⟨⟨v, x, us5, xs5, rfl, hv, hx, ⟨hl, hnm⟩, hxl⟩, hb⟩
            have HB84 : Hid (Below w.heap.size w w84) := Lib.hid (HB83.out.trans (hb.mono HB83.out.size))
            have HZ84 : Hid (w83.heap.size ≤ w84.heap.size) := Lib.hid hb.size
            have HRk84 := Lib.hid (HRk0.out.below HB84.out (Nat.le_refl _))
            clear hb
            obtain ⟨qs5, ks5, rfl⟩ := own_form hv
            have HRs84 := Lib.hid ((RowsR.of_own unC_len hv))
            have HBs84_84 : Hid (Below w84.heap.size w84 w84) := Lib.hid (Below.refl _ _)
            clear hv
            have HSZ5 := Lib.hid (nm_small hnm)
            clear hl hnm
            obtain ⟨q50, k50, rfl⟩ := own_form hx
            have HRx84 := Lib.hid ((RowsR.of_own inC_len hx))
            clear hx
            clear hxl
            obtain ⟨x5, b5, hk⟩ := valF_or us5 xs5
            have HK5 := Lib.hid hk
            clear hk
            have e6 : (x5 == x5) = true := by simp
            have e7 : (b5 == b5) = true := by simp
            clear cb400 fb400 ltb40
            go_wp2_with fail
            have hb : Below w84.heap.size w84 (w84.alloc (.cells #[.slice q50 xs5.length k50] 27)) := (Below.refl _ _).alloc (Nat.le_refl _) _
            have hk : (w84.alloc (.cells #[.slice q50 xs5.length k50] 27)).heap[w84.heap.size]? = some (.cells #[.slice q50 xs5.length k50] 27 (0, 0)) := alloc_at rfl
            have hz : (w84.alloc (.cells #[.slice q50 xs5.length k50] 27)).heap.size = w84.heap.size + 1 := by simp
            generalize w84.alloc (.cells #[.slice q50 xs5.length k50] 27) = w85 at hb hk hz ⊢
            have HB85 : Hid (Below w.heap.size w w85) := Lib.hid (HB84.out.trans (hb.mono HB84.out.size))
            have HZ85 : Hid (w84.heap.size ≤ w85.heap.size) := Lib.hid hb.size
            have HRk85 := Lib.hid (HRk0.out.below HB85.out (Nat.le_refl _))
            have HRs85 := Lib.hid (HRs84.out.below hb (Nat.le_refl _))
            have HRx85 := Lib.hid (HRx84.out.below hb (Nat.le_refl _))
            have HBs84_85 : Hid (Below w84.heap.size w84 w85) := Lib.hid (HBs84_84.out.trans (hb.mono HBs84_84.out.size))
            have HKb5085 := Lib.hid hk
            replace HZ85 : Hid (w84.heap.size < w85.heap.size) := Lib.hid (by omega)
            have HE85 := Lib.hid hz
            clear hb hk hz
            refine (iVal_any _ _ us5 xs5 _ HRs85.out HSZ5.out HRx85.out x5 b5 HK5.out).mono ?_
            rintro e w86 ⟨rfl, hb⟩
            have HB86 : Hid (Below w.heap.size w w86) := Lib.hid (HB85.out.trans (hb.mono HB85.out.size))
            have HZ86 : Hid (w85.heap.size ≤ w86.heap.size) := Lib.hid hb.size
            have HRk86 := Lib.hid (HRk0.out.below HB86.out (Nat.le_refl _))
            have HRs86 := Lib.hid (HRs85.out.below hb (Nat.le_refl _))
            have HRx86 := Lib.hid (HRx85.out.below hb (Nat.le_refl _))
            have HKb5086 := Lib.hid ((hb.block _ (lt_of_block HKb5085.out)).trans HKb5085.out)
            have HBs84_86 : Hid (Below w84.heap.size w84 w86) := Lib.hid (HBs84_85.out.trans (hb.mono HBs84_85.out.size))
            clear hb
            have ltb50 := lt_of_block HKb5086.out
            obtain ⟨cb500, fb500⟩ := cell1 HKb5086.out
            go_wp2_with fail
            refine (sVal_any _ _ us5 xs5 _ HRs86.out HSZ5.out HRx86.out x5 b5 HK5.out).mono ?_
            rintro e w87 ⟨rfl, hb⟩
            have HB87 : Hid (Below w.heap.size w w87) := Lib.hid (HB86.out.trans (hb.mono HB86.out.size))
            have HZ87 : Hid (w86.heap.size ≤ w87.heap.size) := Lib.hid hb.size
            have HRk87 := Lib.hid (HRk0.out.below HB87.out (Nat.le_refl _))
            have HRs87 := Lib.hid (HRs86.out.below hb (Nat.le_refl _))
            have HRx87 := Lib.hid (HRx86.out.below hb (Nat.le_refl _))
            have HKb5087 := Lib.hid ((hb.block _ (lt_of_block HKb5086.out)).trans HKb5086.out)
            have HBs84_87 : Hid (Below w84.heap.size w84 w87) := Lib.hid (HBs84_86.out.trans (hb.mono HBs84_86.out.size))
            clear hb
            clear cb500 fb500 ltb50
            have ltb50 := lt_of_block HKb5087.out
            obtain ⟨cb500, fb500⟩ := cell1 HKb5087.out
            go_wp2_with fail
            go_ret
            exact ⟨ret_bool (by first | (simp; done) | rfl), HB87.out⟩
end Go.Proofs.YtghdmiimanhjgaaDoor
