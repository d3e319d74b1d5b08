/- The law FnMeasures. -/
import Derived.Test.YtpmccebifncpeaaVms
import Derived.Test.YtpmccebifncpeaaDms
import Derived.Test.YtpmccebifncpeaaMsv
import Derived.Test.YtpmccebifncpeaaMm4
import Derived.Test.YtpmccebifncpeaaIm3
import Derived.Test.YtpmccebifncpeaaIm2
import Derived.Test.YtpmccebifncpeaaMm3
namespace Go.Proofs.Ytpmccebifncpeaa
set_option linter.unusedVariables false
open Go.RowKit
set_option linter.unusedSimpArgs false

theorem nm_small {us : List Un} (h : ∀ u ∈ us, u.nm.size ≤ 11) : ∀ u ∈ us, u.nm.size ≤ maxLen := fun u hu => by have := h u hu; unfold maxLen; omega
theorem ms_prop (us : List Un) (z : Int) : ∃ (qs : List Int) (r : Bool) (x : Int) (b m : Bool), TestF (okS us) us z qs r ∧ ValF us qs x b ∧ (m = true ↔ okAm us qs) ∧ (r = true → x = z ∧ b = true ∧ m = true) := by
  obtain ⟨qs, r, hk⟩ := testF_or (okS us) us z
  obtain ⟨x, b, hv⟩ := valF_or us qs
  obtain ⟨m, hm⟩ := okAm_dec us qs
  refine ⟨qs, r, x, b, m, hk, hv, hm, fun hr => ?_⟩
  subst hr
  have hk2 : okS us ∧ okP us z ∧ qs = propL us z := by
    rcases hk with ⟨h1, ⟨h2, h3, -⟩ | ⟨-, -, h⟩⟩ | ⟨-, -, h⟩
    · exact ⟨h1, h2, h3⟩
    · cases h
    · cases h
  obtain ⟨h1, h2, rfl⟩ := hk2
  have ha := prop_ok h1 h2
  rcases hv with ⟨-, e1, e2⟩ | ⟨hn, -, -⟩
  · exact ⟨by rw [e1, valA_prop h1], e2, hm.2 ha⟩
  · exact absurd ha hn
theorem ms_sum (us : List Un) (xs ys : List Int) : ∃ (qs : List Int) (r : Bool) (ds : List Int) (d : Bool) (x1 : Int) (b1 : Bool) (x2 : Int) (b2 : Bool), TestF (okAm us xs ∧ okAm us ys) us (valA us xs + valA us ys) qs r ∧ TestF (okAm us qs ∧ okAm us ys) us (valA us qs - valA us ys) ds d ∧ ValF us xs x1 b1 ∧ ValF us ds x2 b2 ∧ (r = true → d = true ∧ b1 = true ∧ b2 = true ∧ x2 = x1) := by
  obtain ⟨qs, r, hk⟩ := testF_or (okAm us xs ∧ okAm us ys) us (valA us xs + valA us ys)
  obtain ⟨ds, d, hd⟩ := testF_or (okAm us qs ∧ okAm us ys) us (valA us qs - valA us ys)
  obtain ⟨x1, b1, h1⟩ := valF_or us xs
  obtain ⟨x2, b2, h2⟩ := valF_or us ds
  refine ⟨qs, r, ds, d, x1, b1, x2, b2, hk, hd, h1, h2, fun hr => ?_⟩
  subst hr
  have hk2 : (okAm us xs ∧ okAm us ys) ∧ okP us (valA us xs + valA us ys) ∧ qs = propL us (valA us xs + valA us ys) := by
    rcases hk with ⟨g1, ⟨g2, g3, -⟩ | ⟨-, -, h⟩⟩ | ⟨-, -, h⟩
    · exact ⟨g1, g2, g3⟩
    · cases h
    · cases h
  obtain ⟨⟨g1, g2⟩, g3, rfl⟩ := hk2
  have hq := prop_ok g1.1 g3
  have hX := okP_val g1
  have hY := okP_val g2
  have e : valA us (propL us (valA us xs + valA us ys)) - valA us ys = valA us xs := by rw [valA_prop g1.1]; omega
  have hp := okP_mono g1.1 hX (by omega : valA us xs ≤ valA us xs + valA us ys) g3
  rw [e] at hd
  have hd2 : ds = propL us (valA us xs) ∧ d = true := by
    rcases hd with ⟨-, ⟨-, k1, k2⟩ | ⟨hn, -, -⟩⟩ | ⟨hn, -, -⟩
    · exact ⟨k1, k2⟩
    · exact absurd hp hn
    · exact absurd ⟨hq, g2⟩ hn
  obtain ⟨rfl, rfl⟩ := hd2
  have ha := prop_ok g1.1 hp
  rcases h1 with ⟨-, e1, e2⟩ | ⟨hn, -, -⟩
  · rcases h2 with ⟨-, e3, e4⟩ | ⟨hn, -, -⟩
    · exact ⟨rfl, e2, e4, by rw [e3, e1, valA_prop g1.1]⟩
    · exact absurd ha hn
  · exact absurd g1 hn
theorem ms_part (us : List Un) (xs : List Int) (n : Int) : ∃ (q1 q2 : List Int) (r : Bool) (x0 : Int) (b0 : Bool) (x1 : Int) (b1 : Bool) (x2 : Int) (b2 : Bool), PartF us xs n q1 q2 r ∧ ValF us xs x0 b0 ∧ ValF us q1 x1 b1 ∧ ValF us q2 x2 b2 ∧ (r = true → (b0 = true ∧ b1 = true ∧ b2 = true) ∧ IntKind.i64.wrap (x1 * n) = x1 * n ∧ IntKind.i64.wrap (x1 * n + x2) = x0 ∧ 0 ≤ x2 ∧ x2 < n) := by
  obtain ⟨q1, q2, r, hk⟩ := partF_or us xs n
  obtain ⟨x0, b0, h0⟩ := valF_or us xs
  obtain ⟨x1, b1, h1⟩ := valF_or us q1
  obtain ⟨x2, b2, h2⟩ := valF_or us q2
  refine ⟨q1, q2, r, x0, b0, x1, b1, x2, b2, hk, h0, h1, h2, fun hr => ?_⟩
  subst hr
  have hk2 : (okAm us xs ∧ (1 ≤ n ∧ n ≤ 1000)) ∧ (okP us (valA us xs / n) ∧ okP us (valA us xs % n)) ∧ q1 = propL us (valA us xs / n) ∧ q2 = propL us (valA us xs % n) := by
    rcases hk with ⟨g1, ⟨g2, g3, g4, -⟩ | ⟨-, -, -, h⟩⟩ | ⟨-, -, -, h⟩
    · exact ⟨g1, g2, g3, g4⟩
    · cases h
    · cases h
  obtain ⟨⟨g1, gn, -⟩, ⟨g2, g3⟩, rfl, rfl⟩ := hk2
  have hX := valA_lt g1
  have a1 := prop_ok g1.1 g2
  have a2 := prop_ok g1.1 g3
  rcases h0 with ⟨-, e0, f0⟩ | ⟨hn, -, -⟩
  · rcases h1 with ⟨-, e1, f1⟩ | ⟨hn, -, -⟩
    · rcases h2 with ⟨-, e2, f2⟩ | ⟨hn, -, -⟩
      · rw [valA_prop g1.1] at e1 e2
        subst e0 e1 e2
        have k1 := Int.ediv_mul_add_emod (valA us xs) n
        have k2 := Int.emod_nonneg (valA us xs) (b := n) (by omega)
        have k3 := Int.emod_lt_of_pos (valA us xs) (b := n) (by omega)
        have k4 : 0 ≤ valA us xs / n * n := Int.mul_nonneg g2.1 (by omega)
        generalize valA us xs / n * n = P at k1 k4 ⊢
        refine ⟨⟨f0, f1, f2⟩, ?_, ?_, k2, k3⟩
        · rw [IntKind.wrap_i64]; omega
        · rw [k1, IntKind.wrap_i64]; omega
      · exact absurd a2 hn
    · exact absurd a1 hn
  · exact absurd g1 hn

set_option maxRecDepth 100000 in
set_option maxHeartbeats 25600000 in
theorem lawMeasures (w : World) (ad : Option Addr) (cp : Nat) (L : List UInt8) (h : SlR w (.slice ad L.length cp) (L.map fun c => .int .u8 (c.toNat : Int))) :
    Calls Try.prog 4 #[.slice ad L.length cp] w fun e w' => e = .returned (.bool true) ∧ Below w.heap.size w w' := by
  have hm : L.length ≤ 9223372036854775807 := by
    obtain ⟨a, c, e, ⟨m, _⟩, _⟩ := h
    rw [List.length_map] at m
    exact m
  have HB0 : Hid (Below w.heap.size w w) := Lib.hid (Below.refl _ _)
  have HRk0 := Lib.hid (h)
  clear h
  by_cases hbig : (65536 : Int) < (L.length : Int)
  · go_enter Try.func4, Try.ntmps4
    go_wp2_with fail
    refine (rBig_any ad L.length cp _ true (decide_eq_true hbig)).mono ?_
    rintro e w' ⟨rfl, hw⟩
    subst w'
    go_wp2_with fail
    go_ret
    exact ⟨rfl, Below.refl _ _⟩
  · go_enter Try.func4, Try.ntmps4
    go_wp2_with fail
    refine (rBig_any ad L.length cp _ false (decide_eq_false (by omega))).mono ?_
    rintro e w' ⟨rfl, hw⟩
    subst w'
    go_wp2_with fail
    refine (drawProperOf_any _ L _ HRk0.out).mono ?_
    rintro e w1 ⟨⟨v, us1, z, rfl, hv, ⟨hl, hnm⟩, hz0, hz1⟩, hb⟩
    have HB1 : Hid (Below w.heap.size w w1) := Lib.hid (HB0.out.trans (hb.mono HB0.out.size))
    have HZ1 : Hid (w.heap.size ≤ w1.heap.size) := Lib.hid hb.size
    have HRk1 := Lib.hid (HRk0.out.below HB1.out (Nat.le_refl _))
    clear hb
    obtain ⟨qs1, ks1, rfl⟩ := hv.form
    have HRs1 := Lib.hid (hv)
    have HBs1_1 : Hid (Below w1.heap.size w1 w1) := Lib.hid (Below.refl _ _)
    clear hv
    have HSZ1 := Lib.hid (nm_small hnm)
    clear hl hnm
    obtain ⟨ps1, r1, x1, b1, m1, hk, hv1, hm, hT⟩ := ms_prop us1 z
    have HK1 := Lib.hid hk
    have HV1 := Lib.hid hv1
    have HM1 := Lib.hid hm
    have HT1 := Lib.hid hT
    clear hk hv1 hm hT
    have HZ1 : Hid (-9223372036854775808 ≤ z ∧ z ≤ 9223372036854775807) := Lib.hid (by omega)
    clear hz0 hz1
    have e1 : (r1 != r1) = false := by simp
    have g1 : (z != z) = false := by simp
    go_wp2_with fail
    refine (iProper_any _ us1 z _ HRs1.out HSZ1.out HZ1.out ps1 r1 HK1.out).mono ?_
    rintro e w2 ⟨⟨t, rfl, ho⟩, hb⟩
    have HB2 : Hid (Below w.heap.size w w2) := Lib.hid (HB1.out.trans (hb.mono HB1.out.size))
    have HZ2 : Hid (w1.heap.size ≤ w2.heap.size) := Lib.hid hb.size
    have HRk2 := Lib.hid (HRk0.out.below HB2.out (Nat.le_refl _))
    have HRs2 := Lib.hid (HRs1.out.below hb (Nat.le_refl _))
    have HBs1_2 : Hid (Below w1.heap.size w1 w2) := Lib.hid (HBs1_1.out.trans (hb.mono HBs1_1.out.size))
    clear hb
    obtain ⟨q10, k10, rfl⟩ : ∃ a c, t = .slice a ps1.length c := ho.form
    have HRo2 := Lib.hid (ho.reads)
    have HBs2_2 : Hid (Below w2.heap.size w2 w2) := Lib.hid (Below.refl _ _)
    clear ho
    go_wp2_with fail
    have hb : Below w2.heap.size w2 (w2.alloc (.cells #[.slice q10 ps1.length k10] 50)) := (Below.refl _ _).alloc (Nat.le_refl _) _
    have hk : (w2.alloc (.cells #[.slice q10 ps1.length k10] 50)).heap[w2.heap.size]? = some (.cells #[.slice q10 ps1.length k10] 50 (0, 0)) := alloc_at rfl
    have hz : (w2.alloc (.cells #[.slice q10 ps1.length k10] 50)).heap.size = w2.heap.size + 1 := by simp
    generalize w2.alloc (.cells #[.slice q10 ps1.length k10] 50) = w3 at hb hk hz ⊢
    have HB3 : Hid (Below w.heap.size w w3) := Lib.hid (HB2.out.trans (hb.mono HB2.out.size))
    have HZ3 : Hid (w2.heap.size ≤ w3.heap.size) := Lib.hid hb.size
    have HRk3 := Lib.hid (HRk0.out.below HB3.out (Nat.le_refl _))
    have HRs3 := Lib.hid (HRs2.out.below hb (Nat.le_refl _))
    have HRo3 := Lib.hid (HRo2.out.below hb (Nat.le_refl _))
    have HBs1_3 : Hid (Below w1.heap.size w1 w3) := Lib.hid (HBs1_2.out.trans (hb.mono HBs1_2.out.size))
    have HBs2_3 : Hid (Below w2.heap.size w2 w3) := Lib.hid (HBs2_2.out.trans (hb.mono HBs2_2.out.size))
    have HKb103 := Lib.hid hk
    replace HZ3 : Hid (w2.heap.size < w3.heap.size) := Lib.hid (by omega)
    have HE3 := Lib.hid hz
    clear hb hk hz
    refine (sProper_any _ us1 z _ HRs3.out HSZ1.out HZ1.out.2 ps1 r1 HK1.out).mono ?_
    rintro e w4 ⟨⟨t, rfl, ho⟩, hb⟩
    have HB4 : Hid (Below w.heap.size w w4) := Lib.hid (HB3.out.trans (hb.mono HB3.out.size))
    have HZ4 : Hid (w3.heap.size ≤ w4.heap.size) := Lib.hid hb.size
    have HRk4 := Lib.hid (HRk0.out.below HB4.out (Nat.le_refl _))
    have HRs4 := Lib.hid (HRs3.out.below hb (Nat.le_refl _))
    have HRo4 := Lib.hid (HRo3.out.below hb (Nat.le_refl _))
    have HKb104 := Lib.hid ((hb.block _ (lt_of_block HKb103.out)).trans HKb103.out)
    have HBs1_4 : Hid (Below w1.heap.size w1 w4) := Lib.hid (HBs1_3.out.trans (hb.mono HBs1_3.out.size))
    have HBs2_4 : Hid (Below w2.heap.size w2 w4) := Lib.hid (HBs2_3.out.trans (hb.mono HBs2_3.out.size))
    clear hb
    obtain ⟨q11, k11, rfl⟩ : ∃ a c, t = .slice a ps1.length c := ho.form
    have HRp4 := Lib.hid (ho.reads)
    have HBs4_4 : Hid (Below w4.heap.size w4 w4) := Lib.hid (Below.refl _ _)
    clear ho
    have ltb10 := lt_of_block HKb104.out
    obtain ⟨cb100, fb100⟩ := cell1 HKb104.out
    go_wp2_with fail
    have hb : Below w4.heap.size w4 (w4.alloc (.cells #[.slice q11 ps1.length k11] 50)) := (Below.refl _ _).alloc (Nat.le_refl _) _
    have hk : (w4.alloc (.cells #[.slice q11 ps1.length k11] 50)).heap[w4.heap.size]? = some (.cells #[.slice q11 ps1.length k11] 50 (0, 0)) := alloc_at rfl
    have hz : (w4.alloc (.cells #[.slice q11 ps1.length k11] 50)).heap.size = w4.heap.size + 1 := by simp
    generalize w4.alloc (.cells #[.slice q11 ps1.length k11] 50) = w5 at hb hk hz ⊢
    have HB5 : Hid (Below w.heap.size w w5) := Lib.hid (HB4.out.trans (hb.mono HB4.out.size))
    have HZ5 : Hid (w4.heap.size ≤ w5.heap.size) := Lib.hid hb.size
    have HRk5 := Lib.hid (HRk0.out.below HB5.out (Nat.le_refl _))
    have HRs5 := Lib.hid (HRs4.out.below hb (Nat.le_refl _))
    have HRo5 := Lib.hid (HRo4.out.below hb (Nat.le_refl _))
    have HKb105 := Lib.hid ((hb.block _ (lt_of_block HKb104.out)).trans HKb104.out)
    have HRp5 := Lib.hid (HRp4.out.below hb (Nat.le_refl _))
    have HBs1_5 : Hid (Below w1.heap.size w1 w5) := Lib.hid (HBs1_4.out.trans (hb.mono HBs1_4.out.size))
    have HBs2_5 : Hid (Below w2.heap.size w2 w5) := Lib.hid (HBs2_4.out.trans (hb.mono HBs2_4.out.size))
    have HBs4_5 : Hid (Below w4.heap.size w4 w5) := Lib.hid (HBs4_4.out.trans (hb.mono HBs4_4.out.size))
    have HKb115 := Lib.hid hk
    replace HZ5 : Hid (w4.heap.size < w5.heap.size) := Lib.hid (by omega)
    have HE5 := Lib.hid hz
    clear hb hk hz
    refine (rAmount_yes _ _ ps1 _ HRo5.out HRp5.out).mono ?_
    rintro e w6 ⟨rfl, hb⟩
    have HB6 : Hid (Below w.heap.size w w6) := Lib.hid (HB5.out.trans (hb.mono HB5.out.size))
    have HZ6 : Hid (w5.heap.size ≤ w6.heap.size) := Lib.hid hb.size
    have HRk6 := Lib.hid (HRk0.out.below HB6.out (Nat.le_refl _))
    have HRs6 := Lib.hid (HRs5.out.below hb (Nat.le_refl _))
    have HRo6 := Lib.hid (HRo5.out.below hb (Nat.le_refl _))
    have HKb106 := Lib.hid ((hb.block _ (lt_of_block HKb105.out)).trans HKb105.out)
    have HRp6 := Lib.hid (HRp5.out.below hb (Nat.le_refl _))
    have HKb116 := Lib.hid ((hb.block _ (lt_of_block HKb115.out)).trans HKb115.out)
    have HBs1_6 : Hid (Below w1.heap.size w1 w6) := Lib.hid (HBs1_5.out.trans (hb.mono HBs1_5.out.size))
    have HBs2_6 : Hid (Below w2.heap.size w2 w6) := Lib.hid (HBs2_5.out.trans (hb.mono HBs2_5.out.size))
    have HBs4_6 : Hid (Below w4.heap.size w4 w6) := Lib.hid (HBs4_5.out.trans (hb.mono HBs4_5.out.size))
    clear hb
    clear cb100 fb100 ltb10
    have ltb10 := lt_of_block HKb106.out
    obtain ⟨cb100, fb100⟩ := cell1 HKb106.out
    go_wp2_with fail
    refine (iVal_any _ _ us1 ps1 _ HRs6.out HSZ1.out HRo6.out x1 b1 HV1.out).mono ?_
    rintro e w7 ⟨rfl, hb⟩
    have HB7 : Hid (Below w.heap.size w w7) := Lib.hid (HB6.out.trans (hb.mono HB6.out.size))
    have HZ7 : Hid (w6.heap.size ≤ w7.heap.size) := Lib.hid hb.size
    have HRk7 := Lib.hid (HRk0.out.below HB7.out (Nat.le_refl _))
    have HRs7 := Lib.hid (HRs6.out.below hb (Nat.le_refl _))
    have HRo7 := Lib.hid (HRo6.out.below hb (Nat.le_refl _))
    have HKb107 := Lib.hid ((hb.block _ (lt_of_block HKb106.out)).trans HKb106.out)
    have HBs1_7 : Hid (Below w1.heap.size w1 w7) := Lib.hid (HBs1_6.out.trans (hb.mono HBs1_6.out.size))
    have HBs2_7 : Hid (Below w2.heap.size w2 w7) := Lib.hid (HBs2_6.out.trans (hb.mono HBs2_6.out.size))
    clear hb
    cases r1 with
    | true =>
      obtain ⟨rfl, rfl, rfl⟩ := HT1.out rfl
      clear cb100 fb100 ltb10
      have ltb10 := lt_of_block HKb107.out
      obtain ⟨cb100, fb100⟩ := cell1 HKb107.out
      go_wp2_with fail
      refine (iAm_any _ _ us1 ps1 _ HRs7.out HSZ1.out HRo7.out true (by have h9 := HM1.out; simpa using h9)).mono ?_
      rintro e w8 ⟨rfl, hb⟩
      have HB8 : Hid (Below w.heap.size w w8) := Lib.hid (HB7.out.trans (hb.mono HB7.out.size))
      have HZ8 : Hid (w7.heap.size ≤ w8.heap.size) := Lib.hid hb.size
      have HRk8 := Lib.hid (HRk0.out.below HB8.out (Nat.le_refl _))
      have HRs8 := Lib.hid (HRs7.out.below hb (Nat.le_refl _))
      have HRo8 := Lib.hid (HRo7.out.below hb (Nat.le_refl _))
      have HKb108 := Lib.hid ((hb.block _ (lt_of_block HKb107.out)).trans HKb107.out)
      have HBs1_8 : Hid (Below w1.heap.size w1 w8) := Lib.hid (HBs1_7.out.trans (hb.mono HBs1_7.out.size))
      have HBs2_8 : Hid (Below w2.heap.size w2 w8) := Lib.hid (HBs2_7.out.trans (hb.mono HBs2_7.out.size))
      clear hb
      clear cb100 fb100 ltb10
      have ltb10 := lt_of_block HKb108.out
      obtain ⟨cb100, fb100⟩ := cell1 HKb108.out
      go_wp2_with fail
      refine (drawSumOf_any _ L _ HRk8.out).mono ?_
      rintro e w9 ⟨⟨v, x, y, us2, xs2, ys2, rfl, hv, hx, hy, ⟨hl, hnm⟩, hxl, hyl⟩, hb⟩
      have HB9 : Hid (Below w.heap.size w w9) := Lib.hid (HB8.out.trans (hb.mono HB8.out.size))
      have HZ9 : Hid (w8.heap.size ≤ w9.heap.size) := Lib.hid hb.size
      have HRk9 := Lib.hid (HRk0.out.below HB9.out (Nat.le_refl _))
      clear hb
      obtain ⟨qs2, ks2, rfl⟩ := own_form hv
      have HRs9 := Lib.hid ((RowsR.of_own unC_len hv))
      have HBs9_9 : Hid (Below w9.heap.size w9 w9) := Lib.hid (Below.refl _ _)
      clear hv
      have HSZ2 := Lib.hid (nm_small hnm)
      clear hl hnm
      obtain ⟨q20, k20, rfl⟩ := own_form hx
      have HRx9 := Lib.hid ((RowsR.of_own inC_len hx))
      clear hx
      obtain ⟨q21, k21, rfl⟩ := own_form hy
      have HRy9 := Lib.hid ((RowsR.of_own inC_len hy))
      clear hy
      clear hxl hyl
      obtain ⟨qs2, r2, ds2, d2, x1, b1, x2, b2, hk, hd, hv1, hv2, hT⟩ := ms_sum us2 xs2 ys2
      have HK2 := Lib.hid hk
      have HD2 := Lib.hid hd
      have HV21 := Lib.hid hv1
      have HV22 := Lib.hid hv2
      have HT2 := Lib.hid hT
      clear hk hd hv1 hv2 hT
      have e2 : (r2 != r2) = false := by simp
      clear cb100 fb100 ltb10
      go_wp2_with fail
      have hb : Below w9.heap.size w9 (w9.alloc (.cells #[.slice q20 xs2.length k20] 50)) := (Below.refl _ _).alloc (Nat.le_refl _) _
      have hk : (w9.alloc (.cells #[.slice q20 xs2.length k20] 50)).heap[w9.heap.size]? = some (.cells #[.slice q20 xs2.length k20] 50 (0, 0)) := alloc_at rfl
      have hz : (w9.alloc (.cells #[.slice q20 xs2.length k20] 50)).heap.size = w9.heap.size + 1 := by simp
      generalize w9.alloc (.cells #[.slice q20 xs2.length k20] 50) = w10 at hb hk hz ⊢
      have HB10 : Hid (Below w.heap.size w w10) := Lib.hid (HB9.out.trans (hb.mono HB9.out.size))
      have HZ10 : Hid (w9.heap.size ≤ w10.heap.size) := Lib.hid hb.size
      have HRk10 := Lib.hid (HRk0.out.below HB10.out (Nat.le_refl _))
      have HRs10 := Lib.hid (HRs9.out.below hb (Nat.le_refl _))
      have HRx10 := Lib.hid (HRx9.out.below hb (Nat.le_refl _))
      have HRy10 := Lib.hid (HRy9.out.below hb (Nat.le_refl _))
      have HBs9_10 : Hid (Below w9.heap.size w9 w10) := Lib.hid (HBs9_9.out.trans (hb.mono HBs9_9.out.size))
      have HKb2010 := Lib.hid hk
      replace HZ10 : Hid (w9.heap.size < w10.heap.size) := Lib.hid (by omega)
      have HE10 := Lib.hid hz
      clear hb hk hz
      have hb : Below w10.heap.size w10 (w10.alloc (.cells #[.slice q21 ys2.length k21] 50)) := (Below.refl _ _).alloc (Nat.le_refl _) _
      have hk : (w10.alloc (.cells #[.slice q21 ys2.length k21] 50)).heap[w9.heap.size + 1]? = some (.cells #[.slice q21 ys2.length k21] 50 (0, 0)) := alloc_at (by have := HE3.out; have := HE5.out; have := HE10.out; omega)
      have hz : (w10.alloc (.cells #[.slice q21 ys2.length k21] 50)).heap.size = w10.heap.size + 1 := by simp
      generalize w10.alloc (.cells #[.slice q21 ys2.length k21] 50) = w11 at hb hk hz ⊢
      have HB11 : Hid (Below w.heap.size w w11) := Lib.hid (HB10.out.trans (hb.mono HB10.out.size))
      have HZ11 : Hid (w10.heap.size ≤ w11.heap.size) := Lib.hid hb.size
      have HRk11 := Lib.hid (HRk0.out.below HB11.out (Nat.le_refl _))
      have HRs11 := Lib.hid (HRs10.out.below hb (Nat.le_refl _))
      have HRx11 := Lib.hid (HRx10.out.below hb (Nat.le_refl _))
      have HRy11 := Lib.hid (HRy10.out.below hb (Nat.le_refl _))
      have HKb2011 := Lib.hid ((hb.block _ (lt_of_block HKb2010.out)).trans HKb2010.out)
      have HBs9_11 : Hid (Below w9.heap.size w9 w11) := Lib.hid (HBs9_10.out.trans (hb.mono HBs9_10.out.size))
      have HKb2111 := Lib.hid hk
      replace HZ11 : Hid (w10.heap.size < w11.heap.size) := Lib.hid (by omega)
      have HE11 := Lib.hid hz
      clear hb hk hz
      refine (iSumOf_any _ _ _ us2 xs2 ys2 _ HRs11.out HSZ2.out HRx11.out HRy11.out qs2 r2 HK2.out).mono ?_
      rintro e w12 ⟨⟨t, rfl, ho⟩, hb⟩
      have HB12 : Hid (Below w.heap.size w w12) := Lib.hid (HB11.out.trans (hb.mono HB11.out.size))
      have HZ12 : Hid (w11.heap.size ≤ w12.heap.size) := Lib.hid hb.size
      have HRk12 := Lib.hid (HRk0.out.below HB12.out (Nat.le_refl _))
      have HRs12 := Lib.hid (HRs11.out.below hb (Nat.le_refl _))
      have HRx12 := Lib.hid (HRx11.out.below hb (Nat.le_refl _))
      have HRy12 := Lib.hid (HRy11.out.below hb (Nat.le_refl _))
      have HKb2012 := Lib.hid ((hb.block _ (lt_of_block HKb2011.out)).trans HKb2011.out)
      have HKb2112 := Lib.hid ((hb.block _ (lt_of_block HKb2111.out)).trans HKb2111.out)
      have HBs9_12 : Hid (Below w9.heap.size w9 w12) := Lib.hid (HBs9_11.out.trans (hb.mono HBs9_11.out.size))
      clear hb
      obtain ⟨q22, k22, rfl⟩ : ∃ a c, t = .slice a qs2.length c := ho.form
      have HRo12 := Lib.hid (ho.reads)
      have HBs12_12 : Hid (Below w12.heap.size w12 w12) := Lib.hid (Below.refl _ _)
      clear ho
      have ltb20 := lt_of_block HKb2012.out
      obtain ⟨cb200, fb200⟩ := cell1 HKb2012.out
      have ltb21 := lt_of_block HKb2112.out
      obtain ⟨cb210, fb210⟩ := cell1 HKb2112.out
      go_wp2_with fail
      have hb : Below w12.heap.size w12 (w12.alloc (.cells #[.slice q22 qs2.length k22] 50)) := (Below.refl _ _).alloc (Nat.le_refl _) _
      have hk : (w12.alloc (.cells #[.slice q22 qs2.length k22] 50)).heap[w12.heap.size]? = some (.cells #[.slice q22 qs2.length k22] 50 (0, 0)) := alloc_at rfl
      have hz : (w12.alloc (.cells #[.slice q22 qs2.length k22] 50)).heap.size = w12.heap.size + 1 := by simp
      generalize w12.alloc (.cells #[.slice q22 qs2.length k22] 50) = w13 at hb hk hz ⊢
      have HB13 : Hid (Below w.heap.size w w13) := Lib.hid (HB12.out.trans (hb.mono HB12.out.size))
      have HZ13 : Hid (w12.heap.size ≤ w13.heap.size) := Lib.hid hb.size
      have HRk13 := Lib.hid (HRk0.out.below HB13.out (Nat.le_refl _))
      have HRs13 := Lib.hid (HRs12.out.below hb (Nat.le_refl _))
      have HRx13 := Lib.hid (HRx12.out.below hb (Nat.le_refl _))
      have HRy13 := Lib.hid (HRy12.out.below hb (Nat.le_refl _))
      have HKb2013 := Lib.hid ((hb.block _ (lt_of_block HKb2012.out)).trans HKb2012.out)
      have HKb2113 := Lib.hid ((hb.block _ (lt_of_block HKb2112.out)).trans HKb2112.out)
      have HRo13 := Lib.hid (HRo12.out.below hb (Nat.le_refl _))
      have HBs9_13 : Hid (Below w9.heap.size w9 w13) := Lib.hid (HBs9_12.out.trans (hb.mono HBs9_12.out.size))
      have HBs12_13 : Hid (Below w12.heap.size w12 w13) := Lib.hid (HBs12_12.out.trans (hb.mono HBs12_12.out.size))
      have HKb2213 := Lib.hid hk
      replace HZ13 : Hid (w12.heap.size < w13.heap.size) := Lib.hid (by omega)
      have HE13 := Lib.hid hz
      clear hb hk hz
      refine (sSumOf_any _ _ _ us2 xs2 ys2 _ HRs13.out HSZ2.out HRx13.out HRy13.out qs2 r2 HK2.out).mono ?_
      rintro e w14 ⟨⟨t, rfl, ho⟩, hb⟩
      have HB14 : Hid (Below w.heap.size w w14) := Lib.hid (HB13.out.trans (hb.mono HB13.out.size))
      have HZ14 : Hid (w13.heap.size ≤ w14.heap.size) := Lib.hid hb.size
      have HRk14 := Lib.hid (HRk0.out.below HB14.out (Nat.le_refl _))
      have HRs14 := Lib.hid (HRs13.out.below hb (Nat.le_refl _))
      have HRx14 := Lib.hid (HRx13.out.below hb (Nat.le_refl _))
      have HRy14 := Lib.hid (HRy13.out.below hb (Nat.le_refl _))
      have HKb2014 := Lib.hid ((hb.block _ (lt_of_block HKb2013.out)).trans HKb2013.out)
      have HKb2114 := Lib.hid ((hb.block _ (lt_of_block HKb2113.out)).trans HKb2113.out)
      have HRo14 := Lib.hid (HRo13.out.below hb (Nat.le_refl _))
      have HKb2214 := Lib.hid ((hb.block _ (lt_of_block HKb2213.out)).trans HKb2213.out)
      have HBs9_14 : Hid (Below w9.heap.size w9 w14) := Lib.hid (HBs9_13.out.trans (hb.mono HBs9_13.out.size))
      have HBs12_14 : Hid (Below w12.heap.size w12 w14) := Lib.hid (HBs12_13.out.trans (hb.mono HBs12_13.out.size))
      clear hb
      obtain ⟨q23, k23, rfl⟩ : ∃ a c, t = .slice a qs2.length c := ho.form
      have HRp14 := Lib.hid (ho.reads)
      have HBs14_14 : Hid (Below w14.heap.size w14 w14) := Lib.hid (Below.refl _ _)
      clear ho
      clear cb200 fb200 ltb20 cb210 fb210 ltb21
      have ltb20 := lt_of_block HKb2014.out
      obtain ⟨cb200, fb200⟩ := cell1 HKb2014.out
      have ltb21 := lt_of_block HKb2114.out
      obtain ⟨cb210, fb210⟩ := cell1 HKb2114.out
      have ltb22 := lt_of_block HKb2214.out
      obtain ⟨cb220, fb220⟩ := cell1 HKb2214.out
      go_wp2_with fail
      have hb : Below w14.heap.size w14 (w14.alloc (.cells #[.slice q23 qs2.length k23] 50)) := (Below.refl _ _).alloc (Nat.le_refl _) _
      have hk : (w14.alloc (.cells #[.slice q23 qs2.length k23] 50)).heap[w14.heap.size]? = some (.cells #[.slice q23 qs2.length k23] 50 (0, 0)) := alloc_at rfl
      have hz : (w14.alloc (.cells #[.slice q23 qs2.length k23] 50)).heap.size = w14.heap.size + 1 := by simp
      generalize w14.alloc (.cells #[.slice q23 qs2.length k23] 50) = w15 at hb hk hz ⊢
      have HB15 : Hid (Below w.heap.size w w15) := Lib.hid (HB14.out.trans (hb.mono HB14.out.size))
      have HZ15 : Hid (w14.heap.size ≤ w15.heap.size) := Lib.hid hb.size
      have HRk15 := Lib.hid (HRk0.out.below HB15.out (Nat.le_refl _))
      have HRs15 := Lib.hid (HRs14.out.below hb (Nat.le_refl _))
      have HRx15 := Lib.hid (HRx14.out.below hb (Nat.le_refl _))
      have HRy15 := Lib.hid (HRy14.out.below hb (Nat.le_refl _))
      have HKb2015 := Lib.hid ((hb.block _ (lt_of_block HKb2014.out)).trans HKb2014.out)
      have HKb2115 := Lib.hid ((hb.block _ (lt_of_block HKb2114.out)).trans HKb2114.out)
      have HRo15 := Lib.hid (HRo14.out.below hb (Nat.le_refl _))
      have HKb2215 := Lib.hid ((hb.block _ (lt_of_block HKb2214.out)).trans HKb2214.out)
      have HRp15 := Lib.hid (HRp14.out.below hb (Nat.le_refl _))
      have HBs9_15 : Hid (Below w9.heap.size w9 w15) := Lib.hid (HBs9_14.out.trans (hb.mono HBs9_14.out.size))
      have HBs12_15 : Hid (Below w12.heap.size w12 w15) := Lib.hid (HBs12_14.out.trans (hb.mono HBs12_14.out.size))
      have HBs14_15 : Hid (Below w14.heap.size w14 w15) := Lib.hid (HBs14_14.out.trans (hb.mono HBs14_14.out.size))
      have HKb2315 := Lib.hid hk
      replace HZ15 : Hid (w14.heap.size < w15.heap.size) := Lib.hid (by omega)
      have HE15 := Lib.hid hz
      clear hb hk hz
      refine (rAmount_yes _ _ qs2 _ HRo15.out HRp15.out).mono ?_
      rintro e w16 ⟨rfl, hb⟩
      have HB16 : Hid (Below w.heap.size w w16) := Lib.hid (HB15.out.trans (hb.mono HB15.out.size))
      have HZ16 : Hid (w15.heap.size ≤ w16.heap.size) := Lib.hid hb.size
      have HRk16 := Lib.hid (HRk0.out.below HB16.out (Nat.le_refl _))
      have HRs16 := Lib.hid (HRs15.out.below hb (Nat.le_refl _))
      have HRx16 := Lib.hid (HRx15.out.below hb (Nat.le_refl _))
      have HRy16 := Lib.hid (HRy15.out.below hb (Nat.le_refl _))
      have HKb2016 := Lib.hid ((hb.block _ (lt_of_block HKb2015.out)).trans HKb2015.out)
      have HKb2116 := Lib.hid ((hb.block _ (lt_of_block HKb2115.out)).trans HKb2115.out)
      have HRo16 := Lib.hid (HRo15.out.below hb (Nat.le_refl _))
      have HKb2216 := Lib.hid ((hb.block _ (lt_of_block HKb2215.out)).trans HKb2215.out)
      have HRp16 := Lib.hid (HRp15.out.below hb (Nat.le_refl _))
      have HKb2316 := Lib.hid ((hb.block _ (lt_of_block HKb2315.out)).trans HKb2315.out)
      have HBs9_16 : Hid (Below w9.heap.size w9 w16) := Lib.hid (HBs9_15.out.trans (hb.mono HBs9_15.out.size))
      have HBs12_16 : Hid (Below w12.heap.size w12 w16) := Lib.hid (HBs12_15.out.trans (hb.mono HBs12_15.out.size))
      have HBs14_16 : Hid (Below w14.heap.size w14 w16) := Lib.hid (HBs14_15.out.trans (hb.mono HBs14_15.out.size))
      clear hb
      cases r2 with
      | true =>
        obtain ⟨rfl, rfl, rfl, rfl⟩ := HT2.out rfl
        have g1 : (x2 != x2) = false := by simp
        clear cb200 fb200 ltb20 cb210 fb210 ltb21 cb220 fb220 ltb22
        have ltb20 := lt_of_block HKb2016.out
        obtain ⟨cb200, fb200⟩ := cell1 HKb2016.out
        have ltb21 := lt_of_block HKb2116.out
        obtain ⟨cb210, fb210⟩ := cell1 HKb2116.out
        have ltb22 := lt_of_block HKb2216.out
        obtain ⟨cb220, fb220⟩ := cell1 HKb2216.out
        go_wp2_with fail
        refine (iDifferenceOf_any _ _ _ us2 qs2 ys2 _ HRs16.out HSZ2.out HRo16.out HRy16.out ds2 true HD2.out).mono ?_
        rintro e w17 ⟨⟨t, rfl, ho⟩, hb⟩
        have HB17 : Hid (Below w.heap.size w w17) := Lib.hid (HB16.out.trans (hb.mono HB16.out.size))
        have HZ17 : Hid (w16.heap.size ≤ w17.heap.size) := Lib.hid hb.size
        have HRk17 := Lib.hid (HRk0.out.below HB17.out (Nat.le_refl _))
        have HRs17 := Lib.hid (HRs16.out.below hb (Nat.le_refl _))
        have HRx17 := Lib.hid (HRx16.out.below hb (Nat.le_refl _))
        have HRy17 := Lib.hid (HRy16.out.below hb (Nat.le_refl _))
        have HKb2017 := Lib.hid ((hb.block _ (lt_of_block HKb2016.out)).trans HKb2016.out)
        have HKb2117 := Lib.hid ((hb.block _ (lt_of_block HKb2116.out)).trans HKb2116.out)
        have HRo17 := Lib.hid (HRo16.out.below hb (Nat.le_refl _))
        have HKb2217 := Lib.hid ((hb.block _ (lt_of_block HKb2216.out)).trans HKb2216.out)
        have HBs9_17 : Hid (Below w9.heap.size w9 w17) := Lib.hid (HBs9_16.out.trans (hb.mono HBs9_16.out.size))
        have HBs12_17 : Hid (Below w12.heap.size w12 w17) := Lib.hid (HBs12_16.out.trans (hb.mono HBs12_16.out.size))
        clear hb
        obtain ⟨q24, k24, rfl⟩ : ∃ a c, t = .slice a ds2.length c := ho.form
        have HRe17 := Lib.hid (ho.reads)
        have HBs17_17 : Hid (Below w17.heap.size w17 w17) := Lib.hid (Below.refl _ _)
        clear ho
        clear cb200 fb200 ltb20 cb210 fb210 ltb21 cb220 fb220 ltb22
        have ltb20 := lt_of_block HKb2017.out
        obtain ⟨cb200, fb200⟩ := cell1 HKb2017.out
        have ltb21 := lt_of_block HKb2117.out
        obtain ⟨cb210, fb210⟩ := cell1 HKb2117.out
        have ltb22 := lt_of_block HKb2217.out
        obtain ⟨cb220, fb220⟩ := cell1 HKb2217.out
        go_wp2_with fail
        have hb : Below w17.heap.size w17 (w17.alloc (.cells #[.slice q24 ds2.length k24] 50)) := (Below.refl _ _).alloc (Nat.le_refl _) _
        have hk : (w17.alloc (.cells #[.slice q24 ds2.length k24] 50)).heap[w17.heap.size]? = some (.cells #[.slice q24 ds2.length k24] 50 (0, 0)) := alloc_at rfl
        have hz : (w17.alloc (.cells #[.slice q24 ds2.length k24] 50)).heap.size = w17.heap.size + 1 := by simp
        generalize w17.alloc (.cells #[.slice q24 ds2.length k24] 50) = w18 at hb hk hz ⊢
        have HB18 : Hid (Below w.heap.size w w18) := Lib.hid (HB17.out.trans (hb.mono HB17.out.size))
        have HZ18 : Hid (w17.heap.size ≤ w18.heap.size) := Lib.hid hb.size
        have HRk18 := Lib.hid (HRk0.out.below HB18.out (Nat.le_refl _))
        have HRs18 := Lib.hid (HRs17.out.below hb (Nat.le_refl _))
        have HRx18 := Lib.hid (HRx17.out.below hb (Nat.le_refl _))
        have HRy18 := Lib.hid (HRy17.out.below hb (Nat.le_refl _))
        have HKb2018 := Lib.hid ((hb.block _ (lt_of_block HKb2017.out)).trans HKb2017.out)
        have HKb2118 := Lib.hid ((hb.block _ (lt_of_block HKb2117.out)).trans HKb2117.out)
        have HRo18 := Lib.hid (HRo17.out.below hb (Nat.le_refl _))
        have HKb2218 := Lib.hid ((hb.block _ (lt_of_block HKb2217.out)).trans HKb2217.out)
        have HRe18 := Lib.hid (HRe17.out.below hb (Nat.le_refl _))
        have HBs9_18 : Hid (Below w9.heap.size w9 w18) := Lib.hid (HBs9_17.out.trans (hb.mono HBs9_17.out.size))
        have HBs12_18 : Hid (Below w12.heap.size w12 w18) := Lib.hid (HBs12_17.out.trans (hb.mono HBs12_17.out.size))
        have HBs17_18 : Hid (Below w17.heap.size w17 w18) := Lib.hid (HBs17_17.out.trans (hb.mono HBs17_17.out.size))
        have HKb2418 := Lib.hid hk
        replace HZ18 : Hid (w17.heap.size < w18.heap.size) := Lib.hid (by omega)
        have HE18 := Lib.hid hz
        clear hb hk hz
        refine (iVal_any _ _ us2 xs2 _ HRs18.out HSZ2.out HRx18.out _ true HV21.out).mono ?_
        rintro e w19 ⟨rfl, hb⟩
        have HB19 : Hid (Below w.heap.size w w19) := Lib.hid (HB18.out.trans (hb.mono HB18.out.size))
        have HZ19 : Hid (w18.heap.size ≤ w19.heap.size) := Lib.hid hb.size
        have HRk19 := Lib.hid (HRk0.out.below HB19.out (Nat.le_refl _))
        have HRs19 := Lib.hid (HRs18.out.below hb (Nat.le_refl _))
        have HRx19 := Lib.hid (HRx18.out.below hb (Nat.le_refl _))
        have HRy19 := Lib.hid (HRy18.out.below hb (Nat.le_refl _))
        have HKb2019 := Lib.hid ((hb.block _ (lt_of_block HKb2018.out)).trans HKb2018.out)
        have HKb2119 := Lib.hid ((hb.block _ (lt_of_block HKb2118.out)).trans HKb2118.out)
        have HRo19 := Lib.hid (HRo18.out.below hb (Nat.le_refl _))
        have HKb2219 := Lib.hid ((hb.block _ (lt_of_block HKb2218.out)).trans HKb2218.out)
        have HRe19 := Lib.hid (HRe18.out.below hb (Nat.le_refl _))
        have HKb2419 := Lib.hid ((hb.block _ (lt_of_block HKb2418.out)).trans HKb2418.out)
        have HBs9_19 : Hid (Below w9.heap.size w9 w19) := Lib.hid (HBs9_18.out.trans (hb.mono HBs9_18.out.size))
        have HBs12_19 : Hid (Below w12.heap.size w12 w19) := Lib.hid (HBs12_18.out.trans (hb.mono HBs12_18.out.size))
        have HBs17_19 : Hid (Below w17.heap.size w17 w19) := Lib.hid (HBs17_18.out.trans (hb.mono HBs17_18.out.size))
        clear hb
        clear cb200 fb200 ltb20 cb210 fb210 ltb21 cb220 fb220 ltb22
        have ltb20 := lt_of_block HKb2019.out
        obtain ⟨cb200, fb200⟩ := cell1 HKb2019.out
        have ltb21 := lt_of_block HKb2119.out
        obtain ⟨cb210, fb210⟩ := cell1 HKb2119.out
        have ltb22 := lt_of_block HKb2219.out
        obtain ⟨cb220, fb220⟩ := cell1 HKb2219.out
        have ltb24 := lt_of_block HKb2419.out
        obtain ⟨cb240, fb240⟩ := cell1 HKb2419.out
        go_wp2_with fail
        refine (iVal_any _ _ us2 ds2 _ HRs19.out HSZ2.out HRe19.out _ true HV22.out).mono ?_
        rintro e w20 ⟨rfl, hb⟩
        have HB20 : Hid (Below w.heap.size w w20) := Lib.hid (HB19.out.trans (hb.mono HB19.out.size))
        have HZ20 : Hid (w19.heap.size ≤ w20.heap.size) := Lib.hid hb.size
        have HRk20 := Lib.hid (HRk0.out.below HB20.out (Nat.le_refl _))
        have HRs20 := Lib.hid (HRs19.out.below hb (Nat.le_refl _))
        have HRx20 := Lib.hid (HRx19.out.below hb (Nat.le_refl _))
        have HRy20 := Lib.hid (HRy19.out.below hb (Nat.le_refl _))
        have HKb2020 := Lib.hid ((hb.block _ (lt_of_block HKb2019.out)).trans HKb2019.out)
        have HKb2120 := Lib.hid ((hb.block _ (lt_of_block HKb2119.out)).trans HKb2119.out)
        have HRo20 := Lib.hid (HRo19.out.below hb (Nat.le_refl _))
        have HKb2220 := Lib.hid ((hb.block _ (lt_of_block HKb2219.out)).trans HKb2219.out)
        have HRe20 := Lib.hid (HRe19.out.below hb (Nat.le_refl _))
        have HKb2420 := Lib.hid ((hb.block _ (lt_of_block HKb2419.out)).trans HKb2419.out)
        have HBs9_20 : Hid (Below w9.heap.size w9 w20) := Lib.hid (HBs9_19.out.trans (hb.mono HBs9_19.out.size))
        have HBs12_20 : Hid (Below w12.heap.size w12 w20) := Lib.hid (HBs12_19.out.trans (hb.mono HBs12_19.out.size))
        have HBs17_20 : Hid (Below w17.heap.size w17 w20) := Lib.hid (HBs17_19.out.trans (hb.mono HBs17_19.out.size))
        clear hb
        clear cb200 fb200 ltb20 cb210 fb210 ltb21 cb220 fb220 ltb22 cb240 fb240 ltb24
        have ltb20 := lt_of_block HKb2020.out
        obtain ⟨cb200, fb200⟩ := cell1 HKb2020.out
        have ltb21 := lt_of_block HKb2120.out
        obtain ⟨cb210, fb210⟩ := cell1 HKb2120.out
        have ltb22 := lt_of_block HKb2220.out
        obtain ⟨cb220, fb220⟩ := cell1 HKb2220.out
        have ltb24 := lt_of_block HKb2420.out
        obtain ⟨cb240, fb240⟩ := cell1 HKb2420.out
        go_wp2_with fail
        refine (drawPartOf_any _ L _ HRk20.out).mono ?_
        rintro e w21 ⟨⟨v, x, us3, xs3, n3, rfl, hv, hx, ⟨hl, hnm⟩, hxl, hz0, hz1⟩, hb⟩
        have HB21 : Hid (Below w.heap.size w w21) := Lib.hid (HB20.out.trans (hb.mono HB20.out.size))
        have HZ21 : Hid (w20.heap.size ≤ w21.heap.size) := Lib.hid hb.size
        have HRk21 := Lib.hid (HRk0.out.below HB21.out (Nat.le_refl _))
        clear hb
        obtain ⟨qs3, ks3, rfl⟩ := own_form hv
        have HRs21 := Lib.hid ((RowsR.of_own unC_len hv))
        have HBs21_21 : Hid (Below w21.heap.size w21 w21) := Lib.hid (Below.refl _ _)
        clear hv
        have HSZ3 := Lib.hid (nm_small hnm)
        clear hl hnm
        obtain ⟨q30, k30, rfl⟩ := own_form hx
        have HRx21 := Lib.hid ((RowsR.of_own inC_len hx))
        clear hx
        clear hxl
        obtain ⟨qa3, qb3, r3, x0, b0, x1, b1, x2, b2, hk, hv0, hv1, hv2, hT⟩ := ms_part us3 xs3 n3
        have HK3 := Lib.hid hk
        have HV30 := Lib.hid hv0
        have HV31 := Lib.hid hv1
        have HV32 := Lib.hid hv2
        have HT3 := Lib.hid hT
        clear hk hv0 hv1 hv2 hT
        have e3 : (r3 != r3) = false := by simp
        clear cb200 fb200 ltb20 cb210 fb210 ltb21 cb220 fb220 ltb22 cb240 fb240 ltb24
        go_wp2_with fail
        have hb : Below w21.heap.size w21 (w21.alloc (.cells #[.slice q30 xs3.length k30] 50)) := (Below.refl _ _).alloc (Nat.le_refl _) _
        have hk : (w21.alloc (.cells #[.slice q30 xs3.length k30] 50)).heap[w21.heap.size]? = some (.cells #[.slice q30 xs3.length k30] 50 (0, 0)) := alloc_at rfl
        have hz : (w21.alloc (.cells #[.slice q30 xs3.length k30] 50)).heap.size = w21.heap.size + 1 := by simp
        generalize w21.alloc (.cells #[.slice q30 xs3.length k30] 50) = w22 at hb hk hz ⊢
        have HB22 : Hid (Below w.heap.size w w22) := Lib.hid (HB21.out.trans (hb.mono HB21.out.size))
        have HZ22 : Hid (w21.heap.size ≤ w22.heap.size) := Lib.hid hb.size
        have HRk22 := Lib.hid (HRk0.out.below HB22.out (Nat.le_refl _))
        have HRs22 := Lib.hid (HRs21.out.below hb (Nat.le_refl _))
        have HRx22 := Lib.hid (HRx21.out.below hb (Nat.le_refl _))
        have HBs21_22 : Hid (Below w21.heap.size w21 w22) := Lib.hid (HBs21_21.out.trans (hb.mono HBs21_21.out.size))
        have HKb3022 := Lib.hid hk
        replace HZ22 : Hid (w21.heap.size < w22.heap.size) := Lib.hid (by omega)
        have HE22 := Lib.hid hz
        clear hb hk hz
        refine (iPartOf_any _ _ us3 xs3 n3 _ HRs22.out HSZ3.out HRx22.out qa3 qb3 r3 HK3.out).mono ?_
        rintro e w23 ⟨⟨t1, t2, rfl, ho⟩, hb⟩
        have HB23 : Hid (Below w.heap.size w w23) := Lib.hid (HB22.out.trans (hb.mono HB22.out.size))
        have HZ23 : Hid (w22.heap.size ≤ w23.heap.size) := Lib.hid hb.size
        have HRk23 := Lib.hid (HRk0.out.below HB23.out (Nat.le_refl _))
        have HRs23 := Lib.hid (HRs22.out.below hb (Nat.le_refl _))
        have HRx23 := Lib.hid (HRx22.out.below hb (Nat.le_refl _))
        have HKb3023 := Lib.hid ((hb.block _ (lt_of_block HKb3022.out)).trans HKb3022.out)
        have HBs21_23 : Hid (Below w21.heap.size w21 w23) := Lib.hid (HBs21_22.out.trans (hb.mono HBs21_22.out.size))
        clear hb
        obtain ⟨x1', y1', x2', y2', ho1, ho2, -⟩ := OwB.split ho (by have := HZ1.out; have := HZ2.out; have := HZ3.out; have := HZ4.out; have := HZ5.out; have := HZ6.out; have := HZ7.out; have := HZ8.out; have := HZ9.out; have := HZ10.out; have := HZ11.out; have := HZ12.out; have := HZ13.out; have := HZ14.out; have := HZ15.out; have := HZ16.out; have := HZ17.out; have := HZ18.out; have := HZ19.out; have := HZ20.out; have := HZ21.out; have := HZ22.out; have := HZ23.out;  omega)
        clear ho
        obtain ⟨q31, k31, rfl⟩ : ∃ a c, t1 = .slice a qa3.length c := ho1.form
        obtain ⟨q32, k32, rfl⟩ : ∃ a c, t2 = .slice a qb3.length c := ho2.form
        have HRo23 := Lib.hid (ho1.reads)
        have HBs23_23 : Hid (Below w23.heap.size w23 w23) := Lib.hid (Below.refl _ _)
        have HRe23 := Lib.hid (ho2.reads)
        clear ho1 ho2
        have ltb30 := lt_of_block HKb3023.out
        obtain ⟨cb300, fb300⟩ := cell1 HKb3023.out
        go_wp2_with fail
        have hb : Below w23.heap.size w23 (w23.alloc (.cells #[.slice q31 qa3.length k31] 50)) := (Below.refl _ _).alloc (Nat.le_refl _) _
        have hk : (w23.alloc (.cells #[.slice q31 qa3.length k31] 50)).heap[w23.heap.size]? = some (.cells #[.slice q31 qa3.length k31] 50 (0, 0)) := alloc_at rfl
        have hz : (w23.alloc (.cells #[.slice q31 qa3.length k31] 50)).heap.size = w23.heap.size + 1 := by simp
        generalize w23.alloc (.cells #[.slice q31 qa3.length k31] 50) = w24 at hb hk hz ⊢
        have HB24 : Hid (Below w.heap.size w w24) := Lib.hid (HB23.out.trans (hb.mono HB23.out.size))
        have HZ24 : Hid (w23.heap.size ≤ w24.heap.size) := Lib.hid hb.size
        have HRk24 := Lib.hid (HRk0.out.below HB24.out (Nat.le_refl _))
        have HRs24 := Lib.hid (HRs23.out.below hb (Nat.le_refl _))
        have HRx24 := Lib.hid (HRx23.out.below hb (Nat.le_refl _))
        have HKb3024 := Lib.hid ((hb.block _ (lt_of_block HKb3023.out)).trans HKb3023.out)
        have HRo24 := Lib.hid (HRo23.out.below hb (Nat.le_refl _))
        have HRe24 := Lib.hid (HRe23.out.below hb (Nat.le_refl _))
        have HBs21_24 : Hid (Below w21.heap.size w21 w24) := Lib.hid (HBs21_23.out.trans (hb.mono HBs21_23.out.size))
        have HBs23_24 : Hid (Below w23.heap.size w23 w24) := Lib.hid (HBs23_23.out.trans (hb.mono HBs23_23.out.size))
        have HKb3124 := Lib.hid hk
        replace HZ24 : Hid (w23.heap.size < w24.heap.size) := Lib.hid (by omega)
        have HE24 := Lib.hid hz
        clear hb hk hz
        have hb : Below w24.heap.size w24 (w24.alloc (.cells #[.slice q32 qb3.length k32] 50)) := (Below.refl _ _).alloc (Nat.le_refl _) _
        have hk : (w24.alloc (.cells #[.slice q32 qb3.length k32] 50)).heap[w23.heap.size + 1]? = some (.cells #[.slice q32 qb3.length k32] 50 (0, 0)) := alloc_at (by have := HE3.out; have := HE5.out; have := HE10.out; have := HE11.out; have := HE13.out; have := HE15.out; have := HE18.out; have := HE22.out; have := HE24.out; omega)
        have hz : (w24.alloc (.cells #[.slice q32 qb3.length k32] 50)).heap.size = w24.heap.size + 1 := by simp
        generalize w24.alloc (.cells #[.slice q32 qb3.length k32] 50) = w25 at hb hk hz ⊢
        have HB25 : Hid (Below w.heap.size w w25) := Lib.hid (HB24.out.trans (hb.mono HB24.out.size))
        have HZ25 : Hid (w24.heap.size ≤ w25.heap.size) := Lib.hid hb.size
        have HRk25 := Lib.hid (HRk0.out.below HB25.out (Nat.le_refl _))
        have HRs25 := Lib.hid (HRs24.out.below hb (Nat.le_refl _))
        have HRx25 := Lib.hid (HRx24.out.below hb (Nat.le_refl _))
        have HKb3025 := Lib.hid ((hb.block _ (lt_of_block HKb3024.out)).trans HKb3024.out)
        have HRo25 := Lib.hid (HRo24.out.below hb (Nat.le_refl _))
        have HRe25 := Lib.hid (HRe24.out.below hb (Nat.le_refl _))
        have HKb3125 := Lib.hid ((hb.block _ (lt_of_block HKb3124.out)).trans HKb3124.out)
        have HBs21_25 : Hid (Below w21.heap.size w21 w25) := Lib.hid (HBs21_24.out.trans (hb.mono HBs21_24.out.size))
        have HBs23_25 : Hid (Below w23.heap.size w23 w25) := Lib.hid (HBs23_24.out.trans (hb.mono HBs23_24.out.size))
        have HKb3225 := Lib.hid hk
        replace HZ25 : Hid (w24.heap.size < w25.heap.size) := Lib.hid (by omega)
        have HE25 := Lib.hid hz
        clear hb hk hz
        refine (sPartOf_any _ _ us3 xs3 n3 _ HRs25.out HSZ3.out HRx25.out qa3 qb3 r3 HK3.out).mono ?_
        rintro e w26 ⟨⟨t1, t2, rfl, ho⟩, hb⟩
        have HB26 : Hid (Below w.heap.size w w26) := Lib.hid (HB25.out.trans (hb.mono HB25.out.size))
        have HZ26 : Hid (w25.heap.size ≤ w26.heap.size) := Lib.hid hb.size
        have HRk26 := Lib.hid (HRk0.out.below HB26.out (Nat.le_refl _))
        have HRs26 := Lib.hid (HRs25.out.below hb (Nat.le_refl _))
        have HRx26 := Lib.hid (HRx25.out.below hb (Nat.le_refl _))
        have HKb3026 := Lib.hid ((hb.block _ (lt_of_block HKb3025.out)).trans HKb3025.out)
        have HRo26 := Lib.hid (HRo25.out.below hb (Nat.le_refl _))
        have HRe26 := Lib.hid (HRe25.out.below hb (Nat.le_refl _))
        have HKb3126 := Lib.hid ((hb.block _ (lt_of_block HKb3125.out)).trans HKb3125.out)
        have HKb3226 := Lib.hid ((hb.block _ (lt_of_block HKb3225.out)).trans HKb3225.out)
        have HBs21_26 : Hid (Below w21.heap.size w21 w26) := Lib.hid (HBs21_25.out.trans (hb.mono HBs21_25.out.size))
        have HBs23_26 : Hid (Below w23.heap.size w23 w26) := Lib.hid (HBs23_25.out.trans (hb.mono HBs23_25.out.size))
        clear hb
        obtain ⟨x1', y1', x2', y2', ho1, ho2, -⟩ := OwB.split ho (by have := HZ1.out; have := HZ2.out; have := HZ3.out; have := HZ4.out; have := HZ5.out; have := HZ6.out; have := HZ7.out; have := HZ8.out; have := HZ9.out; have := HZ10.out; have := HZ11.out; have := HZ12.out; have := HZ13.out; have := HZ14.out; have := HZ15.out; have := HZ16.out; have := HZ17.out; have := HZ18.out; have := HZ19.out; have := HZ20.out; have := HZ21.out; have := HZ22.out; have := HZ23.out; have := HZ24.out; have := HZ25.out; have := HZ26.out;  omega)
        clear ho
        obtain ⟨q33, k33, rfl⟩ : ∃ a c, t1 = .slice a qa3.length c := ho1.form
        obtain ⟨q34, k34, rfl⟩ : ∃ a c, t2 = .slice a qb3.length c := ho2.form
        have HRp26 := Lib.hid (ho1.reads)
        have HBs26_26 : Hid (Below w26.heap.size w26 w26) := Lib.hid (Below.refl _ _)
        have HRq26 := Lib.hid (ho2.reads)
        clear ho1 ho2
        clear cb300 fb300 ltb30
        have ltb30 := lt_of_block HKb3026.out
        obtain ⟨cb300, fb300⟩ := cell1 HKb3026.out
        have ltb31 := lt_of_block HKb3126.out
        obtain ⟨cb310, fb310⟩ := cell1 HKb3126.out
        have ltb32 := lt_of_block HKb3226.out
        obtain ⟨cb320, fb320⟩ := cell1 HKb3226.out
        go_wp2_with fail
        have hb : Below w26.heap.size w26 (w26.alloc (.cells #[.slice q33 qa3.length k33] 50)) := (Below.refl _ _).alloc (Nat.le_refl _) _
        have hk : (w26.alloc (.cells #[.slice q33 qa3.length k33] 50)).heap[w26.heap.size]? = some (.cells #[.slice q33 qa3.length k33] 50 (0, 0)) := alloc_at rfl
        have hz : (w26.alloc (.cells #[.slice q33 qa3.length k33] 50)).heap.size = w26.heap.size + 1 := by simp
        generalize w26.alloc (.cells #[.slice q33 qa3.length k33] 50) = w27 at hb hk hz ⊢
        have HB27 : Hid (Below w.heap.size w w27) := Lib.hid (HB26.out.trans (hb.mono HB26.out.size))
        have HZ27 : Hid (w26.heap.size ≤ w27.heap.size) := Lib.hid hb.size
        have HRk27 := Lib.hid (HRk0.out.below HB27.out (Nat.le_refl _))
        have HRs27 := Lib.hid (HRs26.out.below hb (Nat.le_refl _))
        have HRx27 := Lib.hid (HRx26.out.below hb (Nat.le_refl _))
        have HKb3027 := Lib.hid ((hb.block _ (lt_of_block HKb3026.out)).trans HKb3026.out)
        have HRo27 := Lib.hid (HRo26.out.below hb (Nat.le_refl _))
        have HRe27 := Lib.hid (HRe26.out.below hb (Nat.le_refl _))
        have HKb3127 := Lib.hid ((hb.block _ (lt_of_block HKb3126.out)).trans HKb3126.out)
        have HKb3227 := Lib.hid ((hb.block _ (lt_of_block HKb3226.out)).trans HKb3226.out)
        have HRp27 := Lib.hid (HRp26.out.below hb (Nat.le_refl _))
        have HRq27 := Lib.hid (HRq26.out.below hb (Nat.le_refl _))
        have HBs21_27 : Hid (Below w21.heap.size w21 w27) := Lib.hid (HBs21_26.out.trans (hb.mono HBs21_26.out.size))
        have HBs23_27 : Hid (Below w23.heap.size w23 w27) := Lib.hid (HBs23_26.out.trans (hb.mono HBs23_26.out.size))
        have HBs26_27 : Hid (Below w26.heap.size w26 w27) := Lib.hid (HBs26_26.out.trans (hb.mono HBs26_26.out.size))
        have HKb3327 := Lib.hid hk
        replace HZ27 : Hid (w26.heap.size < w27.heap.size) := Lib.hid (by omega)
        have HE27 := Lib.hid hz
        clear hb hk hz
        have hb : Below w27.heap.size w27 (w27.alloc (.cells #[.slice q34 qb3.length k34] 50)) := (Below.refl _ _).alloc (Nat.le_refl _) _
        have hk : (w27.alloc (.cells #[.slice q34 qb3.length k34] 50)).heap[w26.heap.size + 1]? = some (.cells #[.slice q34 qb3.length k34] 50 (0, 0)) := alloc_at (by have := HE3.out; have := HE5.out; have := HE10.out; have := HE11.out; have := HE13.out; have := HE15.out; have := HE18.out; have := HE22.out; have := HE24.out; have := HE25.out; have := HE27.out; omega)
        have hz : (w27.alloc (.cells #[.slice q34 qb3.length k34] 50)).heap.size = w27.heap.size + 1 := by simp
        generalize w27.alloc (.cells #[.slice q34 qb3.length k34] 50) = w28 at hb hk hz ⊢
        have HB28 : Hid (Below w.heap.size w w28) := Lib.hid (HB27.out.trans (hb.mono HB27.out.size))
        have HZ28 : Hid (w27.heap.size ≤ w28.heap.size) := Lib.hid hb.size
        have HRk28 := Lib.hid (HRk0.out.below HB28.out (Nat.le_refl _))
        have HRs28 := Lib.hid (HRs27.out.below hb (Nat.le_refl _))
        have HRx28 := Lib.hid (HRx27.out.below hb (Nat.le_refl _))
        have HKb3028 := Lib.hid ((hb.block _ (lt_of_block HKb3027.out)).trans HKb3027.out)
        have HRo28 := Lib.hid (HRo27.out.below hb (Nat.le_refl _))
        have HRe28 := Lib.hid (HRe27.out.below hb (Nat.le_refl _))
        have HKb3128 := Lib.hid ((hb.block _ (lt_of_block HKb3127.out)).trans HKb3127.out)
        have HKb3228 := Lib.hid ((hb.block _ (lt_of_block HKb3227.out)).trans HKb3227.out)
        have HRp28 := Lib.hid (HRp27.out.below hb (Nat.le_refl _))
        have HRq28 := Lib.hid (HRq27.out.below hb (Nat.le_refl _))
        have HKb3328 := Lib.hid ((hb.block _ (lt_of_block HKb3327.out)).trans HKb3327.out)
        have HBs21_28 : Hid (Below w21.heap.size w21 w28) := Lib.hid (HBs21_27.out.trans (hb.mono HBs21_27.out.size))
        have HBs23_28 : Hid (Below w23.heap.size w23 w28) := Lib.hid (HBs23_27.out.trans (hb.mono HBs23_27.out.size))
        have HBs26_28 : Hid (Below w26.heap.size w26 w28) := Lib.hid (HBs26_27.out.trans (hb.mono HBs26_27.out.size))
        have HKb3428 := Lib.hid hk
        replace HZ28 : Hid (w27.heap.size < w28.heap.size) := Lib.hid (by omega)
        have HE28 := Lib.hid hz
        clear hb hk hz
        refine (rAmount_yes _ _ qa3 _ HRo28.out HRp28.out).mono ?_
        rintro e w29 ⟨rfl, hb⟩
        have HB29 : Hid (Below w.heap.size w w29) := Lib.hid (HB28.out.trans (hb.mono HB28.out.size))
        have HZ29 : Hid (w28.heap.size ≤ w29.heap.size) := Lib.hid hb.size
        have HRk29 := Lib.hid (HRk0.out.below HB29.out (Nat.le_refl _))
        have HRs29 := Lib.hid (HRs28.out.below hb (Nat.le_refl _))
        have HRx29 := Lib.hid (HRx28.out.below hb (Nat.le_refl _))
        have HKb3029 := Lib.hid ((hb.block _ (lt_of_block HKb3028.out)).trans HKb3028.out)
        have HRo29 := Lib.hid (HRo28.out.below hb (Nat.le_refl _))
        have HRe29 := Lib.hid (HRe28.out.below hb (Nat.le_refl _))
        have HKb3129 := Lib.hid ((hb.block _ (lt_of_block HKb3128.out)).trans HKb3128.out)
        have HKb3229 := Lib.hid ((hb.block _ (lt_of_block HKb3228.out)).trans HKb3228.out)
        have HRp29 := Lib.hid (HRp28.out.below hb (Nat.le_refl _))
        have HRq29 := Lib.hid (HRq28.out.below hb (Nat.le_refl _))
        have HKb3329 := Lib.hid ((hb.block _ (lt_of_block HKb3328.out)).trans HKb3328.out)
        have HKb3429 := Lib.hid ((hb.block _ (lt_of_block HKb3428.out)).trans HKb3428.out)
        have HBs21_29 : Hid (Below w21.heap.size w21 w29) := Lib.hid (HBs21_28.out.trans (hb.mono HBs21_28.out.size))
        have HBs23_29 : Hid (Below w23.heap.size w23 w29) := Lib.hid (HBs23_28.out.trans (hb.mono HBs23_28.out.size))
        have HBs26_29 : Hid (Below w26.heap.size w26 w29) := Lib.hid (HBs26_28.out.trans (hb.mono HBs26_28.out.size))
        clear hb
        clear cb300 fb300 ltb30 cb310 fb310 ltb31 cb320 fb320 ltb32
        have ltb30 := lt_of_block HKb3029.out
        obtain ⟨cb300, fb300⟩ := cell1 HKb3029.out
        have ltb31 := lt_of_block HKb3129.out
        obtain ⟨cb310, fb310⟩ := cell1 HKb3129.out
        have ltb32 := lt_of_block HKb3229.out
        obtain ⟨cb320, fb320⟩ := cell1 HKb3229.out
        have ltb33 := lt_of_block HKb3329.out
        obtain ⟨cb330, fb330⟩ := cell1 HKb3329.out
        have ltb34 := lt_of_block HKb3429.out
        obtain ⟨cb340, fb340⟩ := cell1 HKb3429.out
        go_wp2_with fail
        refine (rAmount_yes _ _ qb3 _ HRe29.out HRq29.out).mono ?_
        rintro e w30 ⟨rfl, hb⟩
        have HB30 : Hid (Below w.heap.size w w30) := Lib.hid (HB29.out.trans (hb.mono HB29.out.size))
        have HZ30 : Hid (w29.heap.size ≤ w30.heap.size) := Lib.hid hb.size
        have HRk30 := Lib.hid (HRk0.out.below HB30.out (Nat.le_refl _))
        have HRs30 := Lib.hid (HRs29.out.below hb (Nat.le_refl _))
        have HRx30 := Lib.hid (HRx29.out.below hb (Nat.le_refl _))
        have HKb3030 := Lib.hid ((hb.block _ (lt_of_block HKb3029.out)).trans HKb3029.out)
        have HRo30 := Lib.hid (HRo29.out.below hb (Nat.le_refl _))
        have HRe30 := Lib.hid (HRe29.out.below hb (Nat.le_refl _))
        have HKb3130 := Lib.hid ((hb.block _ (lt_of_block HKb3129.out)).trans HKb3129.out)
        have HKb3230 := Lib.hid ((hb.block _ (lt_of_block HKb3229.out)).trans HKb3229.out)
        have HRp30 := Lib.hid (HRp29.out.below hb (Nat.le_refl _))
        have HRq30 := Lib.hid (HRq29.out.below hb (Nat.le_refl _))
        have HKb3330 := Lib.hid ((hb.block _ (lt_of_block HKb3329.out)).trans HKb3329.out)
        have HKb3430 := Lib.hid ((hb.block _ (lt_of_block HKb3429.out)).trans HKb3429.out)
        have HBs21_30 : Hid (Below w21.heap.size w21 w30) := Lib.hid (HBs21_29.out.trans (hb.mono HBs21_29.out.size))
        have HBs23_30 : Hid (Below w23.heap.size w23 w30) := Lib.hid (HBs23_29.out.trans (hb.mono HBs23_29.out.size))
        have HBs26_30 : Hid (Below w26.heap.size w26 w30) := Lib.hid (HBs26_29.out.trans (hb.mono HBs26_29.out.size))
        clear hb
        cases r3 with
        | true =>
          obtain ⟨⟨rfl, rfl, rfl⟩, w1, w2', l1, l2⟩ := HT3.out rfl
          have g1 : (x0 != x0) = false := by simp
          clear cb300 fb300 ltb30 cb310 fb310 ltb31 cb320 fb320 ltb32 cb330 fb330 ltb33 cb340 fb340 ltb34
          have ltb30 := lt_of_block HKb3030.out
          obtain ⟨cb300, fb300⟩ := cell1 HKb3030.out
          have ltb31 := lt_of_block HKb3130.out
          obtain ⟨cb310, fb310⟩ := cell1 HKb3130.out
          have ltb32 := lt_of_block HKb3230.out
          obtain ⟨cb320, fb320⟩ := cell1 HKb3230.out
          go_wp2_with fail
          refine (iVal_any _ _ us3 xs3 _ HRs30.out HSZ3.out HRx30.out x0 true HV30.out).mono ?_
          rintro e w31 ⟨rfl, hb⟩
          have HB31 : Hid (Below w.heap.size w w31) := Lib.hid (HB30.out.trans (hb.mono HB30.out.size))
          have HZ31 : Hid (w30.heap.size ≤ w31.heap.size) := Lib.hid hb.size
          have HRk31 := Lib.hid (HRk0.out.below HB31.out (Nat.le_refl _))
          have HRs31 := Lib.hid (HRs30.out.below hb (Nat.le_refl _))
          have HRx31 := Lib.hid (HRx30.out.below hb (Nat.le_refl _))
          have HKb3031 := Lib.hid ((hb.block _ (lt_of_block HKb3030.out)).trans HKb3030.out)
          have HRo31 := Lib.hid (HRo30.out.below hb (Nat.le_refl _))
          have HRe31 := Lib.hid (HRe30.out.below hb (Nat.le_refl _))
          have HKb3131 := Lib.hid ((hb.block _ (lt_of_block HKb3130.out)).trans HKb3130.out)
          have HKb3231 := Lib.hid ((hb.block _ (lt_of_block HKb3230.out)).trans HKb3230.out)
          have HBs21_31 : Hid (Below w21.heap.size w21 w31) := Lib.hid (HBs21_30.out.trans (hb.mono HBs21_30.out.size))
          have HBs23_31 : Hid (Below w23.heap.size w23 w31) := Lib.hid (HBs23_30.out.trans (hb.mono HBs23_30.out.size))
          clear hb
          clear cb300 fb300 ltb30 cb310 fb310 ltb31 cb320 fb320 ltb32
          have ltb30 := lt_of_block HKb3031.out
          obtain ⟨cb300, fb300⟩ := cell1 HKb3031.out
          have ltb31 := lt_of_block HKb3131.out
          obtain ⟨cb310, fb310⟩ := cell1 HKb3131.out
          have ltb32 := lt_of_block HKb3231.out
          obtain ⟨cb320, fb320⟩ := cell1 HKb3231.out
          go_wp2_with fail
          refine (iVal_any _ _ us3 qa3 _ HRs31.out HSZ3.out HRo31.out x1 true HV31.out).mono ?_
          rintro e w32 ⟨rfl, hb⟩
          have HB32 : Hid (Below w.heap.size w w32) := Lib.hid (HB31.out.trans (hb.mono HB31.out.size))
          have HZ32 : Hid (w31.heap.size ≤ w32.heap.size) := Lib.hid hb.size
          have HRk32 := Lib.hid (HRk0.out.below HB32.out (Nat.le_refl _))
          have HRs32 := Lib.hid (HRs31.out.below hb (Nat.le_refl _))
          have HRx32 := Lib.hid (HRx31.out.below hb (Nat.le_refl _))
          have HKb3032 := Lib.hid ((hb.block _ (lt_of_block HKb3031.out)).trans HKb3031.out)
          have HRo32 := Lib.hid (HRo31.out.below hb (Nat.le_refl _))
          have HRe32 := Lib.hid (HRe31.out.below hb (Nat.le_refl _))
          have HKb3132 := Lib.hid ((hb.block _ (lt_of_block HKb3131.out)).trans HKb3131.out)
          have HKb3232 := Lib.hid ((hb.block _ (lt_of_block HKb3231.out)).trans HKb3231.out)
          have HBs21_32 : Hid (Below w21.heap.size w21 w32) := Lib.hid (HBs21_31.out.trans (hb.mono HBs21_31.out.size))
          have HBs23_32 : Hid (Below w23.heap.size w23 w32) := Lib.hid (HBs23_31.out.trans (hb.mono HBs23_31.out.size))
          clear hb
          clear cb300 fb300 ltb30 cb310 fb310 ltb31 cb320 fb320 ltb32
          have ltb30 := lt_of_block HKb3032.out
          obtain ⟨cb300, fb300⟩ := cell1 HKb3032.out
          have ltb31 := lt_of_block HKb3132.out
          obtain ⟨cb310, fb310⟩ := cell1 HKb3132.out
          have ltb32 := lt_of_block HKb3232.out
          obtain ⟨cb320, fb320⟩ := cell1 HKb3232.out
          go_wp2_with fail
          refine (iVal_any _ _ us3 qb3 _ HRs32.out HSZ3.out HRe32.out x2 true HV32.out).mono ?_
          rintro e w33 ⟨rfl, hb⟩
          have HB33 : Hid (Below w.heap.size w w33) := Lib.hid (HB32.out.trans (hb.mono HB32.out.size))
          have HZ33 : Hid (w32.heap.size ≤ w33.heap.size) := Lib.hid hb.size
          have HRk33 := Lib.hid (HRk0.out.below HB33.out (Nat.le_refl _))
          have HRs33 := Lib.hid (HRs32.out.below hb (Nat.le_refl _))
          have HRx33 := Lib.hid (HRx32.out.below hb (Nat.le_refl _))
          have HKb3033 := Lib.hid ((hb.block _ (lt_of_block HKb3032.out)).trans HKb3032.out)
          have HRo33 := Lib.hid (HRo32.out.below hb (Nat.le_refl _))
          have HRe33 := Lib.hid (HRe32.out.below hb (Nat.le_refl _))
          have HKb3133 := Lib.hid ((hb.block _ (lt_of_block HKb3132.out)).trans HKb3132.out)
          have HKb3233 := Lib.hid ((hb.block _ (lt_of_block HKb3232.out)).trans HKb3232.out)
          have HBs21_33 : Hid (Below w21.heap.size w21 w33) := Lib.hid (HBs21_32.out.trans (hb.mono HBs21_32.out.size))
          have HBs23_33 : Hid (Below w23.heap.size w23 w33) := Lib.hid (HBs23_32.out.trans (hb.mono HBs23_32.out.size))
          clear hb
          clear cb300 fb300 ltb30 cb310 fb310 ltb31 cb320 fb320 ltb32
          have ltb30 := lt_of_block HKb3033.out
          obtain ⟨cb300, fb300⟩ := cell1 HKb3033.out
          have ltb31 := lt_of_block HKb3133.out
          obtain ⟨cb310, fb310⟩ := cell1 HKb3133.out
          have ltb32 := lt_of_block HKb3233.out
          obtain ⟨cb320, fb320⟩ := cell1 HKb3233.out
          go_wp2_with fail
          clear w1 w2' l1 l2
          refine (drawDifferenceOf_any _ L _ HRk33.out).mono ?_
          rintro e w34 ⟨⟨v, x, y, us4, xs4, ys4, rfl, hv, hx, hy, ⟨hl, hnm⟩, hxl, hyl⟩, hb⟩
          have HB34 : Hid (Below w.heap.size w w34) := Lib.hid (HB33.out.trans (hb.mono HB33.out.size))
          have HZ34 : Hid (w33.heap.size ≤ w34.heap.size) := Lib.hid hb.size
          have HRk34 := Lib.hid (HRk0.out.below HB34.out (Nat.le_refl _))
          clear hb
          obtain ⟨qs4, ks4, rfl⟩ := own_form hv
          have HRs34 := Lib.hid ((RowsR.of_own unC_len hv))
          have HBs34_34 : Hid (Below w34.heap.size w34 w34) := Lib.hid (Below.refl _ _)
          clear hv
          have HSZ4 := Lib.hid (nm_small hnm)
          clear hl hnm
          obtain ⟨q40, k40, rfl⟩ := own_form hx
          have HRx34 := Lib.hid ((RowsR.of_own inC_len hx))
          clear hx
          obtain ⟨q41, k41, rfl⟩ := own_form hy
          have HRy34 := Lib.hid ((RowsR.of_own inC_len hy))
          clear hy
          clear hxl hyl
          obtain ⟨qs4, r4, hk⟩ := testF_or (okAm us4 xs4 ∧ okAm us4 ys4) us4 (valA us4 xs4 - valA us4 ys4)
          have HK4 := Lib.hid hk
          obtain ⟨s4, hs⟩ := okS_dec us4
          have HI4 := Lib.hid hs
          clear hk hs
          have e4 : (r4 == r4) = true := by simp
          have e5 : (s4 == s4) = true := by simp
          clear cb300 fb300 ltb30 cb310 fb310 ltb31 cb320 fb320 ltb32
          go_wp2_with fail
          have hb : Below w34.heap.size w34 (w34.alloc (.cells #[.slice q40 xs4.length k40] 50)) := (Below.refl _ _).alloc (Nat.le_refl _) _
          have hk : (w34.alloc (.cells #[.slice q40 xs4.length k40] 50)).heap[w34.heap.size]? = some (.cells #[.slice q40 xs4.length k40] 50 (0, 0)) := alloc_at rfl
          have hz : (w34.alloc (.cells #[.slice q40 xs4.length k40] 50)).heap.size = w34.heap.size + 1 := by simp
          generalize w34.alloc (.cells #[.slice q40 xs4.length k40] 50) = w35 at hb hk hz ⊢
          have HB35 : Hid (Below w.heap.size w w35) := Lib.hid (HB34.out.trans (hb.mono HB34.out.size))
          have HZ35 : Hid (w34.heap.size ≤ w35.heap.size) := Lib.hid hb.size
          have HRk35 := Lib.hid (HRk0.out.below HB35.out (Nat.le_refl _))
          have HRs35 := Lib.hid (HRs34.out.below hb (Nat.le_refl _))
          have HRx35 := Lib.hid (HRx34.out.below hb (Nat.le_refl _))
          have HRy35 := Lib.hid (HRy34.out.below hb (Nat.le_refl _))
          have HBs34_35 : Hid (Below w34.heap.size w34 w35) := Lib.hid (HBs34_34.out.trans (hb.mono HBs34_34.out.size))
          have HKb4035 := Lib.hid hk
          replace HZ35 : Hid (w34.heap.size < w35.heap.size) := Lib.hid (by omega)
          have HE35 := Lib.hid hz
          clear hb hk hz
          have hb : Below w35.heap.size w35 (w35.alloc (.cells #[.slice q41 ys4.length k41] 50)) := (Below.refl _ _).alloc (Nat.le_refl _) _
          have hk : (w35.alloc (.cells #[.slice q41 ys4.length k41] 50)).heap[w34.heap.size + 1]? = some (.cells #[.slice q41 ys4.length k41] 50 (0, 0)) := alloc_at (by have := HE3.out; have := HE5.out; have := HE10.out; have := HE11.out; have := HE13.out; have := HE15.out; have := HE18.out; have := HE22.out; have := HE24.out; have := HE25.out; have := HE27.out; have := HE28.out; have := HE35.out; omega)
          have hz : (w35.alloc (.cells #[.slice q41 ys4.length k41] 50)).heap.size = w35.heap.size + 1 := by simp
          generalize w35.alloc (.cells #[.slice q41 ys4.length k41] 50) = w36 at hb hk hz ⊢
          have HB36 : Hid (Below w.heap.size w w36) := Lib.hid (HB35.out.trans (hb.mono HB35.out.size))
          have HZ36 : Hid (w35.heap.size ≤ w36.heap.size) := Lib.hid hb.size
          have HRk36 := Lib.hid (HRk0.out.below HB36.out (Nat.le_refl _))
          have HRs36 := Lib.hid (HRs35.out.below hb (Nat.le_refl _))
          have HRx36 := Lib.hid (HRx35.out.below hb (Nat.le_refl _))
          have HRy36 := Lib.hid (HRy35.out.below hb (Nat.le_refl _))
          have HKb4036 := Lib.hid ((hb.block _ (lt_of_block HKb4035.out)).trans HKb4035.out)
          have HBs34_36 : Hid (Below w34.heap.size w34 w36) := Lib.hid (HBs34_35.out.trans (hb.mono HBs34_35.out.size))
          have HKb4136 := Lib.hid hk
          replace HZ36 : Hid (w35.heap.size < w36.heap.size) := Lib.hid (by omega)
          have HE36 := Lib.hid hz
          clear hb hk hz
          refine (iDifferenceOf_any _ _ _ us4 xs4 ys4 _ HRs36.out HSZ4.out HRx36.out HRy36.out qs4 r4 HK4.out).mono ?_
          rintro e w37 ⟨⟨t, rfl, ho⟩, hb⟩
          have HB37 : Hid (Below w.heap.size w w37) := Lib.hid (HB36.out.trans (hb.mono HB36.out.size))
          have HZ37 : Hid (w36.heap.size ≤ w37.heap.size) := Lib.hid hb.size
          have HRk37 := Lib.hid (HRk0.out.below HB37.out (Nat.le_refl _))
          have HRs37 := Lib.hid (HRs36.out.below hb (Nat.le_refl _))
          have HRx37 := Lib.hid (HRx36.out.below hb (Nat.le_refl _))
          have HRy37 := Lib.hid (HRy36.out.below hb (Nat.le_refl _))
          have HKb4037 := Lib.hid ((hb.block _ (lt_of_block HKb4036.out)).trans HKb4036.out)
          have HKb4137 := Lib.hid ((hb.block _ (lt_of_block HKb4136.out)).trans HKb4136.out)
          have HBs34_37 : Hid (Below w34.heap.size w34 w37) := Lib.hid (HBs34_36.out.trans (hb.mono HBs34_36.out.size))
          clear hb
          obtain ⟨q42, k42, rfl⟩ : ∃ a c, t = .slice a qs4.length c := ho.form
          have HRo37 := Lib.hid (ho.reads)
          have HBs37_37 : Hid (Below w37.heap.size w37 w37) := Lib.hid (Below.refl _ _)
          clear ho
          have ltb40 := lt_of_block HKb4037.out
          obtain ⟨cb400, fb400⟩ := cell1 HKb4037.out
          have ltb41 := lt_of_block HKb4137.out
          obtain ⟨cb410, fb410⟩ := cell1 HKb4137.out
          go_wp2_with fail
          have hb : Below w37.heap.size w37 (w37.alloc (.cells #[.slice q42 qs4.length k42] 50)) := (Below.refl _ _).alloc (Nat.le_refl _) _
          have hk : (w37.alloc (.cells #[.slice q42 qs4.length k42] 50)).heap[w37.heap.size]? = some (.cells #[.slice q42 qs4.length k42] 50 (0, 0)) := alloc_at rfl
          have hz : (w37.alloc (.cells #[.slice q42 qs4.length k42] 50)).heap.size = w37.heap.size + 1 := by simp
          generalize w37.alloc (.cells #[.slice q42 qs4.length k42] 50) = w38 at hb hk hz ⊢
          have HB38 : Hid (Below w.heap.size w w38) := Lib.hid (HB37.out.trans (hb.mono HB37.out.size))
          have HZ38 : Hid (w37.heap.size ≤ w38.heap.size) := Lib.hid hb.size
          have HRk38 := Lib.hid (HRk0.out.below HB38.out (Nat.le_refl _))
          have HRs38 := Lib.hid (HRs37.out.below hb (Nat.le_refl _))
          have HRx38 := Lib.hid (HRx37.out.below hb (Nat.le_refl _))
          have HRy38 := Lib.hid (HRy37.out.below hb (Nat.le_refl _))
          have HKb4038 := Lib.hid ((hb.block _ (lt_of_block HKb4037.out)).trans HKb4037.out)
          have HKb4138 := Lib.hid ((hb.block _ (lt_of_block HKb4137.out)).trans HKb4137.out)
          have HRo38 := Lib.hid (HRo37.out.below hb (Nat.le_refl _))
          have HBs34_38 : Hid (Below w34.heap.size w34 w38) := Lib.hid (HBs34_37.out.trans (hb.mono HBs34_37.out.size))
          have HBs37_38 : Hid (Below w37.heap.size w37 w38) := Lib.hid (HBs37_37.out.trans (hb.mono HBs37_37.out.size))
          have HKb4238 := Lib.hid hk
          replace HZ38 : Hid (w37.heap.size < w38.heap.size) := Lib.hid (by omega)
          have HE38 := Lib.hid hz
          clear hb hk hz
          refine (sDifferenceOf_any _ _ _ us4 xs4 ys4 _ HRs38.out HSZ4.out HRx38.out HRy38.out qs4 r4 HK4.out).mono ?_
          rintro e w39 ⟨⟨t, rfl, ho⟩, hb⟩
          have HB39 : Hid (Below w.heap.size w w39) := Lib.hid (HB38.out.trans (hb.mono HB38.out.size))
          have HZ39 : Hid (w38.heap.size ≤ w39.heap.size) := Lib.hid hb.size
          have HRk39 := Lib.hid (HRk0.out.below HB39.out (Nat.le_refl _))
          have HRs39 := Lib.hid (HRs38.out.below hb (Nat.le_refl _))
          have HRx39 := Lib.hid (HRx38.out.below hb (Nat.le_refl _))
          have HRy39 := Lib.hid (HRy38.out.below hb (Nat.le_refl _))
          have HKb4039 := Lib.hid ((hb.block _ (lt_of_block HKb4038.out)).trans HKb4038.out)
          have HKb4139 := Lib.hid ((hb.block _ (lt_of_block HKb4138.out)).trans HKb4138.out)
          have HRo39 := Lib.hid (HRo38.out.below hb (Nat.le_refl _))
          have HKb4239 := Lib.hid ((hb.block _ (lt_of_block HKb4238.out)).trans HKb4238.out)
          have HBs34_39 : Hid (Below w34.heap.size w34 w39) := Lib.hid (HBs34_38.out.trans (hb.mono HBs34_38.out.size))
          have HBs37_39 : Hid (Below w37.heap.size w37 w39) := Lib.hid (HBs37_38.out.trans (hb.mono HBs37_38.out.size))
          clear hb
          obtain ⟨q43, k43, rfl⟩ : ∃ a c, t = .slice a qs4.length c := ho.form
          have HRp39 := Lib.hid (ho.reads)
          have HBs39_39 : Hid (Below w39.heap.size w39 w39) := Lib.hid (Below.refl _ _)
          clear ho
          clear cb400 fb400 ltb40 cb410 fb410 ltb41
          have ltb40 := lt_of_block HKb4039.out
          obtain ⟨cb400, fb400⟩ := cell1 HKb4039.out
          have ltb41 := lt_of_block HKb4139.out
          obtain ⟨cb410, fb410⟩ := cell1 HKb4139.out
          have ltb42 := lt_of_block HKb4239.out
          obtain ⟨cb420, fb420⟩ := cell1 HKb4239.out
          go_wp2_with fail
          have hb : Below w39.heap.size w39 (w39.alloc (.cells #[.slice q43 qs4.length k43] 50)) := (Below.refl _ _).alloc (Nat.le_refl _) _
          have hk : (w39.alloc (.cells #[.slice q43 qs4.length k43] 50)).heap[w39.heap.size]? = some (.cells #[.slice q43 qs4.length k43] 50 (0, 0)) := alloc_at rfl
          have hz : (w39.alloc (.cells #[.slice q43 qs4.length k43] 50)).heap.size = w39.heap.size + 1 := by simp
          generalize w39.alloc (.cells #[.slice q43 qs4.length k43] 50) = w40 at hb hk hz ⊢
          have HB40 : Hid (Below w.heap.size w w40) := Lib.hid (HB39.out.trans (hb.mono HB39.out.size))
          have HZ40 : Hid (w39.heap.size ≤ w40.heap.size) := Lib.hid hb.size
          have HRk40 := Lib.hid (HRk0.out.below HB40.out (Nat.le_refl _))
          have HRs40 := Lib.hid (HRs39.out.below hb (Nat.le_refl _))
          have HRx40 := Lib.hid (HRx39.out.below hb (Nat.le_refl _))
          have HRy40 := Lib.hid (HRy39.out.below hb (Nat.le_refl _))
          have HKb4040 := Lib.hid ((hb.block _ (lt_of_block HKb4039.out)).trans HKb4039.out)
          have HKb4140 := Lib.hid ((hb.block _ (lt_of_block HKb4139.out)).trans HKb4139.out)
          have HRo40 := Lib.hid (HRo39.out.below hb (Nat.le_refl _))
          have HKb4240 := Lib.hid ((hb.block _ (lt_of_block HKb4239.out)).trans HKb4239.out)
          have HRp40 := Lib.hid (HRp39.out.below hb (Nat.le_refl _))
          have HBs34_40 : Hid (Below w34.heap.size w34 w40) := Lib.hid (HBs34_39.out.trans (hb.mono HBs34_39.out.size))
          have HBs37_40 : Hid (Below w37.heap.size w37 w40) := Lib.hid (HBs37_39.out.trans (hb.mono HBs37_39.out.size))
          have HBs39_40 : Hid (Below w39.heap.size w39 w40) := Lib.hid (HBs39_39.out.trans (hb.mono HBs39_39.out.size))
          have HKb4340 := Lib.hid hk
          replace HZ40 : Hid (w39.heap.size < w40.heap.size) := Lib.hid (by omega)
          have HE40 := Lib.hid hz
          clear hb hk hz
          refine (rAmount_yes _ _ qs4 _ HRo40.out HRp40.out).mono ?_
          rintro e w41 ⟨rfl, hb⟩
          have HB41 : Hid (Below w.heap.size w w41) := Lib.hid (HB40.out.trans (hb.mono HB40.out.size))
          have HZ41 : Hid (w40.heap.size ≤ w41.heap.size) := Lib.hid hb.size
          have HRk41 := Lib.hid (HRk0.out.below HB41.out (Nat.le_refl _))
          have HRs41 := Lib.hid (HRs40.out.below hb (Nat.le_refl _))
          have HRx41 := Lib.hid (HRx40.out.below hb (Nat.le_refl _))
          have HRy41 := Lib.hid (HRy40.out.below hb (Nat.le_refl _))
          have HKb4041 := Lib.hid ((hb.block _ (lt_of_block HKb4040.out)).trans HKb4040.out)
          have HKb4141 := Lib.hid ((hb.block _ (lt_of_block HKb4140.out)).trans HKb4140.out)
          have HRo41 := Lib.hid (HRo40.out.below hb (Nat.le_refl _))
          have HKb4241 := Lib.hid ((hb.block _ (lt_of_block HKb4240.out)).trans HKb4240.out)
          have HRp41 := Lib.hid (HRp40.out.below hb (Nat.le_refl _))
          have HKb4341 := Lib.hid ((hb.block _ (lt_of_block HKb4340.out)).trans HKb4340.out)
          have HBs34_41 : Hid (Below w34.heap.size w34 w41) := Lib.hid (HBs34_40.out.trans (hb.mono HBs34_40.out.size))
          have HBs37_41 : Hid (Below w37.heap.size w37 w41) := Lib.hid (HBs37_40.out.trans (hb.mono HBs37_40.out.size))
          have HBs39_41 : Hid (Below w39.heap.size w39 w41) := Lib.hid (HBs39_40.out.trans (hb.mono HBs39_40.out.size))
          clear hb
          clear cb400 fb400 ltb40 cb410 fb410 ltb41 cb420 fb420 ltb42
          have ltb40 := lt_of_block HKb4041.out
          obtain ⟨cb400, fb400⟩ := cell1 HKb4041.out
          have ltb41 := lt_of_block HKb4141.out
          obtain ⟨cb410, fb410⟩ := cell1 HKb4141.out
          have ltb42 := lt_of_block HKb4241.out
          obtain ⟨cb420, fb420⟩ := cell1 HKb4241.out
          have ltb43 := lt_of_block HKb4341.out
          obtain ⟨cb430, fb430⟩ := cell1 HKb4341.out
          go_wp2_with fail
          refine (iSys_any _ us4 _ HRs41.out HSZ4.out s4 HI4.out).mono ?_
          rintro e w42 ⟨rfl, hb⟩
          have HB42 : Hid (Below w.heap.size w w42) := Lib.hid (HB41.out.trans (hb.mono HB41.out.size))
          have HZ42 : Hid (w41.heap.size ≤ w42.heap.size) := Lib.hid hb.size
          have HRk42 := Lib.hid (HRk0.out.below HB42.out (Nat.le_refl _))
          have HRs42 := Lib.hid (HRs41.out.below hb (Nat.le_refl _))
          have HRx42 := Lib.hid (HRx41.out.below hb (Nat.le_refl _))
          have HRy42 := Lib.hid (HRy41.out.below hb (Nat.le_refl _))
          have HKb4042 := Lib.hid ((hb.block _ (lt_of_block HKb4041.out)).trans HKb4041.out)
          have HKb4142 := Lib.hid ((hb.block _ (lt_of_block HKb4141.out)).trans HKb4141.out)
          have HRo42 := Lib.hid (HRo41.out.below hb (Nat.le_refl _))
          have HKb4242 := Lib.hid ((hb.block _ (lt_of_block HKb4241.out)).trans HKb4241.out)
          have HRp42 := Lib.hid (HRp41.out.below hb (Nat.le_refl _))
          have HKb4342 := Lib.hid ((hb.block _ (lt_of_block HKb4341.out)).trans HKb4341.out)
          have HBs34_42 : Hid (Below w34.heap.size w34 w42) := Lib.hid (HBs34_41.out.trans (hb.mono HBs34_41.out.size))
          have HBs37_42 : Hid (Below w37.heap.size w37 w42) := Lib.hid (HBs37_41.out.trans (hb.mono HBs37_41.out.size))
          have HBs39_42 : Hid (Below w39.heap.size w39 w42) := Lib.hid (HBs39_41.out.trans (hb.mono HBs39_41.out.size))
          clear hb
          clear cb400 fb400 ltb40 cb410 fb410 ltb41 cb420 fb420 ltb42 cb430 fb430 ltb43
          have ltb40 := lt_of_block HKb4042.out
          obtain ⟨cb400, fb400⟩ := cell1 HKb4042.out
          have ltb41 := lt_of_block HKb4142.out
          obtain ⟨cb410, fb410⟩ := cell1 HKb4142.out
          have ltb42 := lt_of_block HKb4242.out
          obtain ⟨cb420, fb420⟩ := cell1 HKb4242.out
          have ltb43 := lt_of_block HKb4342.out
          obtain ⟨cb430, fb430⟩ := cell1 HKb4342.out
          go_wp2_with fail
          refine (sSys_any _ us4 _ HRs42.out HSZ4.out s4 HI4.out).mono ?_
          rintro e w43 ⟨rfl, hb⟩
          have HB43 : Hid (Below w.heap.size w w43) := Lib.hid (HB42.out.trans (hb.mono HB42.out.size))
          have HZ43 : Hid (w42.heap.size ≤ w43.heap.size) := Lib.hid hb.size
          have HRk43 := Lib.hid (HRk0.out.below HB43.out (Nat.le_refl _))
          have HRs43 := Lib.hid (HRs42.out.below hb (Nat.le_refl _))
          have HRx43 := Lib.hid (HRx42.out.below hb (Nat.le_refl _))
          have HRy43 := Lib.hid (HRy42.out.below hb (Nat.le_refl _))
          have HKb4043 := Lib.hid ((hb.block _ (lt_of_block HKb4042.out)).trans HKb4042.out)
          have HKb4143 := Lib.hid ((hb.block _ (lt_of_block HKb4142.out)).trans HKb4142.out)
          have HRo43 := Lib.hid (HRo42.out.below hb (Nat.le_refl _))
          have HKb4243 := Lib.hid ((hb.block _ (lt_of_block HKb4242.out)).trans HKb4242.out)
          have HRp43 := Lib.hid (HRp42.out.below hb (Nat.le_refl _))
          have HKb4343 := Lib.hid ((hb.block _ (lt_of_block HKb4342.out)).trans HKb4342.out)
          have HBs34_43 : Hid (Below w34.heap.size w34 w43) := Lib.hid (HBs34_42.out.trans (hb.mono HBs34_42.out.size))
          have HBs37_43 : Hid (Below w37.heap.size w37 w43) := Lib.hid (HBs37_42.out.trans (hb.mono HBs37_42.out.size))
          have HBs39_43 : Hid (Below w39.heap.size w39 w43) := Lib.hid (HBs39_42.out.trans (hb.mono HBs39_42.out.size))
          clear hb
          clear cb400 fb400 ltb40 cb410 fb410 ltb41 cb420 fb420 ltb42 cb430 fb430 ltb43
          have ltb40 := lt_of_block HKb4043.out
          obtain ⟨cb400, fb400⟩ := cell1 HKb4043.out
          have ltb41 := lt_of_block HKb4143.out
          obtain ⟨cb410, fb410⟩ := cell1 HKb4143.out
          have ltb42 := lt_of_block HKb4243.out
          obtain ⟨cb420, fb420⟩ := cell1 HKb4243.out
          have ltb43 := lt_of_block HKb4343.out
          obtain ⟨cb430, fb430⟩ := cell1 HKb4343.out
          go_wp2_with fail
          go_ret
          exact ⟨rfl, HB43.out⟩
        | false =>
          clear cb300 fb300 ltb30 cb310 fb310 ltb31 cb320 fb320 ltb32 cb330 fb330 ltb33 cb340 fb340 ltb34
          have ltb30 := lt_of_block HKb3030.out
          obtain ⟨cb300, fb300⟩ := cell1 HKb3030.out
          have ltb31 := lt_of_block HKb3130.out
          obtain ⟨cb310, fb310⟩ := cell1 HKb3130.out
          have ltb32 := lt_of_block HKb3230.out
          obtain ⟨cb320, fb320⟩ := cell1 HKb3230.out
          go_wp2_with fail
          refine (drawDifferenceOf_any _ L _ HRk30.out).mono ?_
          rintro e w31 ⟨⟨v, x, y, us4, xs4, ys4, rfl, hv, hx, hy, ⟨hl, hnm⟩, hxl, hyl⟩, hb⟩
          have HB31 : Hid (Below w.heap.size w w31) := Lib.hid (HB30.out.trans (hb.mono HB30.out.size))
          have HZ31 : Hid (w30.heap.size ≤ w31.heap.size) := Lib.hid hb.size
          have HRk31 := Lib.hid (HRk0.out.below HB31.out (Nat.le_refl _))
          clear hb
          obtain ⟨qs4, ks4, rfl⟩ := own_form hv
          have HRs31 := Lib.hid ((RowsR.of_own unC_len hv))
          have HBs31_31 : Hid (Below w31.heap.size w31 w31) := Lib.hid (Below.refl _ _)
          clear hv
          have HSZ4 := Lib.hid (nm_small hnm)
          clear hl hnm
          obtain ⟨q40, k40, rfl⟩ := own_form hx
          have HRx31 := Lib.hid ((RowsR.of_own inC_len hx))
          clear hx
          obtain ⟨q41, k41, rfl⟩ := own_form hy
          have HRy31 := Lib.hid ((RowsR.of_own inC_len hy))
          clear hy
          clear hxl hyl
          obtain ⟨qs4, r4, hk⟩ := testF_or (okAm us4 xs4 ∧ okAm us4 ys4) us4 (valA us4 xs4 - valA us4 ys4)
          have HK4 := Lib.hid hk
          obtain ⟨s4, hs⟩ := okS_dec us4
          have HI4 := Lib.hid hs
          clear hk hs
          have e4 : (r4 == r4) = true := by simp
          have e5 : (s4 == s4) = true := by simp
          clear cb300 fb300 ltb30 cb310 fb310 ltb31 cb320 fb320 ltb32
          go_wp2_with fail
          have hb : Below w31.heap.size w31 (w31.alloc (.cells #[.slice q40 xs4.length k40] 50)) := (Below.refl _ _).alloc (Nat.le_refl _) _
          have hk : (w31.alloc (.cells #[.slice q40 xs4.length k40] 50)).heap[w31.heap.size]? = some (.cells #[.slice q40 xs4.length k40] 50 (0, 0)) := alloc_at rfl
          have hz : (w31.alloc (.cells #[.slice q40 xs4.length k40] 50)).heap.size = w31.heap.size + 1 := by simp
          generalize w31.alloc (.cells #[.slice q40 xs4.length k40] 50) = w32 at hb hk hz ⊢
          have HB32 : Hid (Below w.heap.size w w32) := Lib.hid (HB31.out.trans (hb.mono HB31.out.size))
          have HZ32 : Hid (w31.heap.size ≤ w32.heap.size) := Lib.hid hb.size
          have HRk32 := Lib.hid (HRk0.out.below HB32.out (Nat.le_refl _))
          have HRs32 := Lib.hid (HRs31.out.below hb (Nat.le_refl _))
          have HRx32 := Lib.hid (HRx31.out.below hb (Nat.le_refl _))
          have HRy32 := Lib.hid (HRy31.out.below hb (Nat.le_refl _))
          have HBs31_32 : Hid (Below w31.heap.size w31 w32) := Lib.hid (HBs31_31.out.trans (hb.mono HBs31_31.out.size))
          have HKb4032 := Lib.hid hk
          replace HZ32 : Hid (w31.heap.size < w32.heap.size) := Lib.hid (by omega)
          have HE32 := Lib.hid hz
          clear hb hk hz
          have hb : Below w32.heap.size w32 (w32.alloc (.cells #[.slice q41 ys4.length k41] 50)) := (Below.refl _ _).alloc (Nat.le_refl _) _
          have hk : (w32.alloc (.cells #[.slice q41 ys4.length k41] 50)).heap[w31.heap.size + 1]? = some (.cells #[.slice q41 ys4.length k41] 50 (0, 0)) := alloc_at (by have := HE3.out; have := HE5.out; have := HE10.out; have := HE11.out; have := HE13.out; have := HE15.out; have := HE18.out; have := HE22.out; have := HE24.out; have := HE25.out; have := HE27.out; have := HE28.out; have := HE32.out; omega)
          have hz : (w32.alloc (.cells #[.slice q41 ys4.length k41] 50)).heap.size = w32.heap.size + 1 := by simp
          generalize w32.alloc (.cells #[.slice q41 ys4.length k41] 50) = w33 at hb hk hz ⊢
          have HB33 : Hid (Below w.heap.size w w33) := Lib.hid (HB32.out.trans (hb.mono HB32.out.size))
          have HZ33 : Hid (w32.heap.size ≤ w33.heap.size) := Lib.hid hb.size
          have HRk33 := Lib.hid (HRk0.out.below HB33.out (Nat.le_refl _))
          have HRs33 := Lib.hid (HRs32.out.below hb (Nat.le_refl _))
          have HRx33 := Lib.hid (HRx32.out.below hb (Nat.le_refl _))
          have HRy33 := Lib.hid (HRy32.out.below hb (Nat.le_refl _))
          have HKb4033 := Lib.hid ((hb.block _ (lt_of_block HKb4032.out)).trans HKb4032.out)
          have HBs31_33 : Hid (Below w31.heap.size w31 w33) := Lib.hid (HBs31_32.out.trans (hb.mono HBs31_32.out.size))
          have HKb4133 := Lib.hid hk
          replace HZ33 : Hid (w32.heap.size < w33.heap.size) := Lib.hid (by omega)
          have HE33 := Lib.hid hz
          clear hb hk hz
          refine (iDifferenceOf_any _ _ _ us4 xs4 ys4 _ HRs33.out HSZ4.out HRx33.out HRy33.out qs4 r4 HK4.out).mono ?_
          rintro e w34 ⟨⟨t, rfl, ho⟩, hb⟩
          have HB34 : Hid (Below w.heap.size w w34) := Lib.hid (HB33.out.trans (hb.mono HB33.out.size))
          have HZ34 : Hid (w33.heap.size ≤ w34.heap.size) := Lib.hid hb.size
          have HRk34 := Lib.hid (HRk0.out.below HB34.out (Nat.le_refl _))
          have HRs34 := Lib.hid (HRs33.out.below hb (Nat.le_refl _))
          have HRx34 := Lib.hid (HRx33.out.below hb (Nat.le_refl _))
          have HRy34 := Lib.hid (HRy33.out.below hb (Nat.le_refl _))
          have HKb4034 := Lib.hid ((hb.block _ (lt_of_block HKb4033.out)).trans HKb4033.out)
          have HKb4134 := Lib.hid ((hb.block _ (lt_of_block HKb4133.out)).trans HKb4133.out)
          have HBs31_34 : Hid (Below w31.heap.size w31 w34) := Lib.hid (HBs31_33.out.trans (hb.mono HBs31_33.out.size))
          clear hb
          obtain ⟨q42, k42, rfl⟩ : ∃ a c, t = .slice a qs4.length c := ho.form
          have HRo34 := Lib.hid (ho.reads)
          have HBs34_34 : Hid (Below w34.heap.size w34 w34) := Lib.hid (Below.refl _ _)
          clear ho
          have ltb40 := lt_of_block HKb4034.out
          obtain ⟨cb400, fb400⟩ := cell1 HKb4034.out
          have ltb41 := lt_of_block HKb4134.out
          obtain ⟨cb410, fb410⟩ := cell1 HKb4134.out
          go_wp2_with fail
          have hb : Below w34.heap.size w34 (w34.alloc (.cells #[.slice q42 qs4.length k42] 50)) := (Below.refl _ _).alloc (Nat.le_refl _) _
          have hk : (w34.alloc (.cells #[.slice q42 qs4.length k42] 50)).heap[w34.heap.size]? = some (.cells #[.slice q42 qs4.length k42] 50 (0, 0)) := alloc_at rfl
          have hz : (w34.alloc (.cells #[.slice q42 qs4.length k42] 50)).heap.size = w34.heap.size + 1 := by simp
          generalize w34.alloc (.cells #[.slice q42 qs4.length k42] 50) = w35 at hb hk hz ⊢
          have HB35 : Hid (Below w.heap.size w w35) := Lib.hid (HB34.out.trans (hb.mono HB34.out.size))
          have HZ35 : Hid (w34.heap.size ≤ w35.heap.size) := Lib.hid hb.size
          have HRk35 := Lib.hid (HRk0.out.below HB35.out (Nat.le_refl _))
          have HRs35 := Lib.hid (HRs34.out.below hb (Nat.le_refl _))
          have HRx35 := Lib.hid (HRx34.out.below hb (Nat.le_refl _))
          have HRy35 := Lib.hid (HRy34.out.below hb (Nat.le_refl _))
          have HKb4035 := Lib.hid ((hb.block _ (lt_of_block HKb4034.out)).trans HKb4034.out)
          have HKb4135 := Lib.hid ((hb.block _ (lt_of_block HKb4134.out)).trans HKb4134.out)
          have HRo35 := Lib.hid (HRo34.out.below hb (Nat.le_refl _))
          have HBs31_35 : Hid (Below w31.heap.size w31 w35) := Lib.hid (HBs31_34.out.trans (hb.mono HBs31_34.out.size))
          have HBs34_35 : Hid (Below w34.heap.size w34 w35) := Lib.hid (HBs34_34.out.trans (hb.mono HBs34_34.out.size))
          have HKb4235 := Lib.hid hk
          replace HZ35 : Hid (w34.heap.size < w35.heap.size) := Lib.hid (by omega)
          have HE35 := Lib.hid hz
          clear hb hk hz
          refine (sDifferenceOf_any _ _ _ us4 xs4 ys4 _ HRs35.out HSZ4.out HRx35.out HRy35.out qs4 r4 HK4.out).mono ?_
          rintro e w36 ⟨⟨t, rfl, ho⟩, hb⟩
          have HB36 : Hid (Below w.heap.size w w36) := Lib.hid (HB35.out.trans (hb.mono HB35.out.size))
          have HZ36 : Hid (w35.heap.size ≤ w36.heap.size) := Lib.hid hb.size
          have HRk36 := Lib.hid (HRk0.out.below HB36.out (Nat.le_refl _))
          have HRs36 := Lib.hid (HRs35.out.below hb (Nat.le_refl _))
          have HRx36 := Lib.hid (HRx35.out.below hb (Nat.le_refl _))
          have HRy36 := Lib.hid (HRy35.out.below hb (Nat.le_refl _))
          have HKb4036 := Lib.hid ((hb.block _ (lt_of_block HKb4035.out)).trans HKb4035.out)
          have HKb4136 := Lib.hid ((hb.block _ (lt_of_block HKb4135.out)).trans HKb4135.out)
          have HRo36 := Lib.hid (HRo35.out.below hb (Nat.le_refl _))
          have HKb4236 := Lib.hid ((hb.block _ (lt_of_block HKb4235.out)).trans HKb4235.out)
          have HBs31_36 : Hid (Below w31.heap.size w31 w36) := Lib.hid (HBs31_35.out.trans (hb.mono HBs31_35.out.size))
          have HBs34_36 : Hid (Below w34.heap.size w34 w36) := Lib.hid (HBs34_35.out.trans (hb.mono HBs34_35.out.size))
          clear hb
          obtain ⟨q43, k43, rfl⟩ : ∃ a c, t = .slice a qs4.length c := ho.form
          have HRp36 := Lib.hid (ho.reads)
          have HBs36_36 : Hid (Below w36.heap.size w36 w36) := Lib.hid (Below.refl _ _)
          clear ho
          clear cb400 fb400 ltb40 cb410 fb410 ltb41
          have ltb40 := lt_of_block HKb4036.out
          obtain ⟨cb400, fb400⟩ := cell1 HKb4036.out
          have ltb41 := lt_of_block HKb4136.out
          obtain ⟨cb410, fb410⟩ := cell1 HKb4136.out
          have ltb42 := lt_of_block HKb4236.out
          obtain ⟨cb420, fb420⟩ := cell1 HKb4236.out
          go_wp2_with fail
          have hb : Below w36.heap.size w36 (w36.alloc (.cells #[.slice q43 qs4.length k43] 50)) := (Below.refl _ _).alloc (Nat.le_refl _) _
          have hk : (w36.alloc (.cells #[.slice q43 qs4.length k43] 50)).heap[w36.heap.size]? = some (.cells #[.slice q43 qs4.length k43] 50 (0, 0)) := alloc_at rfl
          have hz : (w36.alloc (.cells #[.slice q43 qs4.length k43] 50)).heap.size = w36.heap.size + 1 := by simp
          generalize w36.alloc (.cells #[.slice q43 qs4.length k43] 50) = w37 at hb hk hz ⊢
          have HB37 : Hid (Below w.heap.size w w37) := Lib.hid (HB36.out.trans (hb.mono HB36.out.size))
          have HZ37 : Hid (w36.heap.size ≤ w37.heap.size) := Lib.hid hb.size
          have HRk37 := Lib.hid (HRk0.out.below HB37.out (Nat.le_refl _))
          have HRs37 := Lib.hid (HRs36.out.below hb (Nat.le_refl _))
          have HRx37 := Lib.hid (HRx36.out.below hb (Nat.le_refl _))
          have HRy37 := Lib.hid (HRy36.out.below hb (Nat.le_refl _))
          have HKb4037 := Lib.hid ((hb.block _ (lt_of_block HKb4036.out)).trans HKb4036.out)
          have HKb4137 := Lib.hid ((hb.block _ (lt_of_block HKb4136.out)).trans HKb4136.out)
          have HRo37 := Lib.hid (HRo36.out.below hb (Nat.le_refl _))
          have HKb4237 := Lib.hid ((hb.block _ (lt_of_block HKb4236.out)).trans HKb4236.out)
          have HRp37 := Lib.hid (HRp36.out.below hb (Nat.le_refl _))
          have HBs31_37 : Hid (Below w31.heap.size w31 w37) := Lib.hid (HBs31_36.out.trans (hb.mono HBs31_36.out.size))
          have HBs34_37 : Hid (Below w34.heap.size w34 w37) := Lib.hid (HBs34_36.out.trans (hb.mono HBs34_36.out.size))
          have HBs36_37 : Hid (Below w36.heap.size w36 w37) := Lib.hid (HBs36_36.out.trans (hb.mono HBs36_36.out.size))
          have HKb4337 := Lib.hid hk
          replace HZ37 : Hid (w36.heap.size < w37.heap.size) := Lib.hid (by omega)
          have HE37 := Lib.hid hz
          clear hb hk hz
          refine (rAmount_yes _ _ qs4 _ HRo37.out HRp37.out).mono ?_
          rintro e w38 ⟨rfl, hb⟩
          have HB38 : Hid (Below w.heap.size w w38) := Lib.hid (HB37.out.trans (hb.mono HB37.out.size))
          have HZ38 : Hid (w37.heap.size ≤ w38.heap.size) := Lib.hid hb.size
          have HRk38 := Lib.hid (HRk0.out.below HB38.out (Nat.le_refl _))
          have HRs38 := Lib.hid (HRs37.out.below hb (Nat.le_refl _))
          have HRx38 := Lib.hid (HRx37.out.below hb (Nat.le_refl _))
          have HRy38 := Lib.hid (HRy37.out.below hb (Nat.le_refl _))
          have HKb4038 := Lib.hid ((hb.block _ (lt_of_block HKb4037.out)).trans HKb4037.out)
          have HKb4138 := Lib.hid ((hb.block _ (lt_of_block HKb4137.out)).trans HKb4137.out)
          have HRo38 := Lib.hid (HRo37.out.below hb (Nat.le_refl _))
          have HKb4238 := Lib.hid ((hb.block _ (lt_of_block HKb4237.out)).trans HKb4237.out)
          have HRp38 := Lib.hid (HRp37.out.below hb (Nat.le_refl _))
          have HKb4338 := Lib.hid ((hb.block _ (lt_of_block HKb4337.out)).trans HKb4337.out)
          have HBs31_38 : Hid (Below w31.heap.size w31 w38) := Lib.hid (HBs31_37.out.trans (hb.mono HBs31_37.out.size))
          have HBs34_38 : Hid (Below w34.heap.size w34 w38) := Lib.hid (HBs34_37.out.trans (hb.mono HBs34_37.out.size))
          have HBs36_38 : Hid (Below w36.heap.size w36 w38) := Lib.hid (HBs36_37.out.trans (hb.mono HBs36_37.out.size))
          clear hb
          clear cb400 fb400 ltb40 cb410 fb410 ltb41 cb420 fb420 ltb42
          have ltb40 := lt_of_block HKb4038.out
          obtain ⟨cb400, fb400⟩ := cell1 HKb4038.out
          have ltb41 := lt_of_block HKb4138.out
          obtain ⟨cb410, fb410⟩ := cell1 HKb4138.out
          have ltb42 := lt_of_block HKb4238.out
          obtain ⟨cb420, fb420⟩ := cell1 HKb4238.out
          have ltb43 := lt_of_block HKb4338.out
          obtain ⟨cb430, fb430⟩ := cell1 HKb4338.out
          go_wp2_with fail
          refine (iSys_any _ us4 _ HRs38.out HSZ4.out s4 HI4.out).mono ?_
          rintro e w39 ⟨rfl, hb⟩
          have HB39 : Hid (Below w.heap.size w w39) := Lib.hid (HB38.out.trans (hb.mono HB38.out.size))
          have HZ39 : Hid (w38.heap.size ≤ w39.heap.size) := Lib.hid hb.size
          have HRk39 := Lib.hid (HRk0.out.below HB39.out (Nat.le_refl _))
          have HRs39 := Lib.hid (HRs38.out.below hb (Nat.le_refl _))
          have HRx39 := Lib.hid (HRx38.out.below hb (Nat.le_refl _))
          have HRy39 := Lib.hid (HRy38.out.below hb (Nat.le_refl _))
          have HKb4039 := Lib.hid ((hb.block _ (lt_of_block HKb4038.out)).trans HKb4038.out)
          have HKb4139 := Lib.hid ((hb.block _ (lt_of_block HKb4138.out)).trans HKb4138.out)
          have HRo39 := Lib.hid (HRo38.out.below hb (Nat.le_refl _))
          have HKb4239 := Lib.hid ((hb.block _ (lt_of_block HKb4238.out)).trans HKb4238.out)
          have HRp39 := Lib.hid (HRp38.out.below hb (Nat.le_refl _))
          have HKb4339 := Lib.hid ((hb.block _ (lt_of_block HKb4338.out)).trans HKb4338.out)
          have HBs31_39 : Hid (Below w31.heap.size w31 w39) := Lib.hid (HBs31_38.out.trans (hb.mono HBs31_38.out.size))
          have HBs34_39 : Hid (Below w34.heap.size w34 w39) := Lib.hid (HBs34_38.out.trans (hb.mono HBs34_38.out.size))
          have HBs36_39 : Hid (Below w36.heap.size w36 w39) := Lib.hid (HBs36_38.out.trans (hb.mono HBs36_38.out.size))
          clear hb
          clear cb400 fb400 ltb40 cb410 fb410 ltb41 cb420 fb420 ltb42 cb430 fb430 ltb43
          have ltb40 := lt_of_block HKb4039.out
          obtain ⟨cb400, fb400⟩ := cell1 HKb4039.out
          have ltb41 := lt_of_block HKb4139.out
          obtain ⟨cb410, fb410⟩ := cell1 HKb4139.out
          have ltb42 := lt_of_block HKb4239.out
          obtain ⟨cb420, fb420⟩ := cell1 HKb4239.out
          have ltb43 := lt_of_block HKb4339.out
          obtain ⟨cb430, fb430⟩ := cell1 HKb4339.out
          go_wp2_with fail
          refine (sSys_any _ us4 _ HRs39.out HSZ4.out s4 HI4.out).mono ?_
          rintro e w40 ⟨rfl, hb⟩
          have HB40 : Hid (Below w.heap.size w w40) := Lib.hid (HB39.out.trans (hb.mono HB39.out.size))
          have HZ40 : Hid (w39.heap.size ≤ w40.heap.size) := Lib.hid hb.size
          have HRk40 := Lib.hid (HRk0.out.below HB40.out (Nat.le_refl _))
          have HRs40 := Lib.hid (HRs39.out.below hb (Nat.le_refl _))
          have HRx40 := Lib.hid (HRx39.out.below hb (Nat.le_refl _))
          have HRy40 := Lib.hid (HRy39.out.below hb (Nat.le_refl _))
          have HKb4040 := Lib.hid ((hb.block _ (lt_of_block HKb4039.out)).trans HKb4039.out)
          have HKb4140 := Lib.hid ((hb.block _ (lt_of_block HKb4139.out)).trans HKb4139.out)
          have HRo40 := Lib.hid (HRo39.out.below hb (Nat.le_refl _))
          have HKb4240 := Lib.hid ((hb.block _ (lt_of_block HKb4239.out)).trans HKb4239.out)
          have HRp40 := Lib.hid (HRp39.out.below hb (Nat.le_refl _))
          have HKb4340 := Lib.hid ((hb.block _ (lt_of_block HKb4339.out)).trans HKb4339.out)
          have HBs31_40 : Hid (Below w31.heap.size w31 w40) := Lib.hid (HBs31_39.out.trans (hb.mono HBs31_39.out.size))
          have HBs34_40 : Hid (Below w34.heap.size w34 w40) := Lib.hid (HBs34_39.out.trans (hb.mono HBs34_39.out.size))
          have HBs36_40 : Hid (Below w36.heap.size w36 w40) := Lib.hid (HBs36_39.out.trans (hb.mono HBs36_39.out.size))
          clear hb
          clear cb400 fb400 ltb40 cb410 fb410 ltb41 cb420 fb420 ltb42 cb430 fb430 ltb43
          have ltb40 := lt_of_block HKb4040.out
          obtain ⟨cb400, fb400⟩ := cell1 HKb4040.out
          have ltb41 := lt_of_block HKb4140.out
          obtain ⟨cb410, fb410⟩ := cell1 HKb4140.out
          have ltb42 := lt_of_block HKb4240.out
          obtain ⟨cb420, fb420⟩ := cell1 HKb4240.out
          have ltb43 := lt_of_block HKb4340.out
          obtain ⟨cb430, fb430⟩ := cell1 HKb4340.out
          go_wp2_with fail
          go_ret
          exact ⟨rfl, HB40.out⟩
      | false =>
        clear cb200 fb200 ltb20 cb210 fb210 ltb21 cb220 fb220 ltb22
        have ltb20 := lt_of_block HKb2016.out
        obtain ⟨cb200, fb200⟩ := cell1 HKb2016.out
        have ltb21 := lt_of_block HKb2116.out
        obtain ⟨cb210, fb210⟩ := cell1 HKb2116.out
        have ltb22 := lt_of_block HKb2216.out
        obtain ⟨cb220, fb220⟩ := cell1 HKb2216.out
        go_wp2_with fail
        refine (drawPartOf_any _ L _ HRk16.out).mono ?_
        rintro e w17 ⟨⟨v, x, us3, xs3, n3, rfl, hv, hx, ⟨hl, hnm⟩, hxl, hz0, hz1⟩, hb⟩
        have HB17 : Hid (Below w.heap.size w w17) := Lib.hid (HB16.out.trans (hb.mono HB16.out.size))
        have HZ17 : Hid (w16.heap.size ≤ w17.heap.size) := Lib.hid hb.size
        have HRk17 := Lib.hid (HRk0.out.below HB17.out (Nat.le_refl _))
        clear hb
        obtain ⟨qs3, ks3, rfl⟩ := own_form hv
        have HRs17 := Lib.hid ((RowsR.of_own unC_len hv))
        have HBs17_17 : Hid (Below w17.heap.size w17 w17) := Lib.hid (Below.refl _ _)
        clear hv
        have HSZ3 := Lib.hid (nm_small hnm)
        clear hl hnm
        obtain ⟨q30, k30, rfl⟩ := own_form hx
        have HRx17 := Lib.hid ((RowsR.of_own inC_len hx))
        clear hx
        clear hxl
        obtain ⟨qa3, qb3, r3, x0, b0, x1, b1, x2, b2, hk, hv0, hv1, hv2, hT⟩ := ms_part us3 xs3 n3
        have HK3 := Lib.hid hk
        have HV30 := Lib.hid hv0
        have HV31 := Lib.hid hv1
        have HV32 := Lib.hid hv2
        have HT3 := Lib.hid hT
        clear hk hv0 hv1 hv2 hT
        have e3 : (r3 != r3) = false := by simp
        clear cb200 fb200 ltb20 cb210 fb210 ltb21 cb220 fb220 ltb22
        go_wp2_with fail
        have hb : Below w17.heap.size w17 (w17.alloc (.cells #[.slice q30 xs3.length k30] 50)) := (Below.refl _ _).alloc (Nat.le_refl _) _
        have hk : (w17.alloc (.cells #[.slice q30 xs3.length k30] 50)).heap[w17.heap.size]? = some (.cells #[.slice q30 xs3.length k30] 50 (0, 0)) := alloc_at rfl
        have hz : (w17.alloc (.cells #[.slice q30 xs3.length k30] 50)).heap.size = w17.heap.size + 1 := by simp
        generalize w17.alloc (.cells #[.slice q30 xs3.length k30] 50) = w18 at hb hk hz ⊢
        have HB18 : Hid (Below w.heap.size w w18) := Lib.hid (HB17.out.trans (hb.mono HB17.out.size))
        have HZ18 : Hid (w17.heap.size ≤ w18.heap.size) := Lib.hid hb.size
        have HRk18 := Lib.hid (HRk0.out.below HB18.out (Nat.le_refl _))
        have HRs18 := Lib.hid (HRs17.out.below hb (Nat.le_refl _))
        have HRx18 := Lib.hid (HRx17.out.below hb (Nat.le_refl _))
        have HBs17_18 : Hid (Below w17.heap.size w17 w18) := Lib.hid (HBs17_17.out.trans (hb.mono HBs17_17.out.size))
        have HKb3018 := Lib.hid hk
        replace HZ18 : Hid (w17.heap.size < w18.heap.size) := Lib.hid (by omega)
        have HE18 := Lib.hid hz
        clear hb hk hz
        refine (iPartOf_any _ _ us3 xs3 n3 _ HRs18.out HSZ3.out HRx18.out qa3 qb3 r3 HK3.out).mono ?_
        rintro e w19 ⟨⟨t1, t2, rfl, ho⟩, hb⟩
        have HB19 : Hid (Below w.heap.size w w19) := Lib.hid (HB18.out.trans (hb.mono HB18.out.size))
        have HZ19 : Hid (w18.heap.size ≤ w19.heap.size) := Lib.hid hb.size
        have HRk19 := Lib.hid (HRk0.out.below HB19.out (Nat.le_refl _))
        have HRs19 := Lib.hid (HRs18.out.below hb (Nat.le_refl _))
        have HRx19 := Lib.hid (HRx18.out.below hb (Nat.le_refl _))
        have HKb3019 := Lib.hid ((hb.block _ (lt_of_block HKb3018.out)).trans HKb3018.out)
        have HBs17_19 : Hid (Below w17.heap.size w17 w19) := Lib.hid (HBs17_18.out.trans (hb.mono HBs17_18.out.size))
        clear hb
        obtain ⟨x1', y1', x2', y2', ho1, ho2, -⟩ := OwB.split ho (by have := HZ1.out; have := HZ2.out; have := HZ3.out; have := HZ4.out; have := HZ5.out; have := HZ6.out; have := HZ7.out; have := HZ8.out; have := HZ9.out; have := HZ10.out; have := HZ11.out; have := HZ12.out; have := HZ13.out; have := HZ14.out; have := HZ15.out; have := HZ16.out; have := HZ17.out; have := HZ18.out; have := HZ19.out;  omega)
        clear ho
        obtain ⟨q31, k31, rfl⟩ : ∃ a c, t1 = .slice a qa3.length c := ho1.form
        obtain ⟨q32, k32, rfl⟩ : ∃ a c, t2 = .slice a qb3.length c := ho2.form
        have HRo19 := Lib.hid (ho1.reads)
        have HBs19_19 : Hid (Below w19.heap.size w19 w19) := Lib.hid (Below.refl _ _)
        have HRe19 := Lib.hid (ho2.reads)
        clear ho1 ho2
        have ltb30 := lt_of_block HKb3019.out
        obtain ⟨cb300, fb300⟩ := cell1 HKb3019.out
        go_wp2_with fail
        have hb : Below w19.heap.size w19 (w19.alloc (.cells #[.slice q31 qa3.length k31] 50)) := (Below.refl _ _).alloc (Nat.le_refl _) _
        have hk : (w19.alloc (.cells #[.slice q31 qa3.length k31] 50)).heap[w19.heap.size]? = some (.cells #[.slice q31 qa3.length k31] 50 (0, 0)) := alloc_at rfl
        have hz : (w19.alloc (.cells #[.slice q31 qa3.length k31] 50)).heap.size = w19.heap.size + 1 := by simp
        generalize w19.alloc (.cells #[.slice q31 qa3.length k31] 50) = w20 at hb hk hz ⊢
        have HB20 : Hid (Below w.heap.size w w20) := Lib.hid (HB19.out.trans (hb.mono HB19.out.size))
        have HZ20 : Hid (w19.heap.size ≤ w20.heap.size) := Lib.hid hb.size
        have HRk20 := Lib.hid (HRk0.out.below HB20.out (Nat.le_refl _))
        have HRs20 := Lib.hid (HRs19.out.below hb (Nat.le_refl _))
        have HRx20 := Lib.hid (HRx19.out.below hb (Nat.le_refl _))
        have HKb3020 := Lib.hid ((hb.block _ (lt_of_block HKb3019.out)).trans HKb3019.out)
        have HRo20 := Lib.hid (HRo19.out.below hb (Nat.le_refl _))
        have HRe20 := Lib.hid (HRe19.out.below hb (Nat.le_refl _))
        have HBs17_20 : Hid (Below w17.heap.size w17 w20) := Lib.hid (HBs17_19.out.trans (hb.mono HBs17_19.out.size))
        have HBs19_20 : Hid (Below w19.heap.size w19 w20) := Lib.hid (HBs19_19.out.trans (hb.mono HBs19_19.out.size))
        have HKb3120 := Lib.hid hk
        replace HZ20 : Hid (w19.heap.size < w20.heap.size) := Lib.hid (by omega)
        have HE20 := Lib.hid hz
        clear hb hk hz
        have hb : Below w20.heap.size w20 (w20.alloc (.cells #[.slice q32 qb3.length k32] 50)) := (Below.refl _ _).alloc (Nat.le_refl _) _
        have hk : (w20.alloc (.cells #[.slice q32 qb3.length k32] 50)).heap[w19.heap.size + 1]? = some (.cells #[.slice q32 qb3.length k32] 50 (0, 0)) := alloc_at (by have := HE3.out; have := HE5.out; have := HE10.out; have := HE11.out; have := HE13.out; have := HE15.out; have := HE18.out; have := HE20.out; omega)
        have hz : (w20.alloc (.cells #[.slice q32 qb3.length k32] 50)).heap.size = w20.heap.size + 1 := by simp
        generalize w20.alloc (.cells #[.slice q32 qb3.length k32] 50) = w21 at hb hk hz ⊢
        have HB21 : Hid (Below w.heap.size w w21) := Lib.hid (HB20.out.trans (hb.mono HB20.out.size))
        have HZ21 : Hid (w20.heap.size ≤ w21.heap.size) := Lib.hid hb.size
        have HRk21 := Lib.hid (HRk0.out.below HB21.out (Nat.le_refl _))
        have HRs21 := Lib.hid (HRs20.out.below hb (Nat.le_refl _))
        have HRx21 := Lib.hid (HRx20.out.below hb (Nat.le_refl _))
        have HKb3021 := Lib.hid ((hb.block _ (lt_of_block HKb3020.out)).trans HKb3020.out)
        have HRo21 := Lib.hid (HRo20.out.below hb (Nat.le_refl _))
        have HRe21 := Lib.hid (HRe20.out.below hb (Nat.le_refl _))
        have HKb3121 := Lib.hid ((hb.block _ (lt_of_block HKb3120.out)).trans HKb3120.out)
        have HBs17_21 : Hid (Below w17.heap.size w17 w21) := Lib.hid (HBs17_20.out.trans (hb.mono HBs17_20.out.size))
        have HBs19_21 : Hid (Below w19.heap.size w19 w21) := Lib.hid (HBs19_20.out.trans (hb.mono HBs19_20.out.size))
        have HKb3221 := Lib.hid hk
        replace HZ21 : Hid (w20.heap.size < w21.heap.size) := Lib.hid (by omega)
        have HE21 := Lib.hid hz
        clear hb hk hz
        refine (sPartOf_any _ _ us3 xs3 n3 _ HRs21.out HSZ3.out HRx21.out qa3 qb3 r3 HK3.out).mono ?_
        rintro e w22 ⟨⟨t1, t2, rfl, ho⟩, hb⟩
        have HB22 : Hid (Below w.heap.size w w22) := Lib.hid (HB21.out.trans (hb.mono HB21.out.size))
        have HZ22 : Hid (w21.heap.size ≤ w22.heap.size) := Lib.hid hb.size
        have HRk22 := Lib.hid (HRk0.out.below HB22.out (Nat.le_refl _))
        have HRs22 := Lib.hid (HRs21.out.below hb (Nat.le_refl _))
        have HRx22 := Lib.hid (HRx21.out.below hb (Nat.le_refl _))
        have HKb3022 := Lib.hid ((hb.block _ (lt_of_block HKb3021.out)).trans HKb3021.out)
        have HRo22 := Lib.hid (HRo21.out.below hb (Nat.le_refl _))
        have HRe22 := Lib.hid (HRe21.out.below hb (Nat.le_refl _))
        have HKb3122 := Lib.hid ((hb.block _ (lt_of_block HKb3121.out)).trans HKb3121.out)
        have HKb3222 := Lib.hid ((hb.block _ (lt_of_block HKb3221.out)).trans HKb3221.out)
        have HBs17_22 : Hid (Below w17.heap.size w17 w22) := Lib.hid (HBs17_21.out.trans (hb.mono HBs17_21.out.size))
        have HBs19_22 : Hid (Below w19.heap.size w19 w22) := Lib.hid (HBs19_21.out.trans (hb.mono HBs19_21.out.size))
        clear hb
        obtain ⟨x1', y1', x2', y2', ho1, ho2, -⟩ := OwB.split ho (by have := HZ1.out; have := HZ2.out; have := HZ3.out; have := HZ4.out; have := HZ5.out; have := HZ6.out; have := HZ7.out; have := HZ8.out; have := HZ9.out; have := HZ10.out; have := HZ11.out; have := HZ12.out; have := HZ13.out; have := HZ14.out; have := HZ15.out; have := HZ16.out; have := HZ17.out; have := HZ18.out; have := HZ19.out; have := HZ20.out; have := HZ21.out; have := HZ22.out;  omega)
        clear ho
        obtain ⟨q33, k33, rfl⟩ : ∃ a c, t1 = .slice a qa3.length c := ho1.form
        obtain ⟨q34, k34, rfl⟩ : ∃ a c, t2 = .slice a qb3.length c := ho2.form
        have HRp22 := Lib.hid (ho1.reads)
        have HBs22_22 : Hid (Below w22.heap.size w22 w22) := Lib.hid (Below.refl _ _)
        have HRq22 := Lib.hid (ho2.reads)
        clear ho1 ho2
        clear cb300 fb300 ltb30
        have ltb30 := lt_of_block HKb3022.out
        obtain ⟨cb300, fb300⟩ := cell1 HKb3022.out
        have ltb31 := lt_of_block HKb3122.out
        obtain ⟨cb310, fb310⟩ := cell1 HKb3122.out
        have ltb32 := lt_of_block HKb3222.out
        obtain ⟨cb320, fb320⟩ := cell1 HKb3222.out
        go_wp2_with fail
        have hb : Below w22.heap.size w22 (w22.alloc (.cells #[.slice q33 qa3.length k33] 50)) := (Below.refl _ _).alloc (Nat.le_refl _) _
        have hk : (w22.alloc (.cells #[.slice q33 qa3.length k33] 50)).heap[w22.heap.size]? = some (.cells #[.slice q33 qa3.length k33] 50 (0, 0)) := alloc_at rfl
        have hz : (w22.alloc (.cells #[.slice q33 qa3.length k33] 50)).heap.size = w22.heap.size + 1 := by simp
        generalize w22.alloc (.cells #[.slice q33 qa3.length k33] 50) = w23 at hb hk hz ⊢
        have HB23 : Hid (Below w.heap.size w w23) := Lib.hid (HB22.out.trans (hb.mono HB22.out.size))
        have HZ23 : Hid (w22.heap.size ≤ w23.heap.size) := Lib.hid hb.size
        have HRk23 := Lib.hid (HRk0.out.below HB23.out (Nat.le_refl _))
        have HRs23 := Lib.hid (HRs22.out.below hb (Nat.le_refl _))
        have HRx23 := Lib.hid (HRx22.out.below hb (Nat.le_refl _))
        have HKb3023 := Lib.hid ((hb.block _ (lt_of_block HKb3022.out)).trans HKb3022.out)
        have HRo23 := Lib.hid (HRo22.out.below hb (Nat.le_refl _))
        have HRe23 := Lib.hid (HRe22.out.below hb (Nat.le_refl _))
        have HKb3123 := Lib.hid ((hb.block _ (lt_of_block HKb3122.out)).trans HKb3122.out)
        have HKb3223 := Lib.hid ((hb.block _ (lt_of_block HKb3222.out)).trans HKb3222.out)
        have HRp23 := Lib.hid (HRp22.out.below hb (Nat.le_refl _))
        have HRq23 := Lib.hid (HRq22.out.below hb (Nat.le_refl _))
        have HBs17_23 : Hid (Below w17.heap.size w17 w23) := Lib.hid (HBs17_22.out.trans (hb.mono HBs17_22.out.size))
        have HBs19_23 : Hid (Below w19.heap.size w19 w23) := Lib.hid (HBs19_22.out.trans (hb.mono HBs19_22.out.size))
        have HBs22_23 : Hid (Below w22.heap.size w22 w23) := Lib.hid (HBs22_22.out.trans (hb.mono HBs22_22.out.size))
        have HKb3323 := Lib.hid hk
        replace HZ23 : Hid (w22.heap.size < w23.heap.size) := Lib.hid (by omega)
        have HE23 := Lib.hid hz
        clear hb hk hz
        have hb : Below w23.heap.size w23 (w23.alloc (.cells #[.slice q34 qb3.length k34] 50)) := (Below.refl _ _).alloc (Nat.le_refl _) _
        have hk : (w23.alloc (.cells #[.slice q34 qb3.length k34] 50)).heap[w22.heap.size + 1]? = some (.cells #[.slice q34 qb3.length k34] 50 (0, 0)) := alloc_at (by have := HE3.out; have := HE5.out; have := HE10.out; have := HE11.out; have := HE13.out; have := HE15.out; have := HE18.out; have := HE20.out; have := HE21.out; have := HE23.out; omega)
        have hz : (w23.alloc (.cells #[.slice q34 qb3.length k34] 50)).heap.size = w23.heap.size + 1 := by simp
        generalize w23.alloc (.cells #[.slice q34 qb3.length k34] 50) = w24 at hb hk hz ⊢
        have HB24 : Hid (Below w.heap.size w w24) := Lib.hid (HB23.out.trans (hb.mono HB23.out.size))
        have HZ24 : Hid (w23.heap.size ≤ w24.heap.size) := Lib.hid hb.size
        have HRk24 := Lib.hid (HRk0.out.below HB24.out (Nat.le_refl _))
        have HRs24 := Lib.hid (HRs23.out.below hb (Nat.le_refl _))
        have HRx24 := Lib.hid (HRx23.out.below hb (Nat.le_refl _))
        have HKb3024 := Lib.hid ((hb.block _ (lt_of_block HKb3023.out)).trans HKb3023.out)
        have HRo24 := Lib.hid (HRo23.out.below hb (Nat.le_refl _))
        have HRe24 := Lib.hid (HRe23.out.below hb (Nat.le_refl _))
        have HKb3124 := Lib.hid ((hb.block _ (lt_of_block HKb3123.out)).trans HKb3123.out)
        have HKb3224 := Lib.hid ((hb.block _ (lt_of_block HKb3223.out)).trans HKb3223.out)
        have HRp24 := Lib.hid (HRp23.out.below hb (Nat.le_refl _))
        have HRq24 := Lib.hid (HRq23.out.below hb (Nat.le_refl _))
        have HKb3324 := Lib.hid ((hb.block _ (lt_of_block HKb3323.out)).trans HKb3323.out)
        have HBs17_24 : Hid (Below w17.heap.size w17 w24) := Lib.hid (HBs17_23.out.trans (hb.mono HBs17_23.out.size))
        have HBs19_24 : Hid (Below w19.heap.size w19 w24) := Lib.hid (HBs19_23.out.trans (hb.mono HBs19_23.out.size))
        have HBs22_24 : Hid (Below w22.heap.size w22 w24) := Lib.hid (HBs22_23.out.trans (hb.mono HBs22_23.out.size))
        have HKb3424 := Lib.hid hk
        replace HZ24 : Hid (w23.heap.size < w24.heap.size) := Lib.hid (by omega)
        have HE24 := Lib.hid hz
        clear hb hk hz
        refine (rAmount_yes _ _ qa3 _ HRo24.out HRp24.out).mono ?_
        rintro e w25 ⟨rfl, hb⟩
        have HB25 : Hid (Below w.heap.size w w25) := Lib.hid (HB24.out.trans (hb.mono HB24.out.size))
        have HZ25 : Hid (w24.heap.size ≤ w25.heap.size) := Lib.hid hb.size
        have HRk25 := Lib.hid (HRk0.out.below HB25.out (Nat.le_refl _))
        have HRs25 := Lib.hid (HRs24.out.below hb (Nat.le_refl _))
        have HRx25 := Lib.hid (HRx24.out.below hb (Nat.le_refl _))
        have HKb3025 := Lib.hid ((hb.block _ (lt_of_block HKb3024.out)).trans HKb3024.out)
        have HRo25 := Lib.hid (HRo24.out.below hb (Nat.le_refl _))
        have HRe25 := Lib.hid (HRe24.out.below hb (Nat.le_refl _))
        have HKb3125 := Lib.hid ((hb.block _ (lt_of_block HKb3124.out)).trans HKb3124.out)
        have HKb3225 := Lib.hid ((hb.block _ (lt_of_block HKb3224.out)).trans HKb3224.out)
        have HRp25 := Lib.hid (HRp24.out.below hb (Nat.le_refl _))
        have HRq25 := Lib.hid (HRq24.out.below hb (Nat.le_refl _))
        have HKb3325 := Lib.hid ((hb.block _ (lt_of_block HKb3324.out)).trans HKb3324.out)
        have HKb3425 := Lib.hid ((hb.block _ (lt_of_block HKb3424.out)).trans HKb3424.out)
        have HBs17_25 : Hid (Below w17.heap.size w17 w25) := Lib.hid (HBs17_24.out.trans (hb.mono HBs17_24.out.size))
        have HBs19_25 : Hid (Below w19.heap.size w19 w25) := Lib.hid (HBs19_24.out.trans (hb.mono HBs19_24.out.size))
        have HBs22_25 : Hid (Below w22.heap.size w22 w25) := Lib.hid (HBs22_24.out.trans (hb.mono HBs22_24.out.size))
        clear hb
        clear cb300 fb300 ltb30 cb310 fb310 ltb31 cb320 fb320 ltb32
        have ltb30 := lt_of_block HKb3025.out
        obtain ⟨cb300, fb300⟩ := cell1 HKb3025.out
        have ltb31 := lt_of_block HKb3125.out
        obtain ⟨cb310, fb310⟩ := cell1 HKb3125.out
        have ltb32 := lt_of_block HKb3225.out
        obtain ⟨cb320, fb320⟩ := cell1 HKb3225.out
        have ltb33 := lt_of_block HKb3325.out
        obtain ⟨cb330, fb330⟩ := cell1 HKb3325.out
        have ltb34 := lt_of_block HKb3425.out
        obtain ⟨cb340, fb340⟩ := cell1 HKb3425.out
        go_wp2_with fail
        refine (rAmount_yes _ _ qb3 _ HRe25.out HRq25.out).mono ?_
        rintro e w26 ⟨rfl, hb⟩
        have HB26 : Hid (Below w.heap.size w w26) := Lib.hid (HB25.out.trans (hb.mono HB25.out.size))
        have HZ26 : Hid (w25.heap.size ≤ w26.heap.size) := Lib.hid hb.size
        have HRk26 := Lib.hid (HRk0.out.below HB26.out (Nat.le_refl _))
        have HRs26 := Lib.hid (HRs25.out.below hb (Nat.le_refl _))
        have HRx26 := Lib.hid (HRx25.out.below hb (Nat.le_refl _))
        have HKb3026 := Lib.hid ((hb.block _ (lt_of_block HKb3025.out)).trans HKb3025.out)
        have HRo26 := Lib.hid (HRo25.out.below hb (Nat.le_refl _))
        have HRe26 := Lib.hid (HRe25.out.below hb (Nat.le_refl _))
        have HKb3126 := Lib.hid ((hb.block _ (lt_of_block HKb3125.out)).trans HKb3125.out)
        have HKb3226 := Lib.hid ((hb.block _ (lt_of_block HKb3225.out)).trans HKb3225.out)
        have HRp26 := Lib.hid (HRp25.out.below hb (Nat.le_refl _))
        have HRq26 := Lib.hid (HRq25.out.below hb (Nat.le_refl _))
        have HKb3326 := Lib.hid ((hb.block _ (lt_of_block HKb3325.out)).trans HKb3325.out)
        have HKb3426 := Lib.hid ((hb.block _ (lt_of_block HKb3425.out)).trans HKb3425.out)
        have HBs17_26 : Hid (Below w17.heap.size w17 w26) := Lib.hid (HBs17_25.out.trans (hb.mono HBs17_25.out.size))
        have HBs19_26 : Hid (Below w19.heap.size w19 w26) := Lib.hid (HBs19_25.out.trans (hb.mono HBs19_25.out.size))
        have HBs22_26 : Hid (Below w22.heap.size w22 w26) := Lib.hid (HBs22_25.out.trans (hb.mono HBs22_25.out.size))
        clear hb
        cases r3 with
        | true =>
          obtain ⟨⟨rfl, rfl, rfl⟩, w1, w2', l1, l2⟩ := HT3.out rfl
          have g1 : (x0 != x0) = false := by simp
          clear cb300 fb300 ltb30 cb310 fb310 ltb31 cb320 fb320 ltb32 cb330 fb330 ltb33 cb340 fb340 ltb34
          have ltb30 := lt_of_block HKb3026.out
          obtain ⟨cb300, fb300⟩ := cell1 HKb3026.out
          have ltb31 := lt_of_block HKb3126.out
          obtain ⟨cb310, fb310⟩ := cell1 HKb3126.out
          have ltb32 := lt_of_block HKb3226.out
          obtain ⟨cb320, fb320⟩ := cell1 HKb3226.out
          go_wp2_with fail
          refine (iVal_any _ _ us3 xs3 _ HRs26.out HSZ3.out HRx26.out x0 true HV30.out).mono ?_
          rintro e w27 ⟨rfl, hb⟩
          have HB27 : Hid (Below w.heap.size w w27) := Lib.hid (HB26.out.trans (hb.mono HB26.out.size))
          have HZ27 : Hid (w26.heap.size ≤ w27.heap.size) := Lib.hid hb.size
          have HRk27 := Lib.hid (HRk0.out.below HB27.out (Nat.le_refl _))
          have HRs27 := Lib.hid (HRs26.out.below hb (Nat.le_refl _))
          have HRx27 := Lib.hid (HRx26.out.below hb (Nat.le_refl _))
          have HKb3027 := Lib.hid ((hb.block _ (lt_of_block HKb3026.out)).trans HKb3026.out)
          have HRo27 := Lib.hid (HRo26.out.below hb (Nat.le_refl _))
          have HRe27 := Lib.hid (HRe26.out.below hb (Nat.le_refl _))
          have HKb3127 := Lib.hid ((hb.block _ (lt_of_block HKb3126.out)).trans HKb3126.out)
          have HKb3227 := Lib.hid ((hb.block _ (lt_of_block HKb3226.out)).trans HKb3226.out)
          have HBs17_27 : Hid (Below w17.heap.size w17 w27) := Lib.hid (HBs17_26.out.trans (hb.mono HBs17_26.out.size))
          have HBs19_27 : Hid (Below w19.heap.size w19 w27) := Lib.hid (HBs19_26.out.trans (hb.mono HBs19_26.out.size))
          clear hb
          clear cb300 fb300 ltb30 cb310 fb310 ltb31 cb320 fb320 ltb32
          have ltb30 := lt_of_block HKb3027.out
          obtain ⟨cb300, fb300⟩ := cell1 HKb3027.out
          have ltb31 := lt_of_block HKb3127.out
          obtain ⟨cb310, fb310⟩ := cell1 HKb3127.out
          have ltb32 := lt_of_block HKb3227.out
          obtain ⟨cb320, fb320⟩ := cell1 HKb3227.out
          go_wp2_with fail
          refine (iVal_any _ _ us3 qa3 _ HRs27.out HSZ3.out HRo27.out x1 true HV31.out).mono ?_
          rintro e w28 ⟨rfl, hb⟩
          have HB28 : Hid (Below w.heap.size w w28) := Lib.hid (HB27.out.trans (hb.mono HB27.out.size))
          have HZ28 : Hid (w27.heap.size ≤ w28.heap.size) := Lib.hid hb.size
          have HRk28 := Lib.hid (HRk0.out.below HB28.out (Nat.le_refl _))
          have HRs28 := Lib.hid (HRs27.out.below hb (Nat.le_refl _))
          have HRx28 := Lib.hid (HRx27.out.below hb (Nat.le_refl _))
          have HKb3028 := Lib.hid ((hb.block _ (lt_of_block HKb3027.out)).trans HKb3027.out)
          have HRo28 := Lib.hid (HRo27.out.below hb (Nat.le_refl _))
          have HRe28 := Lib.hid (HRe27.out.below hb (Nat.le_refl _))
          have HKb3128 := Lib.hid ((hb.block _ (lt_of_block HKb3127.out)).trans HKb3127.out)
          have HKb3228 := Lib.hid ((hb.block _ (lt_of_block HKb3227.out)).trans HKb3227.out)
          have HBs17_28 : Hid (Below w17.heap.size w17 w28) := Lib.hid (HBs17_27.out.trans (hb.mono HBs17_27.out.size))
          have HBs19_28 : Hid (Below w19.heap.size w19 w28) := Lib.hid (HBs19_27.out.trans (hb.mono HBs19_27.out.size))
          clear hb
          clear cb300 fb300 ltb30 cb310 fb310 ltb31 cb320 fb320 ltb32
          have ltb30 := lt_of_block HKb3028.out
          obtain ⟨cb300, fb300⟩ := cell1 HKb3028.out
          have ltb31 := lt_of_block HKb3128.out
          obtain ⟨cb310, fb310⟩ := cell1 HKb3128.out
          have ltb32 := lt_of_block HKb3228.out
          obtain ⟨cb320, fb320⟩ := cell1 HKb3228.out
          go_wp2_with fail
          refine (iVal_any _ _ us3 qb3 _ HRs28.out HSZ3.out HRe28.out x2 true HV32.out).mono ?_
          rintro e w29 ⟨rfl, hb⟩
          have HB29 : Hid (Below w.heap.size w w29) := Lib.hid (HB28.out.trans (hb.mono HB28.out.size))
          have HZ29 : Hid (w28.heap.size ≤ w29.heap.size) := Lib.hid hb.size
          have HRk29 := Lib.hid (HRk0.out.below HB29.out (Nat.le_refl _))
          have HRs29 := Lib.hid (HRs28.out.below hb (Nat.le_refl _))
          have HRx29 := Lib.hid (HRx28.out.below hb (Nat.le_refl _))
          have HKb3029 := Lib.hid ((hb.block _ (lt_of_block HKb3028.out)).trans HKb3028.out)
          have HRo29 := Lib.hid (HRo28.out.below hb (Nat.le_refl _))
          have HRe29 := Lib.hid (HRe28.out.below hb (Nat.le_refl _))
          have HKb3129 := Lib.hid ((hb.block _ (lt_of_block HKb3128.out)).trans HKb3128.out)
          have HKb3229 := Lib.hid ((hb.block _ (lt_of_block HKb3228.out)).trans HKb3228.out)
          have HBs17_29 : Hid (Below w17.heap.size w17 w29) := Lib.hid (HBs17_28.out.trans (hb.mono HBs17_28.out.size))
          have HBs19_29 : Hid (Below w19.heap.size w19 w29) := Lib.hid (HBs19_28.out.trans (hb.mono HBs19_28.out.size))
          clear hb
          clear cb300 fb300 ltb30 cb310 fb310 ltb31 cb320 fb320 ltb32
          have ltb30 := lt_of_block HKb3029.out
          obtain ⟨cb300, fb300⟩ := cell1 HKb3029.out
          have ltb31 := lt_of_block HKb3129.out
          obtain ⟨cb310, fb310⟩ := cell1 HKb3129.out
          have ltb32 := lt_of_block HKb3229.out
          obtain ⟨cb320, fb320⟩ := cell1 HKb3229.out
          go_wp2_with fail
          clear w1 w2' l1 l2
          refine (drawDifferenceOf_any _ L _ HRk29.out).mono ?_
          rintro e w30 ⟨⟨v, x, y, us4, xs4, ys4, rfl, hv, hx, hy, ⟨hl, hnm⟩, hxl, hyl⟩, hb⟩
          have HB30 : Hid (Below w.heap.size w w30) := Lib.hid (HB29.out.trans (hb.mono HB29.out.size))
          have HZ30 : Hid (w29.heap.size ≤ w30.heap.size) := Lib.hid hb.size
          have HRk30 := Lib.hid (HRk0.out.below HB30.out (Nat.le_refl _))
          clear hb
          obtain ⟨qs4, ks4, rfl⟩ := own_form hv
          have HRs30 := Lib.hid ((RowsR.of_own unC_len hv))
          have HBs30_30 : Hid (Below w30.heap.size w30 w30) := Lib.hid (Below.refl _ _)
          clear hv
          have HSZ4 := Lib.hid (nm_small hnm)
          clear hl hnm
          obtain ⟨q40, k40, rfl⟩ := own_form hx
          have HRx30 := Lib.hid ((RowsR.of_own inC_len hx))
          clear hx
          obtain ⟨q41, k41, rfl⟩ := own_form hy
          have HRy30 := Lib.hid ((RowsR.of_own inC_len hy))
          clear hy
          clear hxl hyl
          obtain ⟨qs4, r4, hk⟩ := testF_or (okAm us4 xs4 ∧ okAm us4 ys4) us4 (valA us4 xs4 - valA us4 ys4)
          have HK4 := Lib.hid hk
          obtain ⟨s4, hs⟩ := okS_dec us4
          have HI4 := Lib.hid hs
          clear hk hs
          have e4 : (r4 == r4) = true := by simp
          have e5 : (s4 == s4) = true := by simp
          clear cb300 fb300 ltb30 cb310 fb310 ltb31 cb320 fb320 ltb32
          go_wp2_with fail
          have hb : Below w30.heap.size w30 (w30.alloc (.cells #[.slice q40 xs4.length k40] 50)) := (Below.refl _ _).alloc (Nat.le_refl _) _
          have hk : (w30.alloc (.cells #[.slice q40 xs4.length k40] 50)).heap[w30.heap.size]? = some (.cells #[.slice q40 xs4.length k40] 50 (0, 0)) := alloc_at rfl
          have hz : (w30.alloc (.cells #[.slice q40 xs4.length k40] 50)).heap.size = w30.heap.size + 1 := by simp
          generalize w30.alloc (.cells #[.slice q40 xs4.length k40] 50) = w31 at hb hk hz ⊢
          have HB31 : Hid (Below w.heap.size w w31) := Lib.hid (HB30.out.trans (hb.mono HB30.out.size))
          have HZ31 : Hid (w30.heap.size ≤ w31.heap.size) := Lib.hid hb.size
          have HRk31 := Lib.hid (HRk0.out.below HB31.out (Nat.le_refl _))
          have HRs31 := Lib.hid (HRs30.out.below hb (Nat.le_refl _))
          have HRx31 := Lib.hid (HRx30.out.below hb (Nat.le_refl _))
          have HRy31 := Lib.hid (HRy30.out.below hb (Nat.le_refl _))
          have HBs30_31 : Hid (Below w30.heap.size w30 w31) := Lib.hid (HBs30_30.out.trans (hb.mono HBs30_30.out.size))
          have HKb4031 := Lib.hid hk
          replace HZ31 : Hid (w30.heap.size < w31.heap.size) := Lib.hid (by omega)
          have HE31 := Lib.hid hz
          clear hb hk hz
          have hb : Below w31.heap.size w31 (w31.alloc (.cells #[.slice q41 ys4.length k41] 50)) := (Below.refl _ _).alloc (Nat.le_refl _) _
          have hk : (w31.alloc (.cells #[.slice q41 ys4.length k41] 50)).heap[w30.heap.size + 1]? = some (.cells #[.slice q41 ys4.length k41] 50 (0, 0)) := alloc_at (by have := HE3.out; have := HE5.out; have := HE10.out; have := HE11.out; have := HE13.out; have := HE15.out; have := HE18.out; have := HE20.out; have := HE21.out; have := HE23.out; have := HE24.out; have := HE31.out; omega)
          have hz : (w31.alloc (.cells #[.slice q41 ys4.length k41] 50)).heap.size = w31.heap.size + 1 := by simp
          generalize w31.alloc (.cells #[.slice q41 ys4.length k41] 50) = w32 at hb hk hz ⊢
          have HB32 : Hid (Below w.heap.size w w32) := Lib.hid (HB31.out.trans (hb.mono HB31.out.size))
          have HZ32 : Hid (w31.heap.size ≤ w32.heap.size) := Lib.hid hb.size
          have HRk32 := Lib.hid (HRk0.out.below HB32.out (Nat.le_refl _))
          have HRs32 := Lib.hid (HRs31.out.below hb (Nat.le_refl _))
          have HRx32 := Lib.hid (HRx31.out.below hb (Nat.le_refl _))
          have HRy32 := Lib.hid (HRy31.out.below hb (Nat.le_refl _))
          have HKb4032 := Lib.hid ((hb.block _ (lt_of_block HKb4031.out)).trans HKb4031.out)
          have HBs30_32 : Hid (Below w30.heap.size w30 w32) := Lib.hid (HBs30_31.out.trans (hb.mono HBs30_31.out.size))
          have HKb4132 := Lib.hid hk
          replace HZ32 : Hid (w31.heap.size < w32.heap.size) := Lib.hid (by omega)
          have HE32 := Lib.hid hz
          clear hb hk hz
          refine (iDifferenceOf_any _ _ _ us4 xs4 ys4 _ HRs32.out HSZ4.out HRx32.out HRy32.out qs4 r4 HK4.out).mono ?_
          rintro e w33 ⟨⟨t, rfl, ho⟩, hb⟩
          have HB33 : Hid (Below w.heap.size w w33) := Lib.hid (HB32.out.trans (hb.mono HB32.out.size))
          have HZ33 : Hid (w32.heap.size ≤ w33.heap.size) := Lib.hid hb.size
          have HRk33 := Lib.hid (HRk0.out.below HB33.out (Nat.le_refl _))
          have HRs33 := Lib.hid (HRs32.out.below hb (Nat.le_refl _))
          have HRx33 := Lib.hid (HRx32.out.below hb (Nat.le_refl _))
          have HRy33 := Lib.hid (HRy32.out.below hb (Nat.le_refl _))
          have HKb4033 := Lib.hid ((hb.block _ (lt_of_block HKb4032.out)).trans HKb4032.out)
          have HKb4133 := Lib.hid ((hb.block _ (lt_of_block HKb4132.out)).trans HKb4132.out)
          have HBs30_33 : Hid (Below w30.heap.size w30 w33) := Lib.hid (HBs30_32.out.trans (hb.mono HBs30_32.out.size))
          clear hb
          obtain ⟨q42, k42, rfl⟩ : ∃ a c, t = .slice a qs4.length c := ho.form
          have HRo33 := Lib.hid (ho.reads)
          have HBs33_33 : Hid (Below w33.heap.size w33 w33) := Lib.hid (Below.refl _ _)
          clear ho
          have ltb40 := lt_of_block HKb4033.out
          obtain ⟨cb400, fb400⟩ := cell1 HKb4033.out
          have ltb41 := lt_of_block HKb4133.out
          obtain ⟨cb410, fb410⟩ := cell1 HKb4133.out
          go_wp2_with fail
          have hb : Below w33.heap.size w33 (w33.alloc (.cells #[.slice q42 qs4.length k42] 50)) := (Below.refl _ _).alloc (Nat.le_refl _) _
          have hk : (w33.alloc (.cells #[.slice q42 qs4.length k42] 50)).heap[w33.heap.size]? = some (.cells #[.slice q42 qs4.length k42] 50 (0, 0)) := alloc_at rfl
          have hz : (w33.alloc (.cells #[.slice q42 qs4.length k42] 50)).heap.size = w33.heap.size + 1 := by simp
          generalize w33.alloc (.cells #[.slice q42 qs4.length k42] 50) = w34 at hb hk hz ⊢
          have HB34 : Hid (Below w.heap.size w w34) := Lib.hid (HB33.out.trans (hb.mono HB33.out.size))
          have HZ34 : Hid (w33.heap.size ≤ w34.heap.size) := Lib.hid hb.size
          have HRk34 := Lib.hid (HRk0.out.below HB34.out (Nat.le_refl _))
          have HRs34 := Lib.hid (HRs33.out.below hb (Nat.le_refl _))
          have HRx34 := Lib.hid (HRx33.out.below hb (Nat.le_refl _))
          have HRy34 := Lib.hid (HRy33.out.below hb (Nat.le_refl _))
          have HKb4034 := Lib.hid ((hb.block _ (lt_of_block HKb4033.out)).trans HKb4033.out)
          have HKb4134 := Lib.hid ((hb.block _ (lt_of_block HKb4133.out)).trans HKb4133.out)
          have HRo34 := Lib.hid (HRo33.out.below hb (Nat.le_refl _))
          have HBs30_34 : Hid (Below w30.heap.size w30 w34) := Lib.hid (HBs30_33.out.trans (hb.mono HBs30_33.out.size))
          have HBs33_34 : Hid (Below w33.heap.size w33 w34) := Lib.hid (HBs33_33.out.trans (hb.mono HBs33_33.out.size))
          have HKb4234 := Lib.hid hk
          replace HZ34 : Hid (w33.heap.size < w34.heap.size) := Lib.hid (by omega)
          have HE34 := Lib.hid hz
          clear hb hk hz
          refine (sDifferenceOf_any _ _ _ us4 xs4 ys4 _ HRs34.out HSZ4.out HRx34.out HRy34.out qs4 r4 HK4.out).mono ?_
          rintro e w35 ⟨⟨t, rfl, ho⟩, hb⟩
          have HB35 : Hid (Below w.heap.size w w35) := Lib.hid (HB34.out.trans (hb.mono HB34.out.size))
          have HZ35 : Hid (w34.heap.size ≤ w35.heap.size) := Lib.hid hb.size
          have HRk35 := Lib.hid (HRk0.out.below HB35.out (Nat.le_refl _))
          have HRs35 := Lib.hid (HRs34.out.below hb (Nat.le_refl _))
          have HRx35 := Lib.hid (HRx34.out.below hb (Nat.le_refl _))
          have HRy35 := Lib.hid (HRy34.out.below hb (Nat.le_refl _))
          have HKb4035 := Lib.hid ((hb.block _ (lt_of_block HKb4034.out)).trans HKb4034.out)
          have HKb4135 := Lib.hid ((hb.block _ (lt_of_block HKb4134.out)).trans HKb4134.out)
          have HRo35 := Lib.hid (HRo34.out.below hb (Nat.le_refl _))
          have HKb4235 := Lib.hid ((hb.block _ (lt_of_block HKb4234.out)).trans HKb4234.out)
          have HBs30_35 : Hid (Below w30.heap.size w30 w35) := Lib.hid (HBs30_34.out.trans (hb.mono HBs30_34.out.size))
          have HBs33_35 : Hid (Below w33.heap.size w33 w35) := Lib.hid (HBs33_34.out.trans (hb.mono HBs33_34.out.size))
          clear hb
          obtain ⟨q43, k43, rfl⟩ : ∃ a c, t = .slice a qs4.length c := ho.form
          have HRp35 := Lib.hid (ho.reads)
          have HBs35_35 : Hid (Below w35.heap.size w35 w35) := Lib.hid (Below.refl _ _)
          clear ho
          clear cb400 fb400 ltb40 cb410 fb410 ltb41
          have ltb40 := lt_of_block HKb4035.out
          obtain ⟨cb400, fb400⟩ := cell1 HKb4035.out
          have ltb41 := lt_of_block HKb4135.out
          obtain ⟨cb410, fb410⟩ := cell1 HKb4135.out
          have ltb42 := lt_of_block HKb4235.out
          obtain ⟨cb420, fb420⟩ := cell1 HKb4235.out
          go_wp2_with fail
          have hb : Below w35.heap.size w35 (w35.alloc (.cells #[.slice q43 qs4.length k43] 50)) := (Below.refl _ _).alloc (Nat.le_refl _) _
          have hk : (w35.alloc (.cells #[.slice q43 qs4.length k43] 50)).heap[w35.heap.size]? = some (.cells #[.slice q43 qs4.length k43] 50 (0, 0)) := alloc_at rfl
          have hz : (w35.alloc (.cells #[.slice q43 qs4.length k43] 50)).heap.size = w35.heap.size + 1 := by simp
          generalize w35.alloc (.cells #[.slice q43 qs4.length k43] 50) = w36 at hb hk hz ⊢
          have HB36 : Hid (Below w.heap.size w w36) := Lib.hid (HB35.out.trans (hb.mono HB35.out.size))
          have HZ36 : Hid (w35.heap.size ≤ w36.heap.size) := Lib.hid hb.size
          have HRk36 := Lib.hid (HRk0.out.below HB36.out (Nat.le_refl _))
          have HRs36 := Lib.hid (HRs35.out.below hb (Nat.le_refl _))
          have HRx36 := Lib.hid (HRx35.out.below hb (Nat.le_refl _))
          have HRy36 := Lib.hid (HRy35.out.below hb (Nat.le_refl _))
          have HKb4036 := Lib.hid ((hb.block _ (lt_of_block HKb4035.out)).trans HKb4035.out)
          have HKb4136 := Lib.hid ((hb.block _ (lt_of_block HKb4135.out)).trans HKb4135.out)
          have HRo36 := Lib.hid (HRo35.out.below hb (Nat.le_refl _))
          have HKb4236 := Lib.hid ((hb.block _ (lt_of_block HKb4235.out)).trans HKb4235.out)
          have HRp36 := Lib.hid (HRp35.out.below hb (Nat.le_refl _))
          have HBs30_36 : Hid (Below w30.heap.size w30 w36) := Lib.hid (HBs30_35.out.trans (hb.mono HBs30_35.out.size))
          have HBs33_36 : Hid (Below w33.heap.size w33 w36) := Lib.hid (HBs33_35.out.trans (hb.mono HBs33_35.out.size))
          have HBs35_36 : Hid (Below w35.heap.size w35 w36) := Lib.hid (HBs35_35.out.trans (hb.mono HBs35_35.out.size))
          have HKb4336 := Lib.hid hk
          replace HZ36 : Hid (w35.heap.size < w36.heap.size) := Lib.hid (by omega)
          have HE36 := Lib.hid hz
          clear hb hk hz
          refine (rAmount_yes _ _ qs4 _ HRo36.out HRp36.out).mono ?_
          rintro e w37 ⟨rfl, hb⟩
          have HB37 : Hid (Below w.heap.size w w37) := Lib.hid (HB36.out.trans (hb.mono HB36.out.size))
          have HZ37 : Hid (w36.heap.size ≤ w37.heap.size) := Lib.hid hb.size
          have HRk37 := Lib.hid (HRk0.out.below HB37.out (Nat.le_refl _))
          have HRs37 := Lib.hid (HRs36.out.below hb (Nat.le_refl _))
          have HRx37 := Lib.hid (HRx36.out.below hb (Nat.le_refl _))
          have HRy37 := Lib.hid (HRy36.out.below hb (Nat.le_refl _))
          have HKb4037 := Lib.hid ((hb.block _ (lt_of_block HKb4036.out)).trans HKb4036.out)
          have HKb4137 := Lib.hid ((hb.block _ (lt_of_block HKb4136.out)).trans HKb4136.out)
          have HRo37 := Lib.hid (HRo36.out.below hb (Nat.le_refl _))
          have HKb4237 := Lib.hid ((hb.block _ (lt_of_block HKb4236.out)).trans HKb4236.out)
          have HRp37 := Lib.hid (HRp36.out.below hb (Nat.le_refl _))
          have HKb4337 := Lib.hid ((hb.block _ (lt_of_block HKb4336.out)).trans HKb4336.out)
          have HBs30_37 : Hid (Below w30.heap.size w30 w37) := Lib.hid (HBs30_36.out.trans (hb.mono HBs30_36.out.size))
          have HBs33_37 : Hid (Below w33.heap.size w33 w37) := Lib.hid (HBs33_36.out.trans (hb.mono HBs33_36.out.size))
          have HBs35_37 : Hid (Below w35.heap.size w35 w37) := Lib.hid (HBs35_36.out.trans (hb.mono HBs35_36.out.size))
          clear hb
          clear cb400 fb400 ltb40 cb410 fb410 ltb41 cb420 fb420 ltb42
          have ltb40 := lt_of_block HKb4037.out
          obtain ⟨cb400, fb400⟩ := cell1 HKb4037.out
          have ltb41 := lt_of_block HKb4137.out
          obtain ⟨cb410, fb410⟩ := cell1 HKb4137.out
          have ltb42 := lt_of_block HKb4237.out
          obtain ⟨cb420, fb420⟩ := cell1 HKb4237.out
          have ltb43 := lt_of_block HKb4337.out
          obtain ⟨cb430, fb430⟩ := cell1 HKb4337.out
          go_wp2_with fail
          refine (iSys_any _ us4 _ HRs37.out HSZ4.out s4 HI4.out).mono ?_
          rintro e w38 ⟨rfl, hb⟩
          have HB38 : Hid (Below w.heap.size w w38) := Lib.hid (HB37.out.trans (hb.mono HB37.out.size))
          have HZ38 : Hid (w37.heap.size ≤ w38.heap.size) := Lib.hid hb.size
          have HRk38 := Lib.hid (HRk0.out.below HB38.out (Nat.le_refl _))
          have HRs38 := Lib.hid (HRs37.out.below hb (Nat.le_refl _))
          have HRx38 := Lib.hid (HRx37.out.below hb (Nat.le_refl _))
          have HRy38 := Lib.hid (HRy37.out.below hb (Nat.le_refl _))
          have HKb4038 := Lib.hid ((hb.block _ (lt_of_block HKb4037.out)).trans HKb4037.out)
          have HKb4138 := Lib.hid ((hb.block _ (lt_of_block HKb4137.out)).trans HKb4137.out)
          have HRo38 := Lib.hid (HRo37.out.below hb (Nat.le_refl _))
          have HKb4238 := Lib.hid ((hb.block _ (lt_of_block HKb4237.out)).trans HKb4237.out)
          have HRp38 := Lib.hid (HRp37.out.below hb (Nat.le_refl _))
          have HKb4338 := Lib.hid ((hb.block _ (lt_of_block HKb4337.out)).trans HKb4337.out)
          have HBs30_38 : Hid (Below w30.heap.size w30 w38) := Lib.hid (HBs30_37.out.trans (hb.mono HBs30_37.out.size))
          have HBs33_38 : Hid (Below w33.heap.size w33 w38) := Lib.hid (HBs33_37.out.trans (hb.mono HBs33_37.out.size))
          have HBs35_38 : Hid (Below w35.heap.size w35 w38) := Lib.hid (HBs35_37.out.trans (hb.mono HBs35_37.out.size))
          clear hb
          clear cb400 fb400 ltb40 cb410 fb410 ltb41 cb420 fb420 ltb42 cb430 fb430 ltb43
          have ltb40 := lt_of_block HKb4038.out
          obtain ⟨cb400, fb400⟩ := cell1 HKb4038.out
          have ltb41 := lt_of_block HKb4138.out
          obtain ⟨cb410, fb410⟩ := cell1 HKb4138.out
          have ltb42 := lt_of_block HKb4238.out
          obtain ⟨cb420, fb420⟩ := cell1 HKb4238.out
          have ltb43 := lt_of_block HKb4338.out
          obtain ⟨cb430, fb430⟩ := cell1 HKb4338.out
          go_wp2_with fail
          refine (sSys_any _ us4 _ HRs38.out HSZ4.out s4 HI4.out).mono ?_
          rintro e w39 ⟨rfl, hb⟩
          have HB39 : Hid (Below w.heap.size w w39) := Lib.hid (HB38.out.trans (hb.mono HB38.out.size))
          have HZ39 : Hid (w38.heap.size ≤ w39.heap.size) := Lib.hid hb.size
          have HRk39 := Lib.hid (HRk0.out.below HB39.out (Nat.le_refl _))
          have HRs39 := Lib.hid (HRs38.out.below hb (Nat.le_refl _))
          have HRx39 := Lib.hid (HRx38.out.below hb (Nat.le_refl _))
          have HRy39 := Lib.hid (HRy38.out.below hb (Nat.le_refl _))
          have HKb4039 := Lib.hid ((hb.block _ (lt_of_block HKb4038.out)).trans HKb4038.out)
          have HKb4139 := Lib.hid ((hb.block _ (lt_of_block HKb4138.out)).trans HKb4138.out)
          have HRo39 := Lib.hid (HRo38.out.below hb (Nat.le_refl _))
          have HKb4239 := Lib.hid ((hb.block _ (lt_of_block HKb4238.out)).trans HKb4238.out)
          have HRp39 := Lib.hid (HRp38.out.below hb (Nat.le_refl _))
          have HKb4339 := Lib.hid ((hb.block _ (lt_of_block HKb4338.out)).trans HKb4338.out)
          have HBs30_39 : Hid (Below w30.heap.size w30 w39) := Lib.hid (HBs30_38.out.trans (hb.mono HBs30_38.out.size))
          have HBs33_39 : Hid (Below w33.heap.size w33 w39) := Lib.hid (HBs33_38.out.trans (hb.mono HBs33_38.out.size))
          have HBs35_39 : Hid (Below w35.heap.size w35 w39) := Lib.hid (HBs35_38.out.trans (hb.mono HBs35_38.out.size))
          clear hb
          clear cb400 fb400 ltb40 cb410 fb410 ltb41 cb420 fb420 ltb42 cb430 fb430 ltb43
          have ltb40 := lt_of_block HKb4039.out
          obtain ⟨cb400, fb400⟩ := cell1 HKb4039.out
          have ltb41 := lt_of_block HKb4139.out
          obtain ⟨cb410, fb410⟩ := cell1 HKb4139.out
          have ltb42 := lt_of_block HKb4239.out
          obtain ⟨cb420, fb420⟩ := cell1 HKb4239.out
          have ltb43 := lt_of_block HKb4339.out
          obtain ⟨cb430, fb430⟩ := cell1 HKb4339.out
          go_wp2_with fail
          go_ret
          exact ⟨rfl, HB39.out⟩
        | false =>
          clear cb300 fb300 ltb30 cb310 fb310 ltb31 cb320 fb320 ltb32 cb330 fb330 ltb33 cb340 fb340 ltb34
          have ltb30 := lt_of_block HKb3026.out
          obtain ⟨cb300, fb300⟩ := cell1 HKb3026.out
          have ltb31 := lt_of_block HKb3126.out
          obtain ⟨cb310, fb310⟩ := cell1 HKb3126.out
          have ltb32 := lt_of_block HKb3226.out
          obtain ⟨cb320, fb320⟩ := cell1 HKb3226.out
          go_wp2_with fail
          refine (drawDifferenceOf_any _ L _ HRk26.out).mono ?_
          rintro e w27 ⟨⟨v, x, y, us4, xs4, ys4, rfl, hv, hx, hy, ⟨hl, hnm⟩, hxl, hyl⟩, hb⟩
          have HB27 : Hid (Below w.heap.size w w27) := Lib.hid (HB26.out.trans (hb.mono HB26.out.size))
          have HZ27 : Hid (w26.heap.size ≤ w27.heap.size) := Lib.hid hb.size
          have HRk27 := Lib.hid (HRk0.out.below HB27.out (Nat.le_refl _))
          clear hb
          obtain ⟨qs4, ks4, rfl⟩ := own_form hv
          have HRs27 := Lib.hid ((RowsR.of_own unC_len hv))
          have HBs27_27 : Hid (Below w27.heap.size w27 w27) := Lib.hid (Below.refl _ _)
          clear hv
          have HSZ4 := Lib.hid (nm_small hnm)
          clear hl hnm
          obtain ⟨q40, k40, rfl⟩ := own_form hx
          have HRx27 := Lib.hid ((RowsR.of_own inC_len hx))
          clear hx
          obtain ⟨q41, k41, rfl⟩ := own_form hy
          have HRy27 := Lib.hid ((RowsR.of_own inC_len hy))
          clear hy
          clear hxl hyl
          obtain ⟨qs4, r4, hk⟩ := testF_or (okAm us4 xs4 ∧ okAm us4 ys4) us4 (valA us4 xs4 - valA us4 ys4)
          have HK4 := Lib.hid hk
          obtain ⟨s4, hs⟩ := okS_dec us4
          have HI4 := Lib.hid hs
          clear hk hs
          have e4 : (r4 == r4) = true := by simp
          have e5 : (s4 == s4) = true := by simp
          clear cb300 fb300 ltb30 cb310 fb310 ltb31 cb320 fb320 ltb32
          go_wp2_with fail
          have hb : Below w27.heap.size w27 (w27.alloc (.cells #[.slice q40 xs4.length k40] 50)) := (Below.refl _ _).alloc (Nat.le_refl _) _
          have hk : (w27.alloc (.cells #[.slice q40 xs4.length k40] 50)).heap[w27.heap.size]? = some (.cells #[.slice q40 xs4.length k40] 50 (0, 0)) := alloc_at rfl
          have hz : (w27.alloc (.cells #[.slice q40 xs4.length k40] 50)).heap.size = w27.heap.size + 1 := by simp
          generalize w27.alloc (.cells #[.slice q40 xs4.length k40] 50) = w28 at hb hk hz ⊢
          have HB28 : Hid (Below w.heap.size w w28) := Lib.hid (HB27.out.trans (hb.mono HB27.out.size))
          have HZ28 : Hid (w27.heap.size ≤ w28.heap.size) := Lib.hid hb.size
          have HRk28 := Lib.hid (HRk0.out.below HB28.out (Nat.le_refl _))
          have HRs28 := Lib.hid (HRs27.out.below hb (Nat.le_refl _))
          have HRx28 := Lib.hid (HRx27.out.below hb (Nat.le_refl _))
          have HRy28 := Lib.hid (HRy27.out.below hb (Nat.le_refl _))
          have HBs27_28 : Hid (Below w27.heap.size w27 w28) := Lib.hid (HBs27_27.out.trans (hb.mono HBs27_27.out.size))
          have HKb4028 := Lib.hid hk
          replace HZ28 : Hid (w27.heap.size < w28.heap.size) := Lib.hid (by omega)
          have HE28 := Lib.hid hz
          clear hb hk hz
          have hb : Below w28.heap.size w28 (w28.alloc (.cells #[.slice q41 ys4.length k41] 50)) := (Below.refl _ _).alloc (Nat.le_refl _) _
          have hk : (w28.alloc (.cells #[.slice q41 ys4.length k41] 50)).heap[w27.heap.size + 1]? = some (.cells #[.slice q41 ys4.length k41] 50 (0, 0)) := alloc_at (by have := HE3.out; have := HE5.out; have := HE10.out; have := HE11.out; have := HE13.out; have := HE15.out; have := HE18.out; have := HE20.out; have := HE21.out; have := HE23.out; have := HE24.out; have := HE28.out; omega)
          have hz : (w28.alloc (.cells #[.slice q41 ys4.length k41] 50)).heap.size = w28.heap.size + 1 := by simp
          generalize w28.alloc (.cells #[.slice q41 ys4.length k41] 50) = w29 at hb hk hz ⊢
          have HB29 : Hid (Below w.heap.size w w29) := Lib.hid (HB28.out.trans (hb.mono HB28.out.size))
          have HZ29 : Hid (w28.heap.size ≤ w29.heap.size) := Lib.hid hb.size
          have HRk29 := Lib.hid (HRk0.out.below HB29.out (Nat.le_refl _))
          have HRs29 := Lib.hid (HRs28.out.below hb (Nat.le_refl _))
          have HRx29 := Lib.hid (HRx28.out.below hb (Nat.le_refl _))
          have HRy29 := Lib.hid (HRy28.out.below hb (Nat.le_refl _))
          have HKb4029 := Lib.hid ((hb.block _ (lt_of_block HKb4028.out)).trans HKb4028.out)
          have HBs27_29 : Hid (Below w27.heap.size w27 w29) := Lib.hid (HBs27_28.out.trans (hb.mono HBs27_28.out.size))
          have HKb4129 := Lib.hid hk
          replace HZ29 : Hid (w28.heap.size < w29.heap.size) := Lib.hid (by omega)
          have HE29 := Lib.hid hz
          clear hb hk hz
          refine (iDifferenceOf_any _ _ _ us4 xs4 ys4 _ HRs29.out HSZ4.out HRx29.out HRy29.out qs4 r4 HK4.out).mono ?_
          rintro e w30 ⟨⟨t, rfl, ho⟩, hb⟩
          have HB30 : Hid (Below w.heap.size w w30) := Lib.hid (HB29.out.trans (hb.mono HB29.out.size))
          have HZ30 : Hid (w29.heap.size ≤ w30.heap.size) := Lib.hid hb.size
          have HRk30 := Lib.hid (HRk0.out.below HB30.out (Nat.le_refl _))
          have HRs30 := Lib.hid (HRs29.out.below hb (Nat.le_refl _))
          have HRx30 := Lib.hid (HRx29.out.below hb (Nat.le_refl _))
          have HRy30 := Lib.hid (HRy29.out.below hb (Nat.le_refl _))
          have HKb4030 := Lib.hid ((hb.block _ (lt_of_block HKb4029.out)).trans HKb4029.out)
          have HKb4130 := Lib.hid ((hb.block _ (lt_of_block HKb4129.out)).trans HKb4129.out)
          have HBs27_30 : Hid (Below w27.heap.size w27 w30) := Lib.hid (HBs27_29.out.trans (hb.mono HBs27_29.out.size))
          clear hb
          obtain ⟨q42, k42, rfl⟩ : ∃ a c, t = .slice a qs4.length c := ho.form
          have HRo30 := Lib.hid (ho.reads)
          have HBs30_30 : Hid (Below w30.heap.size w30 w30) := Lib.hid (Below.refl _ _)
          clear ho
          have ltb40 := lt_of_block HKb4030.out
          obtain ⟨cb400, fb400⟩ := cell1 HKb4030.out
          have ltb41 := lt_of_block HKb4130.out
          obtain ⟨cb410, fb410⟩ := cell1 HKb4130.out
          go_wp2_with fail
          have hb : Below w30.heap.size w30 (w30.alloc (.cells #[.slice q42 qs4.length k42] 50)) := (Below.refl _ _).alloc (Nat.le_refl _) _
          have hk : (w30.alloc (.cells #[.slice q42 qs4.length k42] 50)).heap[w30.heap.size]? = some (.cells #[.slice q42 qs4.length k42] 50 (0, 0)) := alloc_at rfl
          have hz : (w30.alloc (.cells #[.slice q42 qs4.length k42] 50)).heap.size = w30.heap.size + 1 := by simp
          generalize w30.alloc (.cells #[.slice q42 qs4.length k42] 50) = w31 at hb hk hz ⊢
          have HB31 : Hid (Below w.heap.size w w31) := Lib.hid (HB30.out.trans (hb.mono HB30.out.size))
          have HZ31 : Hid (w30.heap.size ≤ w31.heap.size) := Lib.hid hb.size
          have HRk31 := Lib.hid (HRk0.out.below HB31.out (Nat.le_refl _))
          have HRs31 := Lib.hid (HRs30.out.below hb (Nat.le_refl _))
          have HRx31 := Lib.hid (HRx30.out.below hb (Nat.le_refl _))
          have HRy31 := Lib.hid (HRy30.out.below hb (Nat.le_refl _))
          have HKb4031 := Lib.hid ((hb.block _ (lt_of_block HKb4030.out)).trans HKb4030.out)
          have HKb4131 := Lib.hid ((hb.block _ (lt_of_block HKb4130.out)).trans HKb4130.out)
          have HRo31 := Lib.hid (HRo30.out.below hb (Nat.le_refl _))
          have HBs27_31 : Hid (Below w27.heap.size w27 w31) := Lib.hid (HBs27_30.out.trans (hb.mono HBs27_30.out.size))
          have HBs30_31 : Hid (Below w30.heap.size w30 w31) := Lib.hid (HBs30_30.out.trans (hb.mono HBs30_30.out.size))
          have HKb4231 := Lib.hid hk
          replace HZ31 : Hid (w30.heap.size < w31.heap.size) := Lib.hid (by omega)
          have HE31 := Lib.hid hz
          clear hb hk hz
          refine (sDifferenceOf_any _ _ _ us4 xs4 ys4 _ HRs31.out HSZ4.out HRx31.out HRy31.out qs4 r4 HK4.out).mono ?_
          rintro e w32 ⟨⟨t, rfl, ho⟩, hb⟩
          have HB32 : Hid (Below w.heap.size w w32) := Lib.hid (HB31.out.trans (hb.mono HB31.out.size))
          have HZ32 : Hid (w31.heap.size ≤ w32.heap.size) := Lib.hid hb.size
          have HRk32 := Lib.hid (HRk0.out.below HB32.out (Nat.le_refl _))
          have HRs32 := Lib.hid (HRs31.out.below hb (Nat.le_refl _))
          have HRx32 := Lib.hid (HRx31.out.below hb (Nat.le_refl _))
          have HRy32 := Lib.hid (HRy31.out.below hb (Nat.le_refl _))
          have HKb4032 := Lib.hid ((hb.block _ (lt_of_block HKb4031.out)).trans HKb4031.out)
          have HKb4132 := Lib.hid ((hb.block _ (lt_of_block HKb4131.out)).trans HKb4131.out)
          have HRo32 := Lib.hid (HRo31.out.below hb (Nat.le_refl _))
          have HKb4232 := Lib.hid ((hb.block _ (lt_of_block HKb4231.out)).trans HKb4231.out)
          have HBs27_32 : Hid (Below w27.heap.size w27 w32) := Lib.hid (HBs27_31.out.trans (hb.mono HBs27_31.out.size))
          have HBs30_32 : Hid (Below w30.heap.size w30 w32) := Lib.hid (HBs30_31.out.trans (hb.mono HBs30_31.out.size))
          clear hb
          obtain ⟨q43, k43, rfl⟩ : ∃ a c, t = .slice a qs4.length c := ho.form
          have HRp32 := Lib.hid (ho.reads)
          have HBs32_32 : Hid (Below w32.heap.size w32 w32) := Lib.hid (Below.refl _ _)
          clear ho
          clear cb400 fb400 ltb40 cb410 fb410 ltb41
          have ltb40 := lt_of_block HKb4032.out
          obtain ⟨cb400, fb400⟩ := cell1 HKb4032.out
          have ltb41 := lt_of_block HKb4132.out
          obtain ⟨cb410, fb410⟩ := cell1 HKb4132.out
          have ltb42 := lt_of_block HKb4232.out
          obtain ⟨cb420, fb420⟩ := cell1 HKb4232.out
          go_wp2_with fail
          have hb : Below w32.heap.size w32 (w32.alloc (.cells #[.slice q43 qs4.length k43] 50)) := (Below.refl _ _).alloc (Nat.le_refl _) _
          have hk : (w32.alloc (.cells #[.slice q43 qs4.length k43] 50)).heap[w32.heap.size]? = some (.cells #[.slice q43 qs4.length k43] 50 (0, 0)) := alloc_at rfl
          have hz : (w32.alloc (.cells #[.slice q43 qs4.length k43] 50)).heap.size = w32.heap.size + 1 := by simp
          generalize w32.alloc (.cells #[.slice q43 qs4.length k43] 50) = w33 at hb hk hz ⊢
          have HB33 : Hid (Below w.heap.size w w33) := Lib.hid (HB32.out.trans (hb.mono HB32.out.size))
          have HZ33 : Hid (w32.heap.size ≤ w33.heap.size) := Lib.hid hb.size
          have HRk33 := Lib.hid (HRk0.out.below HB33.out (Nat.le_refl _))
          have HRs33 := Lib.hid (HRs32.out.below hb (Nat.le_refl _))
          have HRx33 := Lib.hid (HRx32.out.below hb (Nat.le_refl _))
          have HRy33 := Lib.hid (HRy32.out.below hb (Nat.le_refl _))
          have HKb4033 := Lib.hid ((hb.block _ (lt_of_block HKb4032.out)).trans HKb4032.out)
          have HKb4133 := Lib.hid ((hb.block _ (lt_of_block HKb4132.out)).trans HKb4132.out)
          have HRo33 := Lib.hid (HRo32.out.below hb (Nat.le_refl _))
          have HKb4233 := Lib.hid ((hb.block _ (lt_of_block HKb4232.out)).trans HKb4232.out)
          have HRp33 := Lib.hid (HRp32.out.below hb (Nat.le_refl _))
          have HBs27_33 : Hid (Below w27.heap.size w27 w33) := Lib.hid (HBs27_32.out.trans (hb.mono HBs27_32.out.size))
          have HBs30_33 : Hid (Below w30.heap.size w30 w33) := Lib.hid (HBs30_32.out.trans (hb.mono HBs30_32.out.size))
          have HBs32_33 : Hid (Below w32.heap.size w32 w33) := Lib.hid (HBs32_32.out.trans (hb.mono HBs32_32.out.size))
          have HKb4333 := Lib.hid hk
          replace HZ33 : Hid (w32.heap.size < w33.heap.size) := Lib.hid (by omega)
          have HE33 := Lib.hid hz
          clear hb hk hz
          refine (rAmount_yes _ _ qs4 _ HRo33.out HRp33.out).mono ?_
          rintro e w34 ⟨rfl, hb⟩
          have HB34 : Hid (Below w.heap.size w w34) := Lib.hid (HB33.out.trans (hb.mono HB33.out.size))
          have HZ34 : Hid (w33.heap.size ≤ w34.heap.size) := Lib.hid hb.size
          have HRk34 := Lib.hid (HRk0.out.below HB34.out (Nat.le_refl _))
          have HRs34 := Lib.hid (HRs33.out.below hb (Nat.le_refl _))
          have HRx34 := Lib.hid (HRx33.out.below hb (Nat.le_refl _))
          have HRy34 := Lib.hid (HRy33.out.below hb (Nat.le_refl _))
          have HKb4034 := Lib.hid ((hb.block _ (lt_of_block HKb4033.out)).trans HKb4033.out)
          have HKb4134 := Lib.hid ((hb.block _ (lt_of_block HKb4133.out)).trans HKb4133.out)
          have HRo34 := Lib.hid (HRo33.out.below hb (Nat.le_refl _))
          have HKb4234 := Lib.hid ((hb.block _ (lt_of_block HKb4233.out)).trans HKb4233.out)
          have HRp34 := Lib.hid (HRp33.out.below hb (Nat.le_refl _))
          have HKb4334 := Lib.hid ((hb.block _ (lt_of_block HKb4333.out)).trans HKb4333.out)
          have HBs27_34 : Hid (Below w27.heap.size w27 w34) := Lib.hid (HBs27_33.out.trans (hb.mono HBs27_33.out.size))
          have HBs30_34 : Hid (Below w30.heap.size w30 w34) := Lib.hid (HBs30_33.out.trans (hb.mono HBs30_33.out.size))
          have HBs32_34 : Hid (Below w32.heap.size w32 w34) := Lib.hid (HBs32_33.out.trans (hb.mono HBs32_33.out.size))
          clear hb
          clear cb400 fb400 ltb40 cb410 fb410 ltb41 cb420 fb420 ltb42
          have ltb40 := lt_of_block HKb4034.out
          obtain ⟨cb400, fb400⟩ := cell1 HKb4034.out
          have ltb41 := lt_of_block HKb4134.out
          obtain ⟨cb410, fb410⟩ := cell1 HKb4134.out
          have ltb42 := lt_of_block HKb4234.out
          obtain ⟨cb420, fb420⟩ := cell1 HKb4234.out
          have ltb43 := lt_of_block HKb4334.out
          obtain ⟨cb430, fb430⟩ := cell1 HKb4334.out
          go_wp2_with fail
          refine (iSys_any _ us4 _ HRs34.out HSZ4.out s4 HI4.out).mono ?_
          rintro e w35 ⟨rfl, hb⟩
          have HB35 : Hid (Below w.heap.size w w35) := Lib.hid (HB34.out.trans (hb.mono HB34.out.size))
          have HZ35 : Hid (w34.heap.size ≤ w35.heap.size) := Lib.hid hb.size
          have HRk35 := Lib.hid (HRk0.out.below HB35.out (Nat.le_refl _))
          have HRs35 := Lib.hid (HRs34.out.below hb (Nat.le_refl _))
          have HRx35 := Lib.hid (HRx34.out.below hb (Nat.le_refl _))
          have HRy35 := Lib.hid (HRy34.out.below hb (Nat.le_refl _))
          have HKb4035 := Lib.hid ((hb.block _ (lt_of_block HKb4034.out)).trans HKb4034.out)
          have HKb4135 := Lib.hid ((hb.block _ (lt_of_block HKb4134.out)).trans HKb4134.out)
          have HRo35 := Lib.hid (HRo34.out.below hb (Nat.le_refl _))
          have HKb4235 := Lib.hid ((hb.block _ (lt_of_block HKb4234.out)).trans HKb4234.out)
          have HRp35 := Lib.hid (HRp34.out.below hb (Nat.le_refl _))
          have HKb4335 := Lib.hid ((hb.block _ (lt_of_block HKb4334.out)).trans HKb4334.out)
          have HBs27_35 : Hid (Below w27.heap.size w27 w35) := Lib.hid (HBs27_34.out.trans (hb.mono HBs27_34.out.size))
          have HBs30_35 : Hid (Below w30.heap.size w30 w35) := Lib.hid (HBs30_34.out.trans (hb.mono HBs30_34.out.size))
          have HBs32_35 : Hid (Below w32.heap.size w32 w35) := Lib.hid (HBs32_34.out.trans (hb.mono HBs32_34.out.size))
          clear hb
          clear cb400 fb400 ltb40 cb410 fb410 ltb41 cb420 fb420 ltb42 cb430 fb430 ltb43
          have ltb40 := lt_of_block HKb4035.out
          obtain ⟨cb400, fb400⟩ := cell1 HKb4035.out
          have ltb41 := lt_of_block HKb4135.out
          obtain ⟨cb410, fb410⟩ := cell1 HKb4135.out
          have ltb42 := lt_of_block HKb4235.out
          obtain ⟨cb420, fb420⟩ := cell1 HKb4235.out
          have ltb43 := lt_of_block HKb4335.out
          obtain ⟨cb430, fb430⟩ := cell1 HKb4335.out
          go_wp2_with fail
          refine (sSys_any _ us4 _ HRs35.out HSZ4.out s4 HI4.out).mono ?_
          rintro e w36 ⟨rfl, hb⟩
          have HB36 : Hid (Below w.heap.size w w36) := Lib.hid (HB35.out.trans (hb.mono HB35.out.size))
          have HZ36 : Hid (w35.heap.size ≤ w36.heap.size) := Lib.hid hb.size
          have HRk36 := Lib.hid (HRk0.out.below HB36.out (Nat.le_refl _))
          have HRs36 := Lib.hid (HRs35.out.below hb (Nat.le_refl _))
          have HRx36 := Lib.hid (HRx35.out.below hb (Nat.le_refl _))
          have HRy36 := Lib.hid (HRy35.out.below hb (Nat.le_refl _))
          have HKb4036 := Lib.hid ((hb.block _ (lt_of_block HKb4035.out)).trans HKb4035.out)
          have HKb4136 := Lib.hid ((hb.block _ (lt_of_block HKb4135.out)).trans HKb4135.out)
          have HRo36 := Lib.hid (HRo35.out.below hb (Nat.le_refl _))
          have HKb4236 := Lib.hid ((hb.block _ (lt_of_block HKb4235.out)).trans HKb4235.out)
          have HRp36 := Lib.hid (HRp35.out.below hb (Nat.le_refl _))
          have HKb4336 := Lib.hid ((hb.block _ (lt_of_block HKb4335.out)).trans HKb4335.out)
          have HBs27_36 : Hid (Below w27.heap.size w27 w36) := Lib.hid (HBs27_35.out.trans (hb.mono HBs27_35.out.size))
          have HBs30_36 : Hid (Below w30.heap.size w30 w36) := Lib.hid (HBs30_35.out.trans (hb.mono HBs30_35.out.size))
          have HBs32_36 : Hid (Below w32.heap.size w32 w36) := Lib.hid (HBs32_35.out.trans (hb.mono HBs32_35.out.size))
          clear hb
          clear cb400 fb400 ltb40 cb410 fb410 ltb41 cb420 fb420 ltb42 cb430 fb430 ltb43
          have ltb40 := lt_of_block HKb4036.out
          obtain ⟨cb400, fb400⟩ := cell1 HKb4036.out
          have ltb41 := lt_of_block HKb4136.out
          obtain ⟨cb410, fb410⟩ := cell1 HKb4136.out
          have ltb42 := lt_of_block HKb4236.out
          obtain ⟨cb420, fb420⟩ := cell1 HKb4236.out
          have ltb43 := lt_of_block HKb4336.out
          obtain ⟨cb430, fb430⟩ := cell1 HKb4336.out
          go_wp2_with fail
          go_ret
          exact ⟨rfl, HB36.out⟩
    | false =>
      clear cb100 fb100 ltb10
      have ltb10 := lt_of_block HKb107.out
      obtain ⟨cb100, fb100⟩ := cell1 HKb107.out
      go_wp2_with fail
      refine (drawSumOf_any _ L _ HRk7.out).mono ?_
      rintro e w8 ⟨⟨v, x, y, us2, xs2, ys2, rfl, hv, hx, hy, ⟨hl, hnm⟩, hxl, hyl⟩, hb⟩
      have HB8 : Hid (Below w.heap.size w w8) := Lib.hid (HB7.out.trans (hb.mono HB7.out.size))
      have HZ8 : Hid (w7.heap.size ≤ w8.heap.size) := Lib.hid hb.size
      have HRk8 := Lib.hid (HRk0.out.below HB8.out (Nat.le_refl _))
      clear hb
      obtain ⟨qs2, ks2, rfl⟩ := own_form hv
      have HRs8 := Lib.hid ((RowsR.of_own unC_len hv))
      have HBs8_8 : Hid (Below w8.heap.size w8 w8) := Lib.hid (Below.refl _ _)
      clear hv
      have HSZ2 := Lib.hid (nm_small hnm)
      clear hl hnm
      obtain ⟨q20, k20, rfl⟩ := own_form hx
      have HRx8 := Lib.hid ((RowsR.of_own inC_len hx))
      clear hx
      obtain ⟨q21, k21, rfl⟩ := own_form hy
      have HRy8 := Lib.hid ((RowsR.of_own inC_len hy))
      clear hy
      clear hxl hyl
      obtain ⟨qs2, r2, ds2, d2, x1, b1, x2, b2, hk, hd, hv1, hv2, hT⟩ := ms_sum us2 xs2 ys2
      have HK2 := Lib.hid hk
      have HD2 := Lib.hid hd
      have HV21 := Lib.hid hv1
      have HV22 := Lib.hid hv2
      have HT2 := Lib.hid hT
      clear hk hd hv1 hv2 hT
      have e2 : (r2 != r2) = false := by simp
      clear cb100 fb100 ltb10
      go_wp2_with fail
      have hb : Below w8.heap.size w8 (w8.alloc (.cells #[.slice q20 xs2.length k20] 50)) := (Below.refl _ _).alloc (Nat.le_refl _) _
      have hk : (w8.alloc (.cells #[.slice q20 xs2.length k20] 50)).heap[w8.heap.size]? = some (.cells #[.slice q20 xs2.length k20] 50 (0, 0)) := alloc_at rfl
      have hz : (w8.alloc (.cells #[.slice q20 xs2.length k20] 50)).heap.size = w8.heap.size + 1 := by simp
      generalize w8.alloc (.cells #[.slice q20 xs2.length k20] 50) = w9 at hb hk hz ⊢
      have HB9 : Hid (Below w.heap.size w w9) := Lib.hid (HB8.out.trans (hb.mono HB8.out.size))
      have HZ9 : Hid (w8.heap.size ≤ w9.heap.size) := Lib.hid hb.size
      have HRk9 := Lib.hid (HRk0.out.below HB9.out (Nat.le_refl _))
      have HRs9 := Lib.hid (HRs8.out.below hb (Nat.le_refl _))
      have HRx9 := Lib.hid (HRx8.out.below hb (Nat.le_refl _))
      have HRy9 := Lib.hid (HRy8.out.below hb (Nat.le_refl _))
      have HBs8_9 : Hid (Below w8.heap.size w8 w9) := Lib.hid (HBs8_8.out.trans (hb.mono HBs8_8.out.size))
      have HKb209 := Lib.hid hk
      replace HZ9 : Hid (w8.heap.size < w9.heap.size) := Lib.hid (by omega)
      have HE9 := Lib.hid hz
      clear hb hk hz
      have hb : Below w9.heap.size w9 (w9.alloc (.cells #[.slice q21 ys2.length k21] 50)) := (Below.refl _ _).alloc (Nat.le_refl _) _
      have hk : (w9.alloc (.cells #[.slice q21 ys2.length k21] 50)).heap[w8.heap.size + 1]? = some (.cells #[.slice q21 ys2.length k21] 50 (0, 0)) := alloc_at (by have := HE3.out; have := HE5.out; have := HE9.out; omega)
      have hz : (w9.alloc (.cells #[.slice q21 ys2.length k21] 50)).heap.size = w9.heap.size + 1 := by simp
      generalize w9.alloc (.cells #[.slice q21 ys2.length k21] 50) = w10 at hb hk hz ⊢
      have HB10 : Hid (Below w.heap.size w w10) := Lib.hid (HB9.out.trans (hb.mono HB9.out.size))
      have HZ10 : Hid (w9.heap.size ≤ w10.heap.size) := Lib.hid hb.size
      have HRk10 := Lib.hid (HRk0.out.below HB10.out (Nat.le_refl _))
      have HRs10 := Lib.hid (HRs9.out.below hb (Nat.le_refl _))
      have HRx10 := Lib.hid (HRx9.out.below hb (Nat.le_refl _))
      have HRy10 := Lib.hid (HRy9.out.below hb (Nat.le_refl _))
      have HKb2010 := Lib.hid ((hb.block _ (lt_of_block HKb209.out)).trans HKb209.out)
      have HBs8_10 : Hid (Below w8.heap.size w8 w10) := Lib.hid (HBs8_9.out.trans (hb.mono HBs8_9.out.size))
      have HKb2110 := Lib.hid hk
      replace HZ10 : Hid (w9.heap.size < w10.heap.size) := Lib.hid (by omega)
      have HE10 := Lib.hid hz
      clear hb hk hz
      refine (iSumOf_any _ _ _ us2 xs2 ys2 _ HRs10.out HSZ2.out HRx10.out HRy10.out qs2 r2 HK2.out).mono ?_
      rintro e w11 ⟨⟨t, rfl, ho⟩, hb⟩
      have HB11 : Hid (Below w.heap.size w w11) := Lib.hid (HB10.out.trans (hb.mono HB10.out.size))
      have HZ11 : Hid (w10.heap.size ≤ w11.heap.size) := Lib.hid hb.size
      have HRk11 := Lib.hid (HRk0.out.below HB11.out (Nat.le_refl _))
      have HRs11 := Lib.hid (HRs10.out.below hb (Nat.le_refl _))
      have HRx11 := Lib.hid (HRx10.out.below hb (Nat.le_refl _))
      have HRy11 := Lib.hid (HRy10.out.below hb (Nat.le_refl _))
      have HKb2011 := Lib.hid ((hb.block _ (lt_of_block HKb2010.out)).trans HKb2010.out)
      have HKb2111 := Lib.hid ((hb.block _ (lt_of_block HKb2110.out)).trans HKb2110.out)
      have HBs8_11 : Hid (Below w8.heap.size w8 w11) := Lib.hid (HBs8_10.out.trans (hb.mono HBs8_10.out.size))
      clear hb
      obtain ⟨q22, k22, rfl⟩ : ∃ a c, t = .slice a qs2.length c := ho.form
      have HRo11 := Lib.hid (ho.reads)
      have HBs11_11 : Hid (Below w11.heap.size w11 w11) := Lib.hid (Below.refl _ _)
      clear ho
      have ltb20 := lt_of_block HKb2011.out
      obtain ⟨cb200, fb200⟩ := cell1 HKb2011.out
      have ltb21 := lt_of_block HKb2111.out
      obtain ⟨cb210, fb210⟩ := cell1 HKb2111.out
      go_wp2_with fail
      have hb : Below w11.heap.size w11 (w11.alloc (.cells #[.slice q22 qs2.length k22] 50)) := (Below.refl _ _).alloc (Nat.le_refl _) _
      have hk : (w11.alloc (.cells #[.slice q22 qs2.length k22] 50)).heap[w11.heap.size]? = some (.cells #[.slice q22 qs2.length k22] 50 (0, 0)) := alloc_at rfl
      have hz : (w11.alloc (.cells #[.slice q22 qs2.length k22] 50)).heap.size = w11.heap.size + 1 := by simp
      generalize w11.alloc (.cells #[.slice q22 qs2.length k22] 50) = w12 at hb hk hz ⊢
      have HB12 : Hid (Below w.heap.size w w12) := Lib.hid (HB11.out.trans (hb.mono HB11.out.size))
      have HZ12 : Hid (w11.heap.size ≤ w12.heap.size) := Lib.hid hb.size
      have HRk12 := Lib.hid (HRk0.out.below HB12.out (Nat.le_refl _))
      have HRs12 := Lib.hid (HRs11.out.below hb (Nat.le_refl _))
      have HRx12 := Lib.hid (HRx11.out.below hb (Nat.le_refl _))
      have HRy12 := Lib.hid (HRy11.out.below hb (Nat.le_refl _))
      have HKb2012 := Lib.hid ((hb.block _ (lt_of_block HKb2011.out)).trans HKb2011.out)
      have HKb2112 := Lib.hid ((hb.block _ (lt_of_block HKb2111.out)).trans HKb2111.out)
      have HRo12 := Lib.hid (HRo11.out.below hb (Nat.le_refl _))
      have HBs8_12 : Hid (Below w8.heap.size w8 w12) := Lib.hid (HBs8_11.out.trans (hb.mono HBs8_11.out.size))
      have HBs11_12 : Hid (Below w11.heap.size w11 w12) := Lib.hid (HBs11_11.out.trans (hb.mono HBs11_11.out.size))
      have HKb2212 := Lib.hid hk
      replace HZ12 : Hid (w11.heap.size < w12.heap.size) := Lib.hid (by omega)
      have HE12 := Lib.hid hz
      clear hb hk hz
      refine (sSumOf_any _ _ _ us2 xs2 ys2 _ HRs12.out HSZ2.out HRx12.out HRy12.out qs2 r2 HK2.out).mono ?_
      rintro e w13 ⟨⟨t, rfl, ho⟩, hb⟩
      have HB13 : Hid (Below w.heap.size w w13) := Lib.hid (HB12.out.trans (hb.mono HB12.out.size))
      have HZ13 : Hid (w12.heap.size ≤ w13.heap.size) := Lib.hid hb.size
      have HRk13 := Lib.hid (HRk0.out.below HB13.out (Nat.le_refl _))
      have HRs13 := Lib.hid (HRs12.out.below hb (Nat.le_refl _))
      have HRx13 := Lib.hid (HRx12.out.below hb (Nat.le_refl _))
      have HRy13 := Lib.hid (HRy12.out.below hb (Nat.le_refl _))
      have HKb2013 := Lib.hid ((hb.block _ (lt_of_block HKb2012.out)).trans HKb2012.out)
      have HKb2113 := Lib.hid ((hb.block _ (lt_of_block HKb2112.out)).trans HKb2112.out)
      have HRo13 := Lib.hid (HRo12.out.below hb (Nat.le_refl _))
      have HKb2213 := Lib.hid ((hb.block _ (lt_of_block HKb2212.out)).trans HKb2212.out)
      have HBs8_13 : Hid (Below w8.heap.size w8 w13) := Lib.hid (HBs8_12.out.trans (hb.mono HBs8_12.out.size))
      have HBs11_13 : Hid (Below w11.heap.size w11 w13) := Lib.hid (HBs11_12.out.trans (hb.mono HBs11_12.out.size))
      clear hb
      obtain ⟨q23, k23, rfl⟩ : ∃ a c, t = .slice a qs2.length c := ho.form
      have HRp13 := Lib.hid (ho.reads)
      have HBs13_13 : Hid (Below w13.heap.size w13 w13) := Lib.hid (Below.refl _ _)
      clear ho
      clear cb200 fb200 ltb20 cb210 fb210 ltb21
      have ltb20 := lt_of_block HKb2013.out
      obtain ⟨cb200, fb200⟩ := cell1 HKb2013.out
      have ltb21 := lt_of_block HKb2113.out
      obtain ⟨cb210, fb210⟩ := cell1 HKb2113.out
      have ltb22 := lt_of_block HKb2213.out
      obtain ⟨cb220, fb220⟩ := cell1 HKb2213.out
      go_wp2_with fail
      have hb : Below w13.heap.size w13 (w13.alloc (.cells #[.slice q23 qs2.length k23] 50)) := (Below.refl _ _).alloc (Nat.le_refl _) _
      have hk : (w13.alloc (.cells #[.slice q23 qs2.length k23] 50)).heap[w13.heap.size]? = some (.cells #[.slice q23 qs2.length k23] 50 (0, 0)) := alloc_at rfl
      have hz : (w13.alloc (.cells #[.slice q23 qs2.length k23] 50)).heap.size = w13.heap.size + 1 := by simp
      generalize w13.alloc (.cells #[.slice q23 qs2.length k23] 50) = w14 at hb hk hz ⊢
      have HB14 : Hid (Below w.heap.size w w14) := Lib.hid (HB13.out.trans (hb.mono HB13.out.size))
      have HZ14 : Hid (w13.heap.size ≤ w14.heap.size) := Lib.hid hb.size
      have HRk14 := Lib.hid (HRk0.out.below HB14.out (Nat.le_refl _))
      have HRs14 := Lib.hid (HRs13.out.below hb (Nat.le_refl _))
      have HRx14 := Lib.hid (HRx13.out.below hb (Nat.le_refl _))
      have HRy14 := Lib.hid (HRy13.out.below hb (Nat.le_refl _))
      have HKb2014 := Lib.hid ((hb.block _ (lt_of_block HKb2013.out)).trans HKb2013.out)
      have HKb2114 := Lib.hid ((hb.block _ (lt_of_block HKb2113.out)).trans HKb2113.out)
      have HRo14 := Lib.hid (HRo13.out.below hb (Nat.le_refl _))
      have HKb2214 := Lib.hid ((hb.block _ (lt_of_block HKb2213.out)).trans HKb2213.out)
      have HRp14 := Lib.hid (HRp13.out.below hb (Nat.le_refl _))
      have HBs8_14 : Hid (Below w8.heap.size w8 w14) := Lib.hid (HBs8_13.out.trans (hb.mono HBs8_13.out.size))
      have HBs11_14 : Hid (Below w11.heap.size w11 w14) := Lib.hid (HBs11_13.out.trans (hb.mono HBs11_13.out.size))
      have HBs13_14 : Hid (Below w13.heap.size w13 w14) := Lib.hid (HBs13_13.out.trans (hb.mono HBs13_13.out.size))
      have HKb2314 := Lib.hid hk
      replace HZ14 : Hid (w13.heap.size < w14.heap.size) := Lib.hid (by omega)
      have HE14 := Lib.hid hz
      clear hb hk hz
      refine (rAmount_yes _ _ qs2 _ HRo14.out HRp14.out).mono ?_
      rintro e w15 ⟨rfl, hb⟩
      have HB15 : Hid (Below w.heap.size w w15) := Lib.hid (HB14.out.trans (hb.mono HB14.out.size))
      have HZ15 : Hid (w14.heap.size ≤ w15.heap.size) := Lib.hid hb.size
      have HRk15 := Lib.hid (HRk0.out.below HB15.out (Nat.le_refl _))
      have HRs15 := Lib.hid (HRs14.out.below hb (Nat.le_refl _))
      have HRx15 := Lib.hid (HRx14.out.below hb (Nat.le_refl _))
      have HRy15 := Lib.hid (HRy14.out.below hb (Nat.le_refl _))
      have HKb2015 := Lib.hid ((hb.block _ (lt_of_block HKb2014.out)).trans HKb2014.out)
      have HKb2115 := Lib.hid ((hb.block _ (lt_of_block HKb2114.out)).trans HKb2114.out)
      have HRo15 := Lib.hid (HRo14.out.below hb (Nat.le_refl _))
      have HKb2215 := Lib.hid ((hb.block _ (lt_of_block HKb2214.out)).trans HKb2214.out)
      have HRp15 := Lib.hid (HRp14.out.below hb (Nat.le_refl _))
      have HKb2315 := Lib.hid ((hb.block _ (lt_of_block HKb2314.out)).trans HKb2314.out)
      have HBs8_15 : Hid (Below w8.heap.size w8 w15) := Lib.hid (HBs8_14.out.trans (hb.mono HBs8_14.out.size))
      have HBs11_15 : Hid (Below w11.heap.size w11 w15) := Lib.hid (HBs11_14.out.trans (hb.mono HBs11_14.out.size))
      have HBs13_15 : Hid (Below w13.heap.size w13 w15) := Lib.hid (HBs13_14.out.trans (hb.mono HBs13_14.out.size))
      clear hb
      cases r2 with
      | true =>
        obtain ⟨rfl, rfl, rfl, rfl⟩ := HT2.out rfl
        have g1 : (x2 != x2) = false := by simp
        clear cb200 fb200 ltb20 cb210 fb210 ltb21 cb220 fb220 ltb22
        have ltb20 := lt_of_block HKb2015.out
        obtain ⟨cb200, fb200⟩ := cell1 HKb2015.out
        have ltb21 := lt_of_block HKb2115.out
        obtain ⟨cb210, fb210⟩ := cell1 HKb2115.out
        have ltb22 := lt_of_block HKb2215.out
        obtain ⟨cb220, fb220⟩ := cell1 HKb2215.out
        go_wp2_with fail
        refine (iDifferenceOf_any _ _ _ us2 qs2 ys2 _ HRs15.out HSZ2.out HRo15.out HRy15.out ds2 true HD2.out).mono ?_
        rintro e w16 ⟨⟨t, rfl, ho⟩, hb⟩
        have HB16 : Hid (Below w.heap.size w w16) := Lib.hid (HB15.out.trans (hb.mono HB15.out.size))
        have HZ16 : Hid (w15.heap.size ≤ w16.heap.size) := Lib.hid hb.size
        have HRk16 := Lib.hid (HRk0.out.below HB16.out (Nat.le_refl _))
        have HRs16 := Lib.hid (HRs15.out.below hb (Nat.le_refl _))
        have HRx16 := Lib.hid (HRx15.out.below hb (Nat.le_refl _))
        have HRy16 := Lib.hid (HRy15.out.below hb (Nat.le_refl _))
        have HKb2016 := Lib.hid ((hb.block _ (lt_of_block HKb2015.out)).trans HKb2015.out)
        have HKb2116 := Lib.hid ((hb.block _ (lt_of_block HKb2115.out)).trans HKb2115.out)
        have HRo16 := Lib.hid (HRo15.out.below hb (Nat.le_refl _))
        have HKb2216 := Lib.hid ((hb.block _ (lt_of_block HKb2215.out)).trans HKb2215.out)
        have HBs8_16 : Hid (Below w8.heap.size w8 w16) := Lib.hid (HBs8_15.out.trans (hb.mono HBs8_15.out.size))
        have HBs11_16 : Hid (Below w11.heap.size w11 w16) := Lib.hid (HBs11_15.out.trans (hb.mono HBs11_15.out.size))
        clear hb
        obtain ⟨q24, k24, rfl⟩ : ∃ a c, t = .slice a ds2.length c := ho.form
        have HRe16 := Lib.hid (ho.reads)
        have HBs16_16 : Hid (Below w16.heap.size w16 w16) := Lib.hid (Below.refl _ _)
        clear ho
        clear cb200 fb200 ltb20 cb210 fb210 ltb21 cb220 fb220 ltb22
        have ltb20 := lt_of_block HKb2016.out
        obtain ⟨cb200, fb200⟩ := cell1 HKb2016.out
        have ltb21 := lt_of_block HKb2116.out
        obtain ⟨cb210, fb210⟩ := cell1 HKb2116.out
        have ltb22 := lt_of_block HKb2216.out
        obtain ⟨cb220, fb220⟩ := cell1 HKb2216.out
        go_wp2_with fail
        have hb : Below w16.heap.size w16 (w16.alloc (.cells #[.slice q24 ds2.length k24] 50)) := (Below.refl _ _).alloc (Nat.le_refl _) _
        have hk : (w16.alloc (.cells #[.slice q24 ds2.length k24] 50)).heap[w16.heap.size]? = some (.cells #[.slice q24 ds2.length k24] 50 (0, 0)) := alloc_at rfl
        have hz : (w16.alloc (.cells #[.slice q24 ds2.length k24] 50)).heap.size = w16.heap.size + 1 := by simp
        generalize w16.alloc (.cells #[.slice q24 ds2.length k24] 50) = w17 at hb hk hz ⊢
        have HB17 : Hid (Below w.heap.size w w17) := Lib.hid (HB16.out.trans (hb.mono HB16.out.size))
        have HZ17 : Hid (w16.heap.size ≤ w17.heap.size) := Lib.hid hb.size
        have HRk17 := Lib.hid (HRk0.out.below HB17.out (Nat.le_refl _))
        have HRs17 := Lib.hid (HRs16.out.below hb (Nat.le_refl _))
        have HRx17 := Lib.hid (HRx16.out.below hb (Nat.le_refl _))
        have HRy17 := Lib.hid (HRy16.out.below hb (Nat.le_refl _))
        have HKb2017 := Lib.hid ((hb.block _ (lt_of_block HKb2016.out)).trans HKb2016.out)
        have HKb2117 := Lib.hid ((hb.block _ (lt_of_block HKb2116.out)).trans HKb2116.out)
        have HRo17 := Lib.hid (HRo16.out.below hb (Nat.le_refl _))
        have HKb2217 := Lib.hid ((hb.block _ (lt_of_block HKb2216.out)).trans HKb2216.out)
        have HRe17 := Lib.hid (HRe16.out.below hb (Nat.le_refl _))
        have HBs8_17 : Hid (Below w8.heap.size w8 w17) := Lib.hid (HBs8_16.out.trans (hb.mono HBs8_16.out.size))
        have HBs11_17 : Hid (Below w11.heap.size w11 w17) := Lib.hid (HBs11_16.out.trans (hb.mono HBs11_16.out.size))
        have HBs16_17 : Hid (Below w16.heap.size w16 w17) := Lib.hid (HBs16_16.out.trans (hb.mono HBs16_16.out.size))
        have HKb2417 := Lib.hid hk
        replace HZ17 : Hid (w16.heap.size < w17.heap.size) := Lib.hid (by omega)
        have HE17 := Lib.hid hz
        clear hb hk hz
        refine (iVal_any _ _ us2 xs2 _ HRs17.out HSZ2.out HRx17.out _ true HV21.out).mono ?_
        rintro e w18 ⟨rfl, hb⟩
        have HB18 : Hid (Below w.heap.size w w18) := Lib.hid (HB17.out.trans (hb.mono HB17.out.size))
        have HZ18 : Hid (w17.heap.size ≤ w18.heap.size) := Lib.hid hb.size
        have HRk18 := Lib.hid (HRk0.out.below HB18.out (Nat.le_refl _))
        have HRs18 := Lib.hid (HRs17.out.below hb (Nat.le_refl _))
        have HRx18 := Lib.hid (HRx17.out.below hb (Nat.le_refl _))
        have HRy18 := Lib.hid (HRy17.out.below hb (Nat.le_refl _))
        have HKb2018 := Lib.hid ((hb.block _ (lt_of_block HKb2017.out)).trans HKb2017.out)
        have HKb2118 := Lib.hid ((hb.block _ (lt_of_block HKb2117.out)).trans HKb2117.out)
        have HRo18 := Lib.hid (HRo17.out.below hb (Nat.le_refl _))
        have HKb2218 := Lib.hid ((hb.block _ (lt_of_block HKb2217.out)).trans HKb2217.out)
        have HRe18 := Lib.hid (HRe17.out.below hb (Nat.le_refl _))
        have HKb2418 := Lib.hid ((hb.block _ (lt_of_block HKb2417.out)).trans HKb2417.out)
        have HBs8_18 : Hid (Below w8.heap.size w8 w18) := Lib.hid (HBs8_17.out.trans (hb.mono HBs8_17.out.size))
        have HBs11_18 : Hid (Below w11.heap.size w11 w18) := Lib.hid (HBs11_17.out.trans (hb.mono HBs11_17.out.size))
        have HBs16_18 : Hid (Below w16.heap.size w16 w18) := Lib.hid (HBs16_17.out.trans (hb.mono HBs16_17.out.size))
        clear hb
        clear cb200 fb200 ltb20 cb210 fb210 ltb21 cb220 fb220 ltb22
        have ltb20 := lt_of_block HKb2018.out
        obtain ⟨cb200, fb200⟩ := cell1 HKb2018.out
        have ltb21 := lt_of_block HKb2118.out
        obtain ⟨cb210, fb210⟩ := cell1 HKb2118.out
        have ltb22 := lt_of_block HKb2218.out
        obtain ⟨cb220, fb220⟩ := cell1 HKb2218.out
        have ltb24 := lt_of_block HKb2418.out
        obtain ⟨cb240, fb240⟩ := cell1 HKb2418.out
        go_wp2_with fail
        refine (iVal_any _ _ us2 ds2 _ HRs18.out HSZ2.out HRe18.out _ true HV22.out).mono ?_
        rintro e w19 ⟨rfl, hb⟩
        have HB19 : Hid (Below w.heap.size w w19) := Lib.hid (HB18.out.trans (hb.mono HB18.out.size))
        have HZ19 : Hid (w18.heap.size ≤ w19.heap.size) := Lib.hid hb.size
        have HRk19 := Lib.hid (HRk0.out.below HB19.out (Nat.le_refl _))
        have HRs19 := Lib.hid (HRs18.out.below hb (Nat.le_refl _))
        have HRx19 := Lib.hid (HRx18.out.below hb (Nat.le_refl _))
        have HRy19 := Lib.hid (HRy18.out.below hb (Nat.le_refl _))
        have HKb2019 := Lib.hid ((hb.block _ (lt_of_block HKb2018.out)).trans HKb2018.out)
        have HKb2119 := Lib.hid ((hb.block _ (lt_of_block HKb2118.out)).trans HKb2118.out)
        have HRo19 := Lib.hid (HRo18.out.below hb (Nat.le_refl _))
        have HKb2219 := Lib.hid ((hb.block _ (lt_of_block HKb2218.out)).trans HKb2218.out)
        have HRe19 := Lib.hid (HRe18.out.below hb (Nat.le_refl _))
        have HKb2419 := Lib.hid ((hb.block _ (lt_of_block HKb2418.out)).trans HKb2418.out)
        have HBs8_19 : Hid (Below w8.heap.size w8 w19) := Lib.hid (HBs8_18.out.trans (hb.mono HBs8_18.out.size))
        have HBs11_19 : Hid (Below w11.heap.size w11 w19) := Lib.hid (HBs11_18.out.trans (hb.mono HBs11_18.out.size))
        have HBs16_19 : Hid (Below w16.heap.size w16 w19) := Lib.hid (HBs16_18.out.trans (hb.mono HBs16_18.out.size))
        clear hb
        clear cb200 fb200 ltb20 cb210 fb210 ltb21 cb220 fb220 ltb22 cb240 fb240 ltb24
        have ltb20 := lt_of_block HKb2019.out
        obtain ⟨cb200, fb200⟩ := cell1 HKb2019.out
        have ltb21 := lt_of_block HKb2119.out
        obtain ⟨cb210, fb210⟩ := cell1 HKb2119.out
        have ltb22 := lt_of_block HKb2219.out
        obtain ⟨cb220, fb220⟩ := cell1 HKb2219.out
        have ltb24 := lt_of_block HKb2419.out
        obtain ⟨cb240, fb240⟩ := cell1 HKb2419.out
        go_wp2_with fail
        refine (drawPartOf_any _ L _ HRk19.out).mono ?_
        rintro e w20 ⟨⟨v, x, us3, xs3, n3, rfl, hv, hx, ⟨hl, hnm⟩, hxl, hz0, hz1⟩, hb⟩
        have HB20 : Hid (Below w.heap.size w w20) := Lib.hid (HB19.out.trans (hb.mono HB19.out.size))
        have HZ20 : Hid (w19.heap.size ≤ w20.heap.size) := Lib.hid hb.size
        have HRk20 := Lib.hid (HRk0.out.below HB20.out (Nat.le_refl _))
        clear hb
        obtain ⟨qs3, ks3, rfl⟩ := own_form hv
        have HRs20 := Lib.hid ((RowsR.of_own unC_len hv))
        have HBs20_20 : Hid (Below w20.heap.size w20 w20) := Lib.hid (Below.refl _ _)
        clear hv
        have HSZ3 := Lib.hid (nm_small hnm)
        clear hl hnm
        obtain ⟨q30, k30, rfl⟩ := own_form hx
        have HRx20 := Lib.hid ((RowsR.of_own inC_len hx))
        clear hx
        clear hxl
        obtain ⟨qa3, qb3, r3, x0, b0, x1, b1, x2, b2, hk, hv0, hv1, hv2, hT⟩ := ms_part us3 xs3 n3
        have HK3 := Lib.hid hk
        have HV30 := Lib.hid hv0
        have HV31 := Lib.hid hv1
        have HV32 := Lib.hid hv2
        have HT3 := Lib.hid hT
        clear hk hv0 hv1 hv2 hT
        have e3 : (r3 != r3) = false := by simp
        clear cb200 fb200 ltb20 cb210 fb210 ltb21 cb220 fb220 ltb22 cb240 fb240 ltb24
        go_wp2_with fail
        have hb : Below w20.heap.size w20 (w20.alloc (.cells #[.slice q30 xs3.length k30] 50)) := (Below.refl _ _).alloc (Nat.le_refl _) _
        have hk : (w20.alloc (.cells #[.slice q30 xs3.length k30] 50)).heap[w20.heap.size]? = some (.cells #[.slice q30 xs3.length k30] 50 (0, 0)) := alloc_at rfl
        have hz : (w20.alloc (.cells #[.slice q30 xs3.length k30] 50)).heap.size = w20.heap.size + 1 := by simp
        generalize w20.alloc (.cells #[.slice q30 xs3.length k30] 50) = w21 at hb hk hz ⊢
        have HB21 : Hid (Below w.heap.size w w21) := Lib.hid (HB20.out.trans (hb.mono HB20.out.size))
        have HZ21 : Hid (w20.heap.size ≤ w21.heap.size) := Lib.hid hb.size
        have HRk21 := Lib.hid (HRk0.out.below HB21.out (Nat.le_refl _))
        have HRs21 := Lib.hid (HRs20.out.below hb (Nat.le_refl _))
        have HRx21 := Lib.hid (HRx20.out.below hb (Nat.le_refl _))
        have HBs20_21 : Hid (Below w20.heap.size w20 w21) := Lib.hid (HBs20_20.out.trans (hb.mono HBs20_20.out.size))
        have HKb3021 := Lib.hid hk
        replace HZ21 : Hid (w20.heap.size < w21.heap.size) := Lib.hid (by omega)
        have HE21 := Lib.hid hz
        clear hb hk hz
        refine (iPartOf_any _ _ us3 xs3 n3 _ HRs21.out HSZ3.out HRx21.out qa3 qb3 r3 HK3.out).mono ?_
        rintro e w22 ⟨⟨t1, t2, rfl, ho⟩, hb⟩
        have HB22 : Hid (Below w.heap.size w w22) := Lib.hid (HB21.out.trans (hb.mono HB21.out.size))
        have HZ22 : Hid (w21.heap.size ≤ w22.heap.size) := Lib.hid hb.size
        have HRk22 := Lib.hid (HRk0.out.below HB22.out (Nat.le_refl _))
        have HRs22 := Lib.hid (HRs21.out.below hb (Nat.le_refl _))
        have HRx22 := Lib.hid (HRx21.out.below hb (Nat.le_refl _))
        have HKb3022 := Lib.hid ((hb.block _ (lt_of_block HKb3021.out)).trans HKb3021.out)
        have HBs20_22 : Hid (Below w20.heap.size w20 w22) := Lib.hid (HBs20_21.out.trans (hb.mono HBs20_21.out.size))
        clear hb
        obtain ⟨x1', y1', x2', y2', ho1, ho2, -⟩ := OwB.split ho (by have := HZ1.out; have := HZ2.out; have := HZ3.out; have := HZ4.out; have := HZ5.out; have := HZ6.out; have := HZ7.out; have := HZ8.out; have := HZ9.out; have := HZ10.out; have := HZ11.out; have := HZ12.out; have := HZ13.out; have := HZ14.out; have := HZ15.out; have := HZ16.out; have := HZ17.out; have := HZ18.out; have := HZ19.out; have := HZ20.out; have := HZ21.out; have := HZ22.out;  omega)
        clear ho
        obtain ⟨q31, k31, rfl⟩ : ∃ a c, t1 = .slice a qa3.length c := ho1.form
        obtain ⟨q32, k32, rfl⟩ : ∃ a c, t2 = .slice a qb3.length c := ho2.form
        have HRo22 := Lib.hid (ho1.reads)
        have HBs22_22 : Hid (Below w22.heap.size w22 w22) := Lib.hid (Below.refl _ _)
        have HRe22 := Lib.hid (ho2.reads)
        clear ho1 ho2
        have ltb30 := lt_of_block HKb3022.out
        obtain ⟨cb300, fb300⟩ := cell1 HKb3022.out
        go_wp2_with fail
        have hb : Below w22.heap.size w22 (w22.alloc (.cells #[.slice q31 qa3.length k31] 50)) := (Below.refl _ _).alloc (Nat.le_refl _) _
        have hk : (w22.alloc (.cells #[.slice q31 qa3.length k31] 50)).heap[w22.heap.size]? = some (.cells #[.slice q31 qa3.length k31] 50 (0, 0)) := alloc_at rfl
        have hz : (w22.alloc (.cells #[.slice q31 qa3.length k31] 50)).heap.size = w22.heap.size + 1 := by simp
        generalize w22.alloc (.cells #[.slice q31 qa3.length k31] 50) = w23 at hb hk hz ⊢
        have HB23 : Hid (Below w.heap.size w w23) := Lib.hid (HB22.out.trans (hb.mono HB22.out.size))
        have HZ23 : Hid (w22.heap.size ≤ w23.heap.size) := Lib.hid hb.size
        have HRk23 := Lib.hid (HRk0.out.below HB23.out (Nat.le_refl _))
        have HRs23 := Lib.hid (HRs22.out.below hb (Nat.le_refl _))
        have HRx23 := Lib.hid (HRx22.out.below hb (Nat.le_refl _))
        have HKb3023 := Lib.hid ((hb.block _ (lt_of_block HKb3022.out)).trans HKb3022.out)
        have HRo23 := Lib.hid (HRo22.out.below hb (Nat.le_refl _))
        have HRe23 := Lib.hid (HRe22.out.below hb (Nat.le_refl _))
        have HBs20_23 : Hid (Below w20.heap.size w20 w23) := Lib.hid (HBs20_22.out.trans (hb.mono HBs20_22.out.size))
        have HBs22_23 : Hid (Below w22.heap.size w22 w23) := Lib.hid (HBs22_22.out.trans (hb.mono HBs22_22.out.size))
        have HKb3123 := Lib.hid hk
        replace HZ23 : Hid (w22.heap.size < w23.heap.size) := Lib.hid (by omega)
        have HE23 := Lib.hid hz
        clear hb hk hz
        have hb : Below w23.heap.size w23 (w23.alloc (.cells #[.slice q32 qb3.length k32] 50)) := (Below.refl _ _).alloc (Nat.le_refl _) _
        have hk : (w23.alloc (.cells #[.slice q32 qb3.length k32] 50)).heap[w22.heap.size + 1]? = some (.cells #[.slice q32 qb3.length k32] 50 (0, 0)) := alloc_at (by have := HE3.out; have := HE5.out; have := HE9.out; have := HE10.out; have := HE12.out; have := HE14.out; have := HE17.out; have := HE21.out; have := HE23.out; omega)
        have hz : (w23.alloc (.cells #[.slice q32 qb3.length k32] 50)).heap.size = w23.heap.size + 1 := by simp
        generalize w23.alloc (.cells #[.slice q32 qb3.length k32] 50) = w24 at hb hk hz ⊢
        have HB24 : Hid (Below w.heap.size w w24) := Lib.hid (HB23.out.trans (hb.mono HB23.out.size))
        have HZ24 : Hid (w23.heap.size ≤ w24.heap.size) := Lib.hid hb.size
        have HRk24 := Lib.hid (HRk0.out.below HB24.out (Nat.le_refl _))
        have HRs24 := Lib.hid (HRs23.out.below hb (Nat.le_refl _))
        have HRx24 := Lib.hid (HRx23.out.below hb (Nat.le_refl _))
        have HKb3024 := Lib.hid ((hb.block _ (lt_of_block HKb3023.out)).trans HKb3023.out)
        have HRo24 := Lib.hid (HRo23.out.below hb (Nat.le_refl _))
        have HRe24 := Lib.hid (HRe23.out.below hb (Nat.le_refl _))
        have HKb3124 := Lib.hid ((hb.block _ (lt_of_block HKb3123.out)).trans HKb3123.out)
        have HBs20_24 : Hid (Below w20.heap.size w20 w24) := Lib.hid (HBs20_23.out.trans (hb.mono HBs20_23.out.size))
        have HBs22_24 : Hid (Below w22.heap.size w22 w24) := Lib.hid (HBs22_23.out.trans (hb.mono HBs22_23.out.size))
        have HKb3224 := Lib.hid hk
        replace HZ24 : Hid (w23.heap.size < w24.heap.size) := Lib.hid (by omega)
        have HE24 := Lib.hid hz
        clear hb hk hz
        refine (sPartOf_any _ _ us3 xs3 n3 _ HRs24.out HSZ3.out HRx24.out qa3 qb3 r3 HK3.out).mono ?_
        rintro e w25 ⟨⟨t1, t2, rfl, ho⟩, hb⟩
        have HB25 : Hid (Below w.heap.size w w25) := Lib.hid (HB24.out.trans (hb.mono HB24.out.size))
        have HZ25 : Hid (w24.heap.size ≤ w25.heap.size) := Lib.hid hb.size
        have HRk25 := Lib.hid (HRk0.out.below HB25.out (Nat.le_refl _))
        have HRs25 := Lib.hid (HRs24.out.below hb (Nat.le_refl _))
        have HRx25 := Lib.hid (HRx24.out.below hb (Nat.le_refl _))
        have HKb3025 := Lib.hid ((hb.block _ (lt_of_block HKb3024.out)).trans HKb3024.out)
        have HRo25 := Lib.hid (HRo24.out.below hb (Nat.le_refl _))
        have HRe25 := Lib.hid (HRe24.out.below hb (Nat.le_refl _))
        have HKb3125 := Lib.hid ((hb.block _ (lt_of_block HKb3124.out)).trans HKb3124.out)
        have HKb3225 := Lib.hid ((hb.block _ (lt_of_block HKb3224.out)).trans HKb3224.out)
        have HBs20_25 : Hid (Below w20.heap.size w20 w25) := Lib.hid (HBs20_24.out.trans (hb.mono HBs20_24.out.size))
        have HBs22_25 : Hid (Below w22.heap.size w22 w25) := Lib.hid (HBs22_24.out.trans (hb.mono HBs22_24.out.size))
        clear hb
        obtain ⟨x1', y1', x2', y2', ho1, ho2, -⟩ := OwB.split ho (by have := HZ1.out; have := HZ2.out; have := HZ3.out; have := HZ4.out; have := HZ5.out; have := HZ6.out; have := HZ7.out; have := HZ8.out; have := HZ9.out; have := HZ10.out; have := HZ11.out; have := HZ12.out; have := HZ13.out; have := HZ14.out; have := HZ15.out; have := HZ16.out; have := HZ17.out; have := HZ18.out; have := HZ19.out; have := HZ20.out; have := HZ21.out; have := HZ22.out; have := HZ23.out; have := HZ24.out; have := HZ25.out;  omega)
        clear ho
        obtain ⟨q33, k33, rfl⟩ : ∃ a c, t1 = .slice a qa3.length c := ho1.form
        obtain ⟨q34, k34, rfl⟩ : ∃ a c, t2 = .slice a qb3.length c := ho2.form
        have HRp25 := Lib.hid (ho1.reads)
        have HBs25_25 : Hid (Below w25.heap.size w25 w25) := Lib.hid (Below.refl _ _)
        have HRq25 := Lib.hid (ho2.reads)
        clear ho1 ho2
        clear cb300 fb300 ltb30
        have ltb30 := lt_of_block HKb3025.out
        obtain ⟨cb300, fb300⟩ := cell1 HKb3025.out
        have ltb31 := lt_of_block HKb3125.out
        obtain ⟨cb310, fb310⟩ := cell1 HKb3125.out
        have ltb32 := lt_of_block HKb3225.out
        obtain ⟨cb320, fb320⟩ := cell1 HKb3225.out
        go_wp2_with fail
        have hb : Below w25.heap.size w25 (w25.alloc (.cells #[.slice q33 qa3.length k33] 50)) := (Below.refl _ _).alloc (Nat.le_refl _) _
        have hk : (w25.alloc (.cells #[.slice q33 qa3.length k33] 50)).heap[w25.heap.size]? = some (.cells #[.slice q33 qa3.length k33] 50 (0, 0)) := alloc_at rfl
        have hz : (w25.alloc (.cells #[.slice q33 qa3.length k33] 50)).heap.size = w25.heap.size + 1 := by simp
        generalize w25.alloc (.cells #[.slice q33 qa3.length k33] 50) = w26 at hb hk hz ⊢
        have HB26 : Hid (Below w.heap.size w w26) := Lib.hid (HB25.out.trans (hb.mono HB25.out.size))
        have HZ26 : Hid (w25.heap.size ≤ w26.heap.size) := Lib.hid hb.size
        have HRk26 := Lib.hid (HRk0.out.below HB26.out (Nat.le_refl _))
        have HRs26 := Lib.hid (HRs25.out.below hb (Nat.le_refl _))
        have HRx26 := Lib.hid (HRx25.out.below hb (Nat.le_refl _))
        have HKb3026 := Lib.hid ((hb.block _ (lt_of_block HKb3025.out)).trans HKb3025.out)
        have HRo26 := Lib.hid (HRo25.out.below hb (Nat.le_refl _))
        have HRe26 := Lib.hid (HRe25.out.below hb (Nat.le_refl _))
        have HKb3126 := Lib.hid ((hb.block _ (lt_of_block HKb3125.out)).trans HKb3125.out)
        have HKb3226 := Lib.hid ((hb.block _ (lt_of_block HKb3225.out)).trans HKb3225.out)
        have HRp26 := Lib.hid (HRp25.out.below hb (Nat.le_refl _))
        have HRq26 := Lib.hid (HRq25.out.below hb (Nat.le_refl _))
        have HBs20_26 : Hid (Below w20.heap.size w20 w26) := Lib.hid (HBs20_25.out.trans (hb.mono HBs20_25.out.size))
        have HBs22_26 : Hid (Below w22.heap.size w22 w26) := Lib.hid (HBs22_25.out.trans (hb.mono HBs22_25.out.size))
        have HBs25_26 : Hid (Below w25.heap.size w25 w26) := Lib.hid (HBs25_25.out.trans (hb.mono HBs25_25.out.size))
        have HKb3326 := Lib.hid hk
        replace HZ26 : Hid (w25.heap.size < w26.heap.size) := Lib.hid (by omega)
        have HE26 := Lib.hid hz
        clear hb hk hz
        have hb : Below w26.heap.size w26 (w26.alloc (.cells #[.slice q34 qb3.length k34] 50)) := (Below.refl _ _).alloc (Nat.le_refl _) _
        have hk : (w26.alloc (.cells #[.slice q34 qb3.length k34] 50)).heap[w25.heap.size + 1]? = some (.cells #[.slice q34 qb3.length k34] 50 (0, 0)) := alloc_at (by have := HE3.out; have := HE5.out; have := HE9.out; have := HE10.out; have := HE12.out; have := HE14.out; have := HE17.out; have := HE21.out; have := HE23.out; have := HE24.out; have := HE26.out; omega)
        have hz : (w26.alloc (.cells #[.slice q34 qb3.length k34] 50)).heap.size = w26.heap.size + 1 := by simp
        generalize w26.alloc (.cells #[.slice q34 qb3.length k34] 50) = w27 at hb hk hz ⊢
        have HB27 : Hid (Below w.heap.size w w27) := Lib.hid (HB26.out.trans (hb.mono HB26.out.size))
        have HZ27 : Hid (w26.heap.size ≤ w27.heap.size) := Lib.hid hb.size
        have HRk27 := Lib.hid (HRk0.out.below HB27.out (Nat.le_refl _))
        have HRs27 := Lib.hid (HRs26.out.below hb (Nat.le_refl _))
        have HRx27 := Lib.hid (HRx26.out.below hb (Nat.le_refl _))
        have HKb3027 := Lib.hid ((hb.block _ (lt_of_block HKb3026.out)).trans HKb3026.out)
        have HRo27 := Lib.hid (HRo26.out.below hb (Nat.le_refl _))
        have HRe27 := Lib.hid (HRe26.out.below hb (Nat.le_refl _))
        have HKb3127 := Lib.hid ((hb.block _ (lt_of_block HKb3126.out)).trans HKb3126.out)
        have HKb3227 := Lib.hid ((hb.block _ (lt_of_block HKb3226.out)).trans HKb3226.out)
        have HRp27 := Lib.hid (HRp26.out.below hb (Nat.le_refl _))
        have HRq27 := Lib.hid (HRq26.out.below hb (Nat.le_refl _))
        have HKb3327 := Lib.hid ((hb.block _ (lt_of_block HKb3326.out)).trans HKb3326.out)
        have HBs20_27 : Hid (Below w20.heap.size w20 w27) := Lib.hid (HBs20_26.out.trans (hb.mono HBs20_26.out.size))
        have HBs22_27 : Hid (Below w22.heap.size w22 w27) := Lib.hid (HBs22_26.out.trans (hb.mono HBs22_26.out.size))
        have HBs25_27 : Hid (Below w25.heap.size w25 w27) := Lib.hid (HBs25_26.out.trans (hb.mono HBs25_26.out.size))
        have HKb3427 := Lib.hid hk
        replace HZ27 : Hid (w26.heap.size < w27.heap.size) := Lib.hid (by omega)
        have HE27 := Lib.hid hz
        clear hb hk hz
        refine (rAmount_yes _ _ qa3 _ HRo27.out HRp27.out).mono ?_
        rintro e w28 ⟨rfl, hb⟩
        have HB28 : Hid (Below w.heap.size w w28) := Lib.hid (HB27.out.trans (hb.mono HB27.out.size))
        have HZ28 : Hid (w27.heap.size ≤ w28.heap.size) := Lib.hid hb.size
        have HRk28 := Lib.hid (HRk0.out.below HB28.out (Nat.le_refl _))
        have HRs28 := Lib.hid (HRs27.out.below hb (Nat.le_refl _))
        have HRx28 := Lib.hid (HRx27.out.below hb (Nat.le_refl _))
        have HKb3028 := Lib.hid ((hb.block _ (lt_of_block HKb3027.out)).trans HKb3027.out)
        have HRo28 := Lib.hid (HRo27.out.below hb (Nat.le_refl _))
        have HRe28 := Lib.hid (HRe27.out.below hb (Nat.le_refl _))
        have HKb3128 := Lib.hid ((hb.block _ (lt_of_block HKb3127.out)).trans HKb3127.out)
        have HKb3228 := Lib.hid ((hb.block _ (lt_of_block HKb3227.out)).trans HKb3227.out)
        have HRp28 := Lib.hid (HRp27.out.below hb (Nat.le_refl _))
        have HRq28 := Lib.hid (HRq27.out.below hb (Nat.le_refl _))
        have HKb3328 := Lib.hid ((hb.block _ (lt_of_block HKb3327.out)).trans HKb3327.out)
        have HKb3428 := Lib.hid ((hb.block _ (lt_of_block HKb3427.out)).trans HKb3427.out)
        have HBs20_28 : Hid (Below w20.heap.size w20 w28) := Lib.hid (HBs20_27.out.trans (hb.mono HBs20_27.out.size))
        have HBs22_28 : Hid (Below w22.heap.size w22 w28) := Lib.hid (HBs22_27.out.trans (hb.mono HBs22_27.out.size))
        have HBs25_28 : Hid (Below w25.heap.size w25 w28) := Lib.hid (HBs25_27.out.trans (hb.mono HBs25_27.out.size))
        clear hb
        clear cb300 fb300 ltb30 cb310 fb310 ltb31 cb320 fb320 ltb32
        have ltb30 := lt_of_block HKb3028.out
        obtain ⟨cb300, fb300⟩ := cell1 HKb3028.out
        have ltb31 := lt_of_block HKb3128.out
        obtain ⟨cb310, fb310⟩ := cell1 HKb3128.out
        have ltb32 := lt_of_block HKb3228.out
        obtain ⟨cb320, fb320⟩ := cell1 HKb3228.out
        have ltb33 := lt_of_block HKb3328.out
        obtain ⟨cb330, fb330⟩ := cell1 HKb3328.out
        have ltb34 := lt_of_block HKb3428.out
        obtain ⟨cb340, fb340⟩ := cell1 HKb3428.out
        go_wp2_with fail
        refine (rAmount_yes _ _ qb3 _ HRe28.out HRq28.out).mono ?_
        rintro e w29 ⟨rfl, hb⟩
        have HB29 : Hid (Below w.heap.size w w29) := Lib.hid (HB28.out.trans (hb.mono HB28.out.size))
        have HZ29 : Hid (w28.heap.size ≤ w29.heap.size) := Lib.hid hb.size
        have HRk29 := Lib.hid (HRk0.out.below HB29.out (Nat.le_refl _))
        have HRs29 := Lib.hid (HRs28.out.below hb (Nat.le_refl _))
        have HRx29 := Lib.hid (HRx28.out.below hb (Nat.le_refl _))
        have HKb3029 := Lib.hid ((hb.block _ (lt_of_block HKb3028.out)).trans HKb3028.out)
        have HRo29 := Lib.hid (HRo28.out.below hb (Nat.le_refl _))
        have HRe29 := Lib.hid (HRe28.out.below hb (Nat.le_refl _))
        have HKb3129 := Lib.hid ((hb.block _ (lt_of_block HKb3128.out)).trans HKb3128.out)
        have HKb3229 := Lib.hid ((hb.block _ (lt_of_block HKb3228.out)).trans HKb3228.out)
        have HRp29 := Lib.hid (HRp28.out.below hb (Nat.le_refl _))
        have HRq29 := Lib.hid (HRq28.out.below hb (Nat.le_refl _))
        have HKb3329 := Lib.hid ((hb.block _ (lt_of_block HKb3328.out)).trans HKb3328.out)
        have HKb3429 := Lib.hid ((hb.block _ (lt_of_block HKb3428.out)).trans HKb3428.out)
        have HBs20_29 : Hid (Below w20.heap.size w20 w29) := Lib.hid (HBs20_28.out.trans (hb.mono HBs20_28.out.size))
        have HBs22_29 : Hid (Below w22.heap.size w22 w29) := Lib.hid (HBs22_28.out.trans (hb.mono HBs22_28.out.size))
        have HBs25_29 : Hid (Below w25.heap.size w25 w29) := Lib.hid (HBs25_28.out.trans (hb.mono HBs25_28.out.size))
        clear hb
        cases r3 with
        | true =>
          obtain ⟨⟨rfl, rfl, rfl⟩, w1, w2', l1, l2⟩ := HT3.out rfl
          have g1 : (x0 != x0) = false := by simp
          clear cb300 fb300 ltb30 cb310 fb310 ltb31 cb320 fb320 ltb32 cb330 fb330 ltb33 cb340 fb340 ltb34
          have ltb30 := lt_of_block HKb3029.out
          obtain ⟨cb300, fb300⟩ := cell1 HKb3029.out
          have ltb31 := lt_of_block HKb3129.out
          obtain ⟨cb310, fb310⟩ := cell1 HKb3129.out
          have ltb32 := lt_of_block HKb3229.out
          obtain ⟨cb320, fb320⟩ := cell1 HKb3229.out
          go_wp2_with fail
          refine (iVal_any _ _ us3 xs3 _ HRs29.out HSZ3.out HRx29.out x0 true HV30.out).mono ?_
          rintro e w30 ⟨rfl, hb⟩
          have HB30 : Hid (Below w.heap.size w w30) := Lib.hid (HB29.out.trans (hb.mono HB29.out.size))
          have HZ30 : Hid (w29.heap.size ≤ w30.heap.size) := Lib.hid hb.size
          have HRk30 := Lib.hid (HRk0.out.below HB30.out (Nat.le_refl _))
          have HRs30 := Lib.hid (HRs29.out.below hb (Nat.le_refl _))
          have HRx30 := Lib.hid (HRx29.out.below hb (Nat.le_refl _))
          have HKb3030 := Lib.hid ((hb.block _ (lt_of_block HKb3029.out)).trans HKb3029.out)
          have HRo30 := Lib.hid (HRo29.out.below hb (Nat.le_refl _))
          have HRe30 := Lib.hid (HRe29.out.below hb (Nat.le_refl _))
          have HKb3130 := Lib.hid ((hb.block _ (lt_of_block HKb3129.out)).trans HKb3129.out)
          have HKb3230 := Lib.hid ((hb.block _ (lt_of_block HKb3229.out)).trans HKb3229.out)
          have HBs20_30 : Hid (Below w20.heap.size w20 w30) := Lib.hid (HBs20_29.out.trans (hb.mono HBs20_29.out.size))
          have HBs22_30 : Hid (Below w22.heap.size w22 w30) := Lib.hid (HBs22_29.out.trans (hb.mono HBs22_29.out.size))
          clear hb
          clear cb300 fb300 ltb30 cb310 fb310 ltb31 cb320 fb320 ltb32
          have ltb30 := lt_of_block HKb3030.out
          obtain ⟨cb300, fb300⟩ := cell1 HKb3030.out
          have ltb31 := lt_of_block HKb3130.out
          obtain ⟨cb310, fb310⟩ := cell1 HKb3130.out
          have ltb32 := lt_of_block HKb3230.out
          obtain ⟨cb320, fb320⟩ := cell1 HKb3230.out
          go_wp2_with fail
          refine (iVal_any _ _ us3 qa3 _ HRs30.out HSZ3.out HRo30.out x1 true HV31.out).mono ?_
          rintro e w31 ⟨rfl, hb⟩
          have HB31 : Hid (Below w.heap.size w w31) := Lib.hid (HB30.out.trans (hb.mono HB30.out.size))
          have HZ31 : Hid (w30.heap.size ≤ w31.heap.size) := Lib.hid hb.size
          have HRk31 := Lib.hid (HRk0.out.below HB31.out (Nat.le_refl _))
          have HRs31 := Lib.hid (HRs30.out.below hb (Nat.le_refl _))
          have HRx31 := Lib.hid (HRx30.out.below hb (Nat.le_refl _))
          have HKb3031 := Lib.hid ((hb.block _ (lt_of_block HKb3030.out)).trans HKb3030.out)
          have HRo31 := Lib.hid (HRo30.out.below hb (Nat.le_refl _))
          have HRe31 := Lib.hid (HRe30.out.below hb (Nat.le_refl _))
          have HKb3131 := Lib.hid ((hb.block _ (lt_of_block HKb3130.out)).trans HKb3130.out)
          have HKb3231 := Lib.hid ((hb.block _ (lt_of_block HKb3230.out)).trans HKb3230.out)
          have HBs20_31 : Hid (Below w20.heap.size w20 w31) := Lib.hid (HBs20_30.out.trans (hb.mono HBs20_30.out.size))
          have HBs22_31 : Hid (Below w22.heap.size w22 w31) := Lib.hid (HBs22_30.out.trans (hb.mono HBs22_30.out.size))
          clear hb
          clear cb300 fb300 ltb30 cb310 fb310 ltb31 cb320 fb320 ltb32
          have ltb30 := lt_of_block HKb3031.out
          obtain ⟨cb300, fb300⟩ := cell1 HKb3031.out
          have ltb31 := lt_of_block HKb3131.out
          obtain ⟨cb310, fb310⟩ := cell1 HKb3131.out
          have ltb32 := lt_of_block HKb3231.out
          obtain ⟨cb320, fb320⟩ := cell1 HKb3231.out
          go_wp2_with fail
          refine (iVal_any _ _ us3 qb3 _ HRs31.out HSZ3.out HRe31.out x2 true HV32.out).mono ?_
          rintro e w32 ⟨rfl, hb⟩
          have HB32 : Hid (Below w.heap.size w w32) := Lib.hid (HB31.out.trans (hb.mono HB31.out.size))
          have HZ32 : Hid (w31.heap.size ≤ w32.heap.size) := Lib.hid hb.size
          have HRk32 := Lib.hid (HRk0.out.below HB32.out (Nat.le_refl _))
          have HRs32 := Lib.hid (HRs31.out.below hb (Nat.le_refl _))
          have HRx32 := Lib.hid (HRx31.out.below hb (Nat.le_refl _))
          have HKb3032 := Lib.hid ((hb.block _ (lt_of_block HKb3031.out)).trans HKb3031.out)
          have HRo32 := Lib.hid (HRo31.out.below hb (Nat.le_refl _))
          have HRe32 := Lib.hid (HRe31.out.below hb (Nat.le_refl _))
          have HKb3132 := Lib.hid ((hb.block _ (lt_of_block HKb3131.out)).trans HKb3131.out)
          have HKb3232 := Lib.hid ((hb.block _ (lt_of_block HKb3231.out)).trans HKb3231.out)
          have HBs20_32 : Hid (Below w20.heap.size w20 w32) := Lib.hid (HBs20_31.out.trans (hb.mono HBs20_31.out.size))
          have HBs22_32 : Hid (Below w22.heap.size w22 w32) := Lib.hid (HBs22_31.out.trans (hb.mono HBs22_31.out.size))
          clear hb
          clear cb300 fb300 ltb30 cb310 fb310 ltb31 cb320 fb320 ltb32
          have ltb30 := lt_of_block HKb3032.out
          obtain ⟨cb300, fb300⟩ := cell1 HKb3032.out
          have ltb31 := lt_of_block HKb3132.out
          obtain ⟨cb310, fb310⟩ := cell1 HKb3132.out
          have ltb32 := lt_of_block HKb3232.out
          obtain ⟨cb320, fb320⟩ := cell1 HKb3232.out
          go_wp2_with fail
          clear w1 w2' l1 l2
          refine (drawDifferenceOf_any _ L _ HRk32.out).mono ?_
          rintro e w33 ⟨⟨v, x, y, us4, xs4, ys4, rfl, hv, hx, hy, ⟨hl, hnm⟩, hxl, hyl⟩, hb⟩
          have HB33 : Hid (Below w.heap.size w w33) := Lib.hid (HB32.out.trans (hb.mono HB32.out.size))
          have HZ33 : Hid (w32.heap.size ≤ w33.heap.size) := Lib.hid hb.size
          have HRk33 := Lib.hid (HRk0.out.below HB33.out (Nat.le_refl _))
          clear hb
          obtain ⟨qs4, ks4, rfl⟩ := own_form hv
          have HRs33 := Lib.hid ((RowsR.of_own unC_len hv))
          have HBs33_33 : Hid (Below w33.heap.size w33 w33) := Lib.hid (Below.refl _ _)
          clear hv
          have HSZ4 := Lib.hid (nm_small hnm)
          clear hl hnm
          obtain ⟨q40, k40, rfl⟩ := own_form hx
          have HRx33 := Lib.hid ((RowsR.of_own inC_len hx))
          clear hx
          obtain ⟨q41, k41, rfl⟩ := own_form hy
          have HRy33 := Lib.hid ((RowsR.of_own inC_len hy))
          clear hy
          clear hxl hyl
          obtain ⟨qs4, r4, hk⟩ := testF_or (okAm us4 xs4 ∧ okAm us4 ys4) us4 (valA us4 xs4 - valA us4 ys4)
          have HK4 := Lib.hid hk
          obtain ⟨s4, hs⟩ := okS_dec us4
          have HI4 := Lib.hid hs
          clear hk hs
          have e4 : (r4 == r4) = true := by simp
          have e5 : (s4 == s4) = true := by simp
          clear cb300 fb300 ltb30 cb310 fb310 ltb31 cb320 fb320 ltb32
          go_wp2_with fail
          have hb : Below w33.heap.size w33 (w33.alloc (.cells #[.slice q40 xs4.length k40] 50)) := (Below.refl _ _).alloc (Nat.le_refl _) _
          have hk : (w33.alloc (.cells #[.slice q40 xs4.length k40] 50)).heap[w33.heap.size]? = some (.cells #[.slice q40 xs4.length k40] 50 (0, 0)) := alloc_at rfl
          have hz : (w33.alloc (.cells #[.slice q40 xs4.length k40] 50)).heap.size = w33.heap.size + 1 := by simp
          generalize w33.alloc (.cells #[.slice q40 xs4.length k40] 50) = w34 at hb hk hz ⊢
          have HB34 : Hid (Below w.heap.size w w34) := Lib.hid (HB33.out.trans (hb.mono HB33.out.size))
          have HZ34 : Hid (w33.heap.size ≤ w34.heap.size) := Lib.hid hb.size
          have HRk34 := Lib.hid (HRk0.out.below HB34.out (Nat.le_refl _))
          have HRs34 := Lib.hid (HRs33.out.below hb (Nat.le_refl _))
          have HRx34 := Lib.hid (HRx33.out.below hb (Nat.le_refl _))
          have HRy34 := Lib.hid (HRy33.out.below hb (Nat.le_refl _))
          have HBs33_34 : Hid (Below w33.heap.size w33 w34) := Lib.hid (HBs33_33.out.trans (hb.mono HBs33_33.out.size))
          have HKb4034 := Lib.hid hk
          replace HZ34 : Hid (w33.heap.size < w34.heap.size) := Lib.hid (by omega)
          have HE34 := Lib.hid hz
          clear hb hk hz
          have hb : Below w34.heap.size w34 (w34.alloc (.cells #[.slice q41 ys4.length k41] 50)) := (Below.refl _ _).alloc (Nat.le_refl _) _
          have hk : (w34.alloc (.cells #[.slice q41 ys4.length k41] 50)).heap[w33.heap.size + 1]? = some (.cells #[.slice q41 ys4.length k41] 50 (0, 0)) := alloc_at (by have := HE3.out; have := HE5.out; have := HE9.out; have := HE10.out; have := HE12.out; have := HE14.out; have := HE17.out; have := HE21.out; have := HE23.out; have := HE24.out; have := HE26.out; have := HE27.out; have := HE34.out; omega)
          have hz : (w34.alloc (.cells #[.slice q41 ys4.length k41] 50)).heap.size = w34.heap.size + 1 := by simp
          generalize w34.alloc (.cells #[.slice q41 ys4.length k41] 50) = w35 at hb hk hz ⊢
          have HB35 : Hid (Below w.heap.size w w35) := Lib.hid (HB34.out.trans (hb.mono HB34.out.size))
          have HZ35 : Hid (w34.heap.size ≤ w35.heap.size) := Lib.hid hb.size
          have HRk35 := Lib.hid (HRk0.out.below HB35.out (Nat.le_refl _))
          have HRs35 := Lib.hid (HRs34.out.below hb (Nat.le_refl _))
          have HRx35 := Lib.hid (HRx34.out.below hb (Nat.le_refl _))
          have HRy35 := Lib.hid (HRy34.out.below hb (Nat.le_refl _))
          have HKb4035 := Lib.hid ((hb.block _ (lt_of_block HKb4034.out)).trans HKb4034.out)
          have HBs33_35 : Hid (Below w33.heap.size w33 w35) := Lib.hid (HBs33_34.out.trans (hb.mono HBs33_34.out.size))
          have HKb4135 := Lib.hid hk
          replace HZ35 : Hid (w34.heap.size < w35.heap.size) := Lib.hid (by omega)
          have HE35 := Lib.hid hz
          clear hb hk hz
          refine (iDifferenceOf_any _ _ _ us4 xs4 ys4 _ HRs35.out HSZ4.out HRx35.out HRy35.out qs4 r4 HK4.out).mono ?_
          rintro e w36 ⟨⟨t, rfl, ho⟩, hb⟩
          have HB36 : Hid (Below w.heap.size w w36) := Lib.hid (HB35.out.trans (hb.mono HB35.out.size))
          have HZ36 : Hid (w35.heap.size ≤ w36.heap.size) := Lib.hid hb.size
          have HRk36 := Lib.hid (HRk0.out.below HB36.out (Nat.le_refl _))
          have HRs36 := Lib.hid (HRs35.out.below hb (Nat.le_refl _))
          have HRx36 := Lib.hid (HRx35.out.below hb (Nat.le_refl _))
          have HRy36 := Lib.hid (HRy35.out.below hb (Nat.le_refl _))
          have HKb4036 := Lib.hid ((hb.block _ (lt_of_block HKb4035.out)).trans HKb4035.out)
          have HKb4136 := Lib.hid ((hb.block _ (lt_of_block HKb4135.out)).trans HKb4135.out)
          have HBs33_36 : Hid (Below w33.heap.size w33 w36) := Lib.hid (HBs33_35.out.trans (hb.mono HBs33_35.out.size))
          clear hb
          obtain ⟨q42, k42, rfl⟩ : ∃ a c, t = .slice a qs4.length c := ho.form
          have HRo36 := Lib.hid (ho.reads)
          have HBs36_36 : Hid (Below w36.heap.size w36 w36) := Lib.hid (Below.refl _ _)
          clear ho
          have ltb40 := lt_of_block HKb4036.out
          obtain ⟨cb400, fb400⟩ := cell1 HKb4036.out
          have ltb41 := lt_of_block HKb4136.out
          obtain ⟨cb410, fb410⟩ := cell1 HKb4136.out
          go_wp2_with fail
          have hb : Below w36.heap.size w36 (w36.alloc (.cells #[.slice q42 qs4.length k42] 50)) := (Below.refl _ _).alloc (Nat.le_refl _) _
          have hk : (w36.alloc (.cells #[.slice q42 qs4.length k42] 50)).heap[w36.heap.size]? = some (.cells #[.slice q42 qs4.length k42] 50 (0, 0)) := alloc_at rfl
          have hz : (w36.alloc (.cells #[.slice q42 qs4.length k42] 50)).heap.size = w36.heap.size + 1 := by simp
          generalize w36.alloc (.cells #[.slice q42 qs4.length k42] 50) = w37 at hb hk hz ⊢
          have HB37 : Hid (Below w.heap.size w w37) := Lib.hid (HB36.out.trans (hb.mono HB36.out.size))
          have HZ37 : Hid (w36.heap.size ≤ w37.heap.size) := Lib.hid hb.size
          have HRk37 := Lib.hid (HRk0.out.below HB37.out (Nat.le_refl _))
          have HRs37 := Lib.hid (HRs36.out.below hb (Nat.le_refl _))
          have HRx37 := Lib.hid (HRx36.out.below hb (Nat.le_refl _))
          have HRy37 := Lib.hid (HRy36.out.below hb (Nat.le_refl _))
          have HKb4037 := Lib.hid ((hb.block _ (lt_of_block HKb4036.out)).trans HKb4036.out)
          have HKb4137 := Lib.hid ((hb.block _ (lt_of_block HKb4136.out)).trans HKb4136.out)
          have HRo37 := Lib.hid (HRo36.out.below hb (Nat.le_refl _))
          have HBs33_37 : Hid (Below w33.heap.size w33 w37) := Lib.hid (HBs33_36.out.trans (hb.mono HBs33_36.out.size))
          have HBs36_37 : Hid (Below w36.heap.size w36 w37) := Lib.hid (HBs36_36.out.trans (hb.mono HBs36_36.out.size))
          have HKb4237 := Lib.hid hk
          replace HZ37 : Hid (w36.heap.size < w37.heap.size) := Lib.hid (by omega)
          have HE37 := Lib.hid hz
          clear hb hk hz
          refine (sDifferenceOf_any _ _ _ us4 xs4 ys4 _ HRs37.out HSZ4.out HRx37.out HRy37.out qs4 r4 HK4.out).mono ?_
          rintro e w38 ⟨⟨t, rfl, ho⟩, hb⟩
          have HB38 : Hid (Below w.heap.size w w38) := Lib.hid (HB37.out.trans (hb.mono HB37.out.size))
          have HZ38 : Hid (w37.heap.size ≤ w38.heap.size) := Lib.hid hb.size
          have HRk38 := Lib.hid (HRk0.out.below HB38.out (Nat.le_refl _))
          have HRs38 := Lib.hid (HRs37.out.below hb (Nat.le_refl _))
          have HRx38 := Lib.hid (HRx37.out.below hb (Nat.le_refl _))
          have HRy38 := Lib.hid (HRy37.out.below hb (Nat.le_refl _))
          have HKb4038 := Lib.hid ((hb.block _ (lt_of_block HKb4037.out)).trans HKb4037.out)
          have HKb4138 := Lib.hid ((hb.block _ (lt_of_block HKb4137.out)).trans HKb4137.out)
          have HRo38 := Lib.hid (HRo37.out.below hb (Nat.le_refl _))
          have HKb4238 := Lib.hid ((hb.block _ (lt_of_block HKb4237.out)).trans HKb4237.out)
          have HBs33_38 : Hid (Below w33.heap.size w33 w38) := Lib.hid (HBs33_37.out.trans (hb.mono HBs33_37.out.size))
          have HBs36_38 : Hid (Below w36.heap.size w36 w38) := Lib.hid (HBs36_37.out.trans (hb.mono HBs36_37.out.size))
          clear hb
          obtain ⟨q43, k43, rfl⟩ : ∃ a c, t = .slice a qs4.length c := ho.form
          have HRp38 := Lib.hid (ho.reads)
          have HBs38_38 : Hid (Below w38.heap.size w38 w38) := Lib.hid (Below.refl _ _)
          clear ho
          clear cb400 fb400 ltb40 cb410 fb410 ltb41
          have ltb40 := lt_of_block HKb4038.out
          obtain ⟨cb400, fb400⟩ := cell1 HKb4038.out
          have ltb41 := lt_of_block HKb4138.out
          obtain ⟨cb410, fb410⟩ := cell1 HKb4138.out
          have ltb42 := lt_of_block HKb4238.out
          obtain ⟨cb420, fb420⟩ := cell1 HKb4238.out
          go_wp2_with fail
          have hb : Below w38.heap.size w38 (w38.alloc (.cells #[.slice q43 qs4.length k43] 50)) := (Below.refl _ _).alloc (Nat.le_refl _) _
          have hk : (w38.alloc (.cells #[.slice q43 qs4.length k43] 50)).heap[w38.heap.size]? = some (.cells #[.slice q43 qs4.length k43] 50 (0, 0)) := alloc_at rfl
          have hz : (w38.alloc (.cells #[.slice q43 qs4.length k43] 50)).heap.size = w38.heap.size + 1 := by simp
          generalize w38.alloc (.cells #[.slice q43 qs4.length k43] 50) = w39 at hb hk hz ⊢
          have HB39 : Hid (Below w.heap.size w w39) := Lib.hid (HB38.out.trans (hb.mono HB38.out.size))
          have HZ39 : Hid (w38.heap.size ≤ w39.heap.size) := Lib.hid hb.size
          have HRk39 := Lib.hid (HRk0.out.below HB39.out (Nat.le_refl _))
          have HRs39 := Lib.hid (HRs38.out.below hb (Nat.le_refl _))
          have HRx39 := Lib.hid (HRx38.out.below hb (Nat.le_refl _))
          have HRy39 := Lib.hid (HRy38.out.below hb (Nat.le_refl _))
          have HKb4039 := Lib.hid ((hb.block _ (lt_of_block HKb4038.out)).trans HKb4038.out)
          have HKb4139 := Lib.hid ((hb.block _ (lt_of_block HKb4138.out)).trans HKb4138.out)
          have HRo39 := Lib.hid (HRo38.out.below hb (Nat.le_refl _))
          have HKb4239 := Lib.hid ((hb.block _ (lt_of_block HKb4238.out)).trans HKb4238.out)
          have HRp39 := Lib.hid (HRp38.out.below hb (Nat.le_refl _))
          have HBs33_39 : Hid (Below w33.heap.size w33 w39) := Lib.hid (HBs33_38.out.trans (hb.mono HBs33_38.out.size))
          have HBs36_39 : Hid (Below w36.heap.size w36 w39) := Lib.hid (HBs36_38.out.trans (hb.mono HBs36_38.out.size))
          have HBs38_39 : Hid (Below w38.heap.size w38 w39) := Lib.hid (HBs38_38.out.trans (hb.mono HBs38_38.out.size))
          have HKb4339 := Lib.hid hk
          replace HZ39 : Hid (w38.heap.size < w39.heap.size) := Lib.hid (by omega)
          have HE39 := Lib.hid hz
          clear hb hk hz
          refine (rAmount_yes _ _ qs4 _ HRo39.out HRp39.out).mono ?_
          rintro e w40 ⟨rfl, hb⟩
          have HB40 : Hid (Below w.heap.size w w40) := Lib.hid (HB39.out.trans (hb.mono HB39.out.size))
          have HZ40 : Hid (w39.heap.size ≤ w40.heap.size) := Lib.hid hb.size
          have HRk40 := Lib.hid (HRk0.out.below HB40.out (Nat.le_refl _))
          have HRs40 := Lib.hid (HRs39.out.below hb (Nat.le_refl _))
          have HRx40 := Lib.hid (HRx39.out.below hb (Nat.le_refl _))
          have HRy40 := Lib.hid (HRy39.out.below hb (Nat.le_refl _))
          have HKb4040 := Lib.hid ((hb.block _ (lt_of_block HKb4039.out)).trans HKb4039.out)
          have HKb4140 := Lib.hid ((hb.block _ (lt_of_block HKb4139.out)).trans HKb4139.out)
          have HRo40 := Lib.hid (HRo39.out.below hb (Nat.le_refl _))
          have HKb4240 := Lib.hid ((hb.block _ (lt_of_block HKb4239.out)).trans HKb4239.out)
          have HRp40 := Lib.hid (HRp39.out.below hb (Nat.le_refl _))
          have HKb4340 := Lib.hid ((hb.block _ (lt_of_block HKb4339.out)).trans HKb4339.out)
          have HBs33_40 : Hid (Below w33.heap.size w33 w40) := Lib.hid (HBs33_39.out.trans (hb.mono HBs33_39.out.size))
          have HBs36_40 : Hid (Below w36.heap.size w36 w40) := Lib.hid (HBs36_39.out.trans (hb.mono HBs36_39.out.size))
          have HBs38_40 : Hid (Below w38.heap.size w38 w40) := Lib.hid (HBs38_39.out.trans (hb.mono HBs38_39.out.size))
          clear hb
          clear cb400 fb400 ltb40 cb410 fb410 ltb41 cb420 fb420 ltb42
          have ltb40 := lt_of_block HKb4040.out
          obtain ⟨cb400, fb400⟩ := cell1 HKb4040.out
          have ltb41 := lt_of_block HKb4140.out
          obtain ⟨cb410, fb410⟩ := cell1 HKb4140.out
          have ltb42 := lt_of_block HKb4240.out
          obtain ⟨cb420, fb420⟩ := cell1 HKb4240.out
          have ltb43 := lt_of_block HKb4340.out
          obtain ⟨cb430, fb430⟩ := cell1 HKb4340.out
          go_wp2_with fail
          refine (iSys_any _ us4 _ HRs40.out HSZ4.out s4 HI4.out).mono ?_
          rintro e w41 ⟨rfl, hb⟩
          have HB41 : Hid (Below w.heap.size w w41) := Lib.hid (HB40.out.trans (hb.mono HB40.out.size))
          have HZ41 : Hid (w40.heap.size ≤ w41.heap.size) := Lib.hid hb.size
          have HRk41 := Lib.hid (HRk0.out.below HB41.out (Nat.le_refl _))
          have HRs41 := Lib.hid (HRs40.out.below hb (Nat.le_refl _))
          have HRx41 := Lib.hid (HRx40.out.below hb (Nat.le_refl _))
          have HRy41 := Lib.hid (HRy40.out.below hb (Nat.le_refl _))
          have HKb4041 := Lib.hid ((hb.block _ (lt_of_block HKb4040.out)).trans HKb4040.out)
          have HKb4141 := Lib.hid ((hb.block _ (lt_of_block HKb4140.out)).trans HKb4140.out)
          have HRo41 := Lib.hid (HRo40.out.below hb (Nat.le_refl _))
          have HKb4241 := Lib.hid ((hb.block _ (lt_of_block HKb4240.out)).trans HKb4240.out)
          have HRp41 := Lib.hid (HRp40.out.below hb (Nat.le_refl _))
          have HKb4341 := Lib.hid ((hb.block _ (lt_of_block HKb4340.out)).trans HKb4340.out)
          have HBs33_41 : Hid (Below w33.heap.size w33 w41) := Lib.hid (HBs33_40.out.trans (hb.mono HBs33_40.out.size))
          have HBs36_41 : Hid (Below w36.heap.size w36 w41) := Lib.hid (HBs36_40.out.trans (hb.mono HBs36_40.out.size))
          have HBs38_41 : Hid (Below w38.heap.size w38 w41) := Lib.hid (HBs38_40.out.trans (hb.mono HBs38_40.out.size))
          clear hb
          clear cb400 fb400 ltb40 cb410 fb410 ltb41 cb420 fb420 ltb42 cb430 fb430 ltb43
          have ltb40 := lt_of_block HKb4041.out
          obtain ⟨cb400, fb400⟩ := cell1 HKb4041.out
          have ltb41 := lt_of_block HKb4141.out
          obtain ⟨cb410, fb410⟩ := cell1 HKb4141.out
          have ltb42 := lt_of_block HKb4241.out
          obtain ⟨cb420, fb420⟩ := cell1 HKb4241.out
          have ltb43 := lt_of_block HKb4341.out
          obtain ⟨cb430, fb430⟩ := cell1 HKb4341.out
          go_wp2_with fail
          refine (sSys_any _ us4 _ HRs41.out HSZ4.out s4 HI4.out).mono ?_
          rintro e w42 ⟨rfl, hb⟩
          have HB42 : Hid (Below w.heap.size w w42) := Lib.hid (HB41.out.trans (hb.mono HB41.out.size))
          have HZ42 : Hid (w41.heap.size ≤ w42.heap.size) := Lib.hid hb.size
          have HRk42 := Lib.hid (HRk0.out.below HB42.out (Nat.le_refl _))
          have HRs42 := Lib.hid (HRs41.out.below hb (Nat.le_refl _))
          have HRx42 := Lib.hid (HRx41.out.below hb (Nat.le_refl _))
          have HRy42 := Lib.hid (HRy41.out.below hb (Nat.le_refl _))
          have HKb4042 := Lib.hid ((hb.block _ (lt_of_block HKb4041.out)).trans HKb4041.out)
          have HKb4142 := Lib.hid ((hb.block _ (lt_of_block HKb4141.out)).trans HKb4141.out)
          have HRo42 := Lib.hid (HRo41.out.below hb (Nat.le_refl _))
          have HKb4242 := Lib.hid ((hb.block _ (lt_of_block HKb4241.out)).trans HKb4241.out)
          have HRp42 := Lib.hid (HRp41.out.below hb (Nat.le_refl _))
          have HKb4342 := Lib.hid ((hb.block _ (lt_of_block HKb4341.out)).trans HKb4341.out)
          have HBs33_42 : Hid (Below w33.heap.size w33 w42) := Lib.hid (HBs33_41.out.trans (hb.mono HBs33_41.out.size))
          have HBs36_42 : Hid (Below w36.heap.size w36 w42) := Lib.hid (HBs36_41.out.trans (hb.mono HBs36_41.out.size))
          have HBs38_42 : Hid (Below w38.heap.size w38 w42) := Lib.hid (HBs38_41.out.trans (hb.mono HBs38_41.out.size))
          clear hb
          clear cb400 fb400 ltb40 cb410 fb410 ltb41 cb420 fb420 ltb42 cb430 fb430 ltb43
          have ltb40 := lt_of_block HKb4042.out
          obtain ⟨cb400, fb400⟩ := cell1 HKb4042.out
          have ltb41 := lt_of_block HKb4142.out
          obtain ⟨cb410, fb410⟩ := cell1 HKb4142.out
          have ltb42 := lt_of_block HKb4242.out
          obtain ⟨cb420, fb420⟩ := cell1 HKb4242.out
          have ltb43 := lt_of_block HKb4342.out
          obtain ⟨cb430, fb430⟩ := cell1 HKb4342.out
          go_wp2_with fail
          go_ret
          exact ⟨rfl, HB42.out⟩
        | false =>
          clear cb300 fb300 ltb30 cb310 fb310 ltb31 cb320 fb320 ltb32 cb330 fb330 ltb33 cb340 fb340 ltb34
          have ltb30 := lt_of_block HKb3029.out
          obtain ⟨cb300, fb300⟩ := cell1 HKb3029.out
          have ltb31 := lt_of_block HKb3129.out
          obtain ⟨cb310, fb310⟩ := cell1 HKb3129.out
          have ltb32 := lt_of_block HKb3229.out
          obtain ⟨cb320, fb320⟩ := cell1 HKb3229.out
          go_wp2_with fail
          refine (drawDifferenceOf_any _ L _ HRk29.out).mono ?_
          rintro e w30 ⟨⟨v, x, y, us4, xs4, ys4, rfl, hv, hx, hy, ⟨hl, hnm⟩, hxl, hyl⟩, hb⟩
          have HB30 : Hid (Below w.heap.size w w30) := Lib.hid (HB29.out.trans (hb.mono HB29.out.size))
          have HZ30 : Hid (w29.heap.size ≤ w30.heap.size) := Lib.hid hb.size
          have HRk30 := Lib.hid (HRk0.out.below HB30.out (Nat.le_refl _))
          clear hb
          obtain ⟨qs4, ks4, rfl⟩ := own_form hv
          have HRs30 := Lib.hid ((RowsR.of_own unC_len hv))
          have HBs30_30 : Hid (Below w30.heap.size w30 w30) := Lib.hid (Below.refl _ _)
          clear hv
          have HSZ4 := Lib.hid (nm_small hnm)
          clear hl hnm
          obtain ⟨q40, k40, rfl⟩ := own_form hx
          have HRx30 := Lib.hid ((RowsR.of_own inC_len hx))
          clear hx
          obtain ⟨q41, k41, rfl⟩ := own_form hy
          have HRy30 := Lib.hid ((RowsR.of_own inC_len hy))
          clear hy
          clear hxl hyl
          obtain ⟨qs4, r4, hk⟩ := testF_or (okAm us4 xs4 ∧ okAm us4 ys4) us4 (valA us4 xs4 - valA us4 ys4)
          have HK4 := Lib.hid hk
          obtain ⟨s4, hs⟩ := okS_dec us4
          have HI4 := Lib.hid hs
          clear hk hs
          have e4 : (r4 == r4) = true := by simp
          have e5 : (s4 == s4) = true := by simp
          clear cb300 fb300 ltb30 cb310 fb310 ltb31 cb320 fb320 ltb32
          go_wp2_with fail
          have hb : Below w30.heap.size w30 (w30.alloc (.cells #[.slice q40 xs4.length k40] 50)) := (Below.refl _ _).alloc (Nat.le_refl _) _
          have hk : (w30.alloc (.cells #[.slice q40 xs4.length k40] 50)).heap[w30.heap.size]? = some (.cells #[.slice q40 xs4.length k40] 50 (0, 0)) := alloc_at rfl
          have hz : (w30.alloc (.cells #[.slice q40 xs4.length k40] 50)).heap.size = w30.heap.size + 1 := by simp
          generalize w30.alloc (.cells #[.slice q40 xs4.length k40] 50) = w31 at hb hk hz ⊢
          have HB31 : Hid (Below w.heap.size w w31) := Lib.hid (HB30.out.trans (hb.mono HB30.out.size))
          have HZ31 : Hid (w30.heap.size ≤ w31.heap.size) := Lib.hid hb.size
          have HRk31 := Lib.hid (HRk0.out.below HB31.out (Nat.le_refl _))
          have HRs31 := Lib.hid (HRs30.out.below hb (Nat.le_refl _))
          have HRx31 := Lib.hid (HRx30.out.below hb (Nat.le_refl _))
          have HRy31 := Lib.hid (HRy30.out.below hb (Nat.le_refl _))
          have HBs30_31 : Hid (Below w30.heap.size w30 w31) := Lib.hid (HBs30_30.out.trans (hb.mono HBs30_30.out.size))
          have HKb4031 := Lib.hid hk
          replace HZ31 : Hid (w30.heap.size < w31.heap.size) := Lib.hid (by omega)
          have HE31 := Lib.hid hz
          clear hb hk hz
          have hb : Below w31.heap.size w31 (w31.alloc (.cells #[.slice q41 ys4.length k41] 50)) := (Below.refl _ _).alloc (Nat.le_refl _) _
          have hk : (w31.alloc (.cells #[.slice q41 ys4.length k41] 50)).heap[w30.heap.size + 1]? = some (.cells #[.slice q41 ys4.length k41] 50 (0, 0)) := alloc_at (by have := HE3.out; have := HE5.out; have := HE9.out; have := HE10.out; have := HE12.out; have := HE14.out; have := HE17.out; have := HE21.out; have := HE23.out; have := HE24.out; have := HE26.out; have := HE27.out; have := HE31.out; omega)
          have hz : (w31.alloc (.cells #[.slice q41 ys4.length k41] 50)).heap.size = w31.heap.size + 1 := by simp
          generalize w31.alloc (.cells #[.slice q41 ys4.length k41] 50) = w32 at hb hk hz ⊢
          have HB32 : Hid (Below w.heap.size w w32) := Lib.hid (HB31.out.trans (hb.mono HB31.out.size))
          have HZ32 : Hid (w31.heap.size ≤ w32.heap.size) := Lib.hid hb.size
          have HRk32 := Lib.hid (HRk0.out.below HB32.out (Nat.le_refl _))
          have HRs32 := Lib.hid (HRs31.out.below hb (Nat.le_refl _))
          have HRx32 := Lib.hid (HRx31.out.below hb (Nat.le_refl _))
          have HRy32 := Lib.hid (HRy31.out.below hb (Nat.le_refl _))
          have HKb4032 := Lib.hid ((hb.block _ (lt_of_block HKb4031.out)).trans HKb4031.out)
          have HBs30_32 : Hid (Below w30.heap.size w30 w32) := Lib.hid (HBs30_31.out.trans (hb.mono HBs30_31.out.size))
          have HKb4132 := Lib.hid hk
          replace HZ32 : Hid (w31.heap.size < w32.heap.size) := Lib.hid (by omega)
          have HE32 := Lib.hid hz
          clear hb hk hz
          refine (iDifferenceOf_any _ _ _ us4 xs4 ys4 _ HRs32.out HSZ4.out HRx32.out HRy32.out qs4 r4 HK4.out).mono ?_
          rintro e w33 ⟨⟨t, rfl, ho⟩, hb⟩
          have HB33 : Hid (Below w.heap.size w w33) := Lib.hid (HB32.out.trans (hb.mono HB32.out.size))
          have HZ33 : Hid (w32.heap.size ≤ w33.heap.size) := Lib.hid hb.size
          have HRk33 := Lib.hid (HRk0.out.below HB33.out (Nat.le_refl _))
          have HRs33 := Lib.hid (HRs32.out.below hb (Nat.le_refl _))
          have HRx33 := Lib.hid (HRx32.out.below hb (Nat.le_refl _))
          have HRy33 := Lib.hid (HRy32.out.below hb (Nat.le_refl _))
          have HKb4033 := Lib.hid ((hb.block _ (lt_of_block HKb4032.out)).trans HKb4032.out)
          have HKb4133 := Lib.hid ((hb.block _ (lt_of_block HKb4132.out)).trans HKb4132.out)
          have HBs30_33 : Hid (Below w30.heap.size w30 w33) := Lib.hid (HBs30_32.out.trans (hb.mono HBs30_32.out.size))
          clear hb
          obtain ⟨q42, k42, rfl⟩ : ∃ a c, t = .slice a qs4.length c := ho.form
          have HRo33 := Lib.hid (ho.reads)
          have HBs33_33 : Hid (Below w33.heap.size w33 w33) := Lib.hid (Below.refl _ _)
          clear ho
          have ltb40 := lt_of_block HKb4033.out
          obtain ⟨cb400, fb400⟩ := cell1 HKb4033.out
          have ltb41 := lt_of_block HKb4133.out
          obtain ⟨cb410, fb410⟩ := cell1 HKb4133.out
          go_wp2_with fail
          have hb : Below w33.heap.size w33 (w33.alloc (.cells #[.slice q42 qs4.length k42] 50)) := (Below.refl _ _).alloc (Nat.le_refl _) _
          have hk : (w33.alloc (.cells #[.slice q42 qs4.length k42] 50)).heap[w33.heap.size]? = some (.cells #[.slice q42 qs4.length k42] 50 (0, 0)) := alloc_at rfl
          have hz : (w33.alloc (.cells #[.slice q42 qs4.length k42] 50)).heap.size = w33.heap.size + 1 := by simp
          generalize w33.alloc (.cells #[.slice q42 qs4.length k42] 50) = w34 at hb hk hz ⊢
          have HB34 : Hid (Below w.heap.size w w34) := Lib.hid (HB33.out.trans (hb.mono HB33.out.size))
          have HZ34 : Hid (w33.heap.size ≤ w34.heap.size) := Lib.hid hb.size
          have HRk34 := Lib.hid (HRk0.out.below HB34.out (Nat.le_refl _))
          have HRs34 := Lib.hid (HRs33.out.below hb (Nat.le_refl _))
          have HRx34 := Lib.hid (HRx33.out.below hb (Nat.le_refl _))
          have HRy34 := Lib.hid (HRy33.out.below hb (Nat.le_refl _))
          have HKb4034 := Lib.hid ((hb.block _ (lt_of_block HKb4033.out)).trans HKb4033.out)
          have HKb4134 := Lib.hid ((hb.block _ (lt_of_block HKb4133.out)).trans HKb4133.out)
          have HRo34 := Lib.hid (HRo33.out.below hb (Nat.le_refl _))
          have HBs30_34 : Hid (Below w30.heap.size w30 w34) := Lib.hid (HBs30_33.out.trans (hb.mono HBs30_33.out.size))
          have HBs33_34 : Hid (Below w33.heap.size w33 w34) := Lib.hid (HBs33_33.out.trans (hb.mono HBs33_33.out.size))
          have HKb4234 := Lib.hid hk
          replace HZ34 : Hid (w33.heap.size < w34.heap.size) := Lib.hid (by omega)
          have HE34 := Lib.hid hz
          clear hb hk hz
          refine (sDifferenceOf_any _ _ _ us4 xs4 ys4 _ HRs34.out HSZ4.out HRx34.out HRy34.out qs4 r4 HK4.out).mono ?_
          rintro e w35 ⟨⟨t, rfl, ho⟩, hb⟩
          have HB35 : Hid (Below w.heap.size w w35) := Lib.hid (HB34.out.trans (hb.mono HB34.out.size))
          have HZ35 : Hid (w34.heap.size ≤ w35.heap.size) := Lib.hid hb.size
          have HRk35 := Lib.hid (HRk0.out.below HB35.out (Nat.le_refl _))
          have HRs35 := Lib.hid (HRs34.out.below hb (Nat.le_refl _))
          have HRx35 := Lib.hid (HRx34.out.below hb (Nat.le_refl _))
          have HRy35 := Lib.hid (HRy34.out.below hb (Nat.le_refl _))
          have HKb4035 := Lib.hid ((hb.block _ (lt_of_block HKb4034.out)).trans HKb4034.out)
          have HKb4135 := Lib.hid ((hb.block _ (lt_of_block HKb4134.out)).trans HKb4134.out)
          have HRo35 := Lib.hid (HRo34.out.below hb (Nat.le_refl _))
          have HKb4235 := Lib.hid ((hb.block _ (lt_of_block HKb4234.out)).trans HKb4234.out)
          have HBs30_35 : Hid (Below w30.heap.size w30 w35) := Lib.hid (HBs30_34.out.trans (hb.mono HBs30_34.out.size))
          have HBs33_35 : Hid (Below w33.heap.size w33 w35) := Lib.hid (HBs33_34.out.trans (hb.mono HBs33_34.out.size))
          clear hb
          obtain ⟨q43, k43, rfl⟩ : ∃ a c, t = .slice a qs4.length c := ho.form
          have HRp35 := Lib.hid (ho.reads)
          have HBs35_35 : Hid (Below w35.heap.size w35 w35) := Lib.hid (Below.refl _ _)
          clear ho
          clear cb400 fb400 ltb40 cb410 fb410 ltb41
          have ltb40 := lt_of_block HKb4035.out
          obtain ⟨cb400, fb400⟩ := cell1 HKb4035.out
          have ltb41 := lt_of_block HKb4135.out
          obtain ⟨cb410, fb410⟩ := cell1 HKb4135.out
          have ltb42 := lt_of_block HKb4235.out
          obtain ⟨cb420, fb420⟩ := cell1 HKb4235.out
          go_wp2_with fail
          have hb : Below w35.heap.size w35 (w35.alloc (.cells #[.slice q43 qs4.length k43] 50)) := (Below.refl _ _).alloc (Nat.le_refl _) _
          have hk : (w35.alloc (.cells #[.slice q43 qs4.length k43] 50)).heap[w35.heap.size]? = some (.cells #[.slice q43 qs4.length k43] 50 (0, 0)) := alloc_at rfl
          have hz : (w35.alloc (.cells #[.slice q43 qs4.length k43] 50)).heap.size = w35.heap.size + 1 := by simp
          generalize w35.alloc (.cells #[.slice q43 qs4.length k43] 50) = w36 at hb hk hz ⊢
          have HB36 : Hid (Below w.heap.size w w36) := Lib.hid (HB35.out.trans (hb.mono HB35.out.size))
          have HZ36 : Hid (w35.heap.size ≤ w36.heap.size) := Lib.hid hb.size
          have HRk36 := Lib.hid (HRk0.out.below HB36.out (Nat.le_refl _))
          have HRs36 := Lib.hid (HRs35.out.below hb (Nat.le_refl _))
          have HRx36 := Lib.hid (HRx35.out.below hb (Nat.le_refl _))
          have HRy36 := Lib.hid (HRy35.out.below hb (Nat.le_refl _))
          have HKb4036 := Lib.hid ((hb.block _ (lt_of_block HKb4035.out)).trans HKb4035.out)
          have HKb4136 := Lib.hid ((hb.block _ (lt_of_block HKb4135.out)).trans HKb4135.out)
          have HRo36 := Lib.hid (HRo35.out.below hb (Nat.le_refl _))
          have HKb4236 := Lib.hid ((hb.block _ (lt_of_block HKb4235.out)).trans HKb4235.out)
          have HRp36 := Lib.hid (HRp35.out.below hb (Nat.le_refl _))
          have HBs30_36 : Hid (Below w30.heap.size w30 w36) := Lib.hid (HBs30_35.out.trans (hb.mono HBs30_35.out.size))
          have HBs33_36 : Hid (Below w33.heap.size w33 w36) := Lib.hid (HBs33_35.out.trans (hb.mono HBs33_35.out.size))
          have HBs35_36 : Hid (Below w35.heap.size w35 w36) := Lib.hid (HBs35_35.out.trans (hb.mono HBs35_35.out.size))
          have HKb4336 := Lib.hid hk
          replace HZ36 : Hid (w35.heap.size < w36.heap.size) := Lib.hid (by omega)
          have HE36 := Lib.hid hz
          clear hb hk hz
          refine (rAmount_yes _ _ qs4 _ HRo36.out HRp36.out).mono ?_
          rintro e w37 ⟨rfl, hb⟩
          have HB37 : Hid (Below w.heap.size w w37) := Lib.hid (HB36.out.trans (hb.mono HB36.out.size))
          have HZ37 : Hid (w36.heap.size ≤ w37.heap.size) := Lib.hid hb.size
          have HRk37 := Lib.hid (HRk0.out.below HB37.out (Nat.le_refl _))
          have HRs37 := Lib.hid (HRs36.out.below hb (Nat.le_refl _))
          have HRx37 := Lib.hid (HRx36.out.below hb (Nat.le_refl _))
          have HRy37 := Lib.hid (HRy36.out.below hb (Nat.le_refl _))
          have HKb4037 := Lib.hid ((hb.block _ (lt_of_block HKb4036.out)).trans HKb4036.out)
          have HKb4137 := Lib.hid ((hb.block _ (lt_of_block HKb4136.out)).trans HKb4136.out)
          have HRo37 := Lib.hid (HRo36.out.below hb (Nat.le_refl _))
          have HKb4237 := Lib.hid ((hb.block _ (lt_of_block HKb4236.out)).trans HKb4236.out)
          have HRp37 := Lib.hid (HRp36.out.below hb (Nat.le_refl _))
          have HKb4337 := Lib.hid ((hb.block _ (lt_of_block HKb4336.out)).trans HKb4336.out)
          have HBs30_37 : Hid (Below w30.heap.size w30 w37) := Lib.hid (HBs30_36.out.trans (hb.mono HBs30_36.out.size))
          have HBs33_37 : Hid (Below w33.heap.size w33 w37) := Lib.hid (HBs33_36.out.trans (hb.mono HBs33_36.out.size))
          have HBs35_37 : Hid (Below w35.heap.size w35 w37) := Lib.hid (HBs35_36.out.trans (hb.mono HBs35_36.out.size))
          clear hb
          clear cb400 fb400 ltb40 cb410 fb410 ltb41 cb420 fb420 ltb42
          have ltb40 := lt_of_block HKb4037.out
          obtain ⟨cb400, fb400⟩ := cell1 HKb4037.out
          have ltb41 := lt_of_block HKb4137.out
          obtain ⟨cb410, fb410⟩ := cell1 HKb4137.out
          have ltb42 := lt_of_block HKb4237.out
          obtain ⟨cb420, fb420⟩ := cell1 HKb4237.out
          have ltb43 := lt_of_block HKb4337.out
          obtain ⟨cb430, fb430⟩ := cell1 HKb4337.out
          go_wp2_with fail
          refine (iSys_any _ us4 _ HRs37.out HSZ4.out s4 HI4.out).mono ?_
          rintro e w38 ⟨rfl, hb⟩
          have HB38 : Hid (Below w.heap.size w w38) := Lib.hid (HB37.out.trans (hb.mono HB37.out.size))
          have HZ38 : Hid (w37.heap.size ≤ w38.heap.size) := Lib.hid hb.size
          have HRk38 := Lib.hid (HRk0.out.below HB38.out (Nat.le_refl _))
          have HRs38 := Lib.hid (HRs37.out.below hb (Nat.le_refl _))
          have HRx38 := Lib.hid (HRx37.out.below hb (Nat.le_refl _))
          have HRy38 := Lib.hid (HRy37.out.below hb (Nat.le_refl _))
          have HKb4038 := Lib.hid ((hb.block _ (lt_of_block HKb4037.out)).trans HKb4037.out)
          have HKb4138 := Lib.hid ((hb.block _ (lt_of_block HKb4137.out)).trans HKb4137.out)
          have HRo38 := Lib.hid (HRo37.out.below hb (Nat.le_refl _))
          have HKb4238 := Lib.hid ((hb.block _ (lt_of_block HKb4237.out)).trans HKb4237.out)
          have HRp38 := Lib.hid (HRp37.out.below hb (Nat.le_refl _))
          have HKb4338 := Lib.hid ((hb.block _ (lt_of_block HKb4337.out)).trans HKb4337.out)
          have HBs30_38 : Hid (Below w30.heap.size w30 w38) := Lib.hid (HBs30_37.out.trans (hb.mono HBs30_37.out.size))
          have HBs33_38 : Hid (Below w33.heap.size w33 w38) := Lib.hid (HBs33_37.out.trans (hb.mono HBs33_37.out.size))
          have HBs35_38 : Hid (Below w35.heap.size w35 w38) := Lib.hid (HBs35_37.out.trans (hb.mono HBs35_37.out.size))
          clear hb
          clear cb400 fb400 ltb40 cb410 fb410 ltb41 cb420 fb420 ltb42 cb430 fb430 ltb43
          have ltb40 := lt_of_block HKb4038.out
          obtain ⟨cb400, fb400⟩ := cell1 HKb4038.out
          have ltb41 := lt_of_block HKb4138.out
          obtain ⟨cb410, fb410⟩ := cell1 HKb4138.out
          have ltb42 := lt_of_block HKb4238.out
          obtain ⟨cb420, fb420⟩ := cell1 HKb4238.out
          have ltb43 := lt_of_block HKb4338.out
          obtain ⟨cb430, fb430⟩ := cell1 HKb4338.out
          go_wp2_with fail
          refine (sSys_any _ us4 _ HRs38.out HSZ4.out s4 HI4.out).mono ?_
          rintro e w39 ⟨rfl, hb⟩
          have HB39 : Hid (Below w.heap.size w w39) := Lib.hid (HB38.out.trans (hb.mono HB38.out.size))
          have HZ39 : Hid (w38.heap.size ≤ w39.heap.size) := Lib.hid hb.size
          have HRk39 := Lib.hid (HRk0.out.below HB39.out (Nat.le_refl _))
          have HRs39 := Lib.hid (HRs38.out.below hb (Nat.le_refl _))
          have HRx39 := Lib.hid (HRx38.out.below hb (Nat.le_refl _))
          have HRy39 := Lib.hid (HRy38.out.below hb (Nat.le_refl _))
          have HKb4039 := Lib.hid ((hb.block _ (lt_of_block HKb4038.out)).trans HKb4038.out)
          have HKb4139 := Lib.hid ((hb.block _ (lt_of_block HKb4138.out)).trans HKb4138.out)
          have HRo39 := Lib.hid (HRo38.out.below hb (Nat.le_refl _))
          have HKb4239 := Lib.hid ((hb.block _ (lt_of_block HKb4238.out)).trans HKb4238.out)
          have HRp39 := Lib.hid (HRp38.out.below hb (Nat.le_refl _))
          have HKb4339 := Lib.hid ((hb.block _ (lt_of_block HKb4338.out)).trans HKb4338.out)
          have HBs30_39 : Hid (Below w30.heap.size w30 w39) := Lib.hid (HBs30_38.out.trans (hb.mono HBs30_38.out.size))
          have HBs33_39 : Hid (Below w33.heap.size w33 w39) := Lib.hid (HBs33_38.out.trans (hb.mono HBs33_38.out.size))
          have HBs35_39 : Hid (Below w35.heap.size w35 w39) := Lib.hid (HBs35_38.out.trans (hb.mono HBs35_38.out.size))
          clear hb
          clear cb400 fb400 ltb40 cb410 fb410 ltb41 cb420 fb420 ltb42 cb430 fb430 ltb43
          have ltb40 := lt_of_block HKb4039.out
          obtain ⟨cb400, fb400⟩ := cell1 HKb4039.out
          have ltb41 := lt_of_block HKb4139.out
          obtain ⟨cb410, fb410⟩ := cell1 HKb4139.out
          have ltb42 := lt_of_block HKb4239.out
          obtain ⟨cb420, fb420⟩ := cell1 HKb4239.out
          have ltb43 := lt_of_block HKb4339.out
          obtain ⟨cb430, fb430⟩ := cell1 HKb4339.out
          go_wp2_with fail
          go_ret
          exact ⟨rfl, HB39.out⟩
      | false =>
        clear cb200 fb200 ltb20 cb210 fb210 ltb21 cb220 fb220 ltb22
        have ltb20 := lt_of_block HKb2015.out
        obtain ⟨cb200, fb200⟩ := cell1 HKb2015.out
        have ltb21 := lt_of_block HKb2115.out
        obtain ⟨cb210, fb210⟩ := cell1 HKb2115.out
        have ltb22 := lt_of_block HKb2215.out
        obtain ⟨cb220, fb220⟩ := cell1 HKb2215.out
        go_wp2_with fail
        refine (drawPartOf_any _ L _ HRk15.out).mono ?_
        rintro e w16 ⟨⟨v, x, us3, xs3, n3, rfl, hv, hx, ⟨hl, hnm⟩, hxl, hz0, hz1⟩, hb⟩
        have HB16 : Hid (Below w.heap.size w w16) := Lib.hid (HB15.out.trans (hb.mono HB15.out.size))
        have HZ16 : Hid (w15.heap.size ≤ w16.heap.size) := Lib.hid hb.size
        have HRk16 := Lib.hid (HRk0.out.below HB16.out (Nat.le_refl _))
        clear hb
        obtain ⟨qs3, ks3, rfl⟩ := own_form hv
        have HRs16 := Lib.hid ((RowsR.of_own unC_len hv))
        have HBs16_16 : Hid (Below w16.heap.size w16 w16) := Lib.hid (Below.refl _ _)
        clear hv
        have HSZ3 := Lib.hid (nm_small hnm)
        clear hl hnm
        obtain ⟨q30, k30, rfl⟩ := own_form hx
        have HRx16 := Lib.hid ((RowsR.of_own inC_len hx))
        clear hx
        clear hxl
        obtain ⟨qa3, qb3, r3, x0, b0, x1, b1, x2, b2, hk, hv0, hv1, hv2, hT⟩ := ms_part us3 xs3 n3
        have HK3 := Lib.hid hk
        have HV30 := Lib.hid hv0
        have HV31 := Lib.hid hv1
        have HV32 := Lib.hid hv2
        have HT3 := Lib.hid hT
        clear hk hv0 hv1 hv2 hT
        have e3 : (r3 != r3) = false := by simp
        clear cb200 fb200 ltb20 cb210 fb210 ltb21 cb220 fb220 ltb22
        go_wp2_with fail
        have hb : Below w16.heap.size w16 (w16.alloc (.cells #[.slice q30 xs3.length k30] 50)) := (Below.refl _ _).alloc (Nat.le_refl _) _
        have hk : (w16.alloc (.cells #[.slice q30 xs3.length k30] 50)).heap[w16.heap.size]? = some (.cells #[.slice q30 xs3.length k30] 50 (0, 0)) := alloc_at rfl
        have hz : (w16.alloc (.cells #[.slice q30 xs3.length k30] 50)).heap.size = w16.heap.size + 1 := by simp
        generalize w16.alloc (.cells #[.slice q30 xs3.length k30] 50) = w17 at hb hk hz ⊢
        have HB17 : Hid (Below w.heap.size w w17) := Lib.hid (HB16.out.trans (hb.mono HB16.out.size))
        have HZ17 : Hid (w16.heap.size ≤ w17.heap.size) := Lib.hid hb.size
        have HRk17 := Lib.hid (HRk0.out.below HB17.out (Nat.le_refl _))
        have HRs17 := Lib.hid (HRs16.out.below hb (Nat.le_refl _))
        have HRx17 := Lib.hid (HRx16.out.below hb (Nat.le_refl _))
        have HBs16_17 : Hid (Below w16.heap.size w16 w17) := Lib.hid (HBs16_16.out.trans (hb.mono HBs16_16.out.size))
        have HKb3017 := Lib.hid hk
        replace HZ17 : Hid (w16.heap.size < w17.heap.size) := Lib.hid (by omega)
        have HE17 := Lib.hid hz
        clear hb hk hz
        refine (iPartOf_any _ _ us3 xs3 n3 _ HRs17.out HSZ3.out HRx17.out qa3 qb3 r3 HK3.out).mono ?_
        rintro e w18 ⟨⟨t1, t2, rfl, ho⟩, hb⟩
        have HB18 : Hid (Below w.heap.size w w18) := Lib.hid (HB17.out.trans (hb.mono HB17.out.size))
        have HZ18 : Hid (w17.heap.size ≤ w18.heap.size) := Lib.hid hb.size
        have HRk18 := Lib.hid (HRk0.out.below HB18.out (Nat.le_refl _))
        have HRs18 := Lib.hid (HRs17.out.below hb (Nat.le_refl _))
        have HRx18 := Lib.hid (HRx17.out.below hb (Nat.le_refl _))
        have HKb3018 := Lib.hid ((hb.block _ (lt_of_block HKb3017.out)).trans HKb3017.out)
        have HBs16_18 : Hid (Below w16.heap.size w16 w18) := Lib.hid (HBs16_17.out.trans (hb.mono HBs16_17.out.size))
        clear hb
        obtain ⟨x1', y1', x2', y2', ho1, ho2, -⟩ := OwB.split ho (by have := HZ1.out; have := HZ2.out; have := HZ3.out; have := HZ4.out; have := HZ5.out; have := HZ6.out; have := HZ7.out; have := HZ8.out; have := HZ9.out; have := HZ10.out; have := HZ11.out; have := HZ12.out; have := HZ13.out; have := HZ14.out; have := HZ15.out; have := HZ16.out; have := HZ17.out; have := HZ18.out;  omega)
        clear ho
        obtain ⟨q31, k31, rfl⟩ : ∃ a c, t1 = .slice a qa3.length c := ho1.form
        obtain ⟨q32, k32, rfl⟩ : ∃ a c, t2 = .slice a qb3.length c := ho2.form
        have HRo18 := Lib.hid (ho1.reads)
        have HBs18_18 : Hid (Below w18.heap.size w18 w18) := Lib.hid (Below.refl _ _)
        have HRe18 := Lib.hid (ho2.reads)
        clear ho1 ho2
        have ltb30 := lt_of_block HKb3018.out
        obtain ⟨cb300, fb300⟩ := cell1 HKb3018.out
        go_wp2_with fail
        have hb : Below w18.heap.size w18 (w18.alloc (.cells #[.slice q31 qa3.length k31] 50)) := (Below.refl _ _).alloc (Nat.le_refl _) _
        have hk : (w18.alloc (.cells #[.slice q31 qa3.length k31] 50)).heap[w18.heap.size]? = some (.cells #[.slice q31 qa3.length k31] 50 (0, 0)) := alloc_at rfl
        have hz : (w18.alloc (.cells #[.slice q31 qa3.length k31] 50)).heap.size = w18.heap.size + 1 := by simp
        generalize w18.alloc (.cells #[.slice q31 qa3.length k31] 50) = w19 at hb hk hz ⊢
        have HB19 : Hid (Below w.heap.size w w19) := Lib.hid (HB18.out.trans (hb.mono HB18.out.size))
        have HZ19 : Hid (w18.heap.size ≤ w19.heap.size) := Lib.hid hb.size
        have HRk19 := Lib.hid (HRk0.out.below HB19.out (Nat.le_refl _))
        have HRs19 := Lib.hid (HRs18.out.below hb (Nat.le_refl _))
        have HRx19 := Lib.hid (HRx18.out.below hb (Nat.le_refl _))
        have HKb3019 := Lib.hid ((hb.block _ (lt_of_block HKb3018.out)).trans HKb3018.out)
        have HRo19 := Lib.hid (HRo18.out.below hb (Nat.le_refl _))
        have HRe19 := Lib.hid (HRe18.out.below hb (Nat.le_refl _))
        have HBs16_19 : Hid (Below w16.heap.size w16 w19) := Lib.hid (HBs16_18.out.trans (hb.mono HBs16_18.out.size))
        have HBs18_19 : Hid (Below w18.heap.size w18 w19) := Lib.hid (HBs18_18.out.trans (hb.mono HBs18_18.out.size))
        have HKb3119 := Lib.hid hk
        replace HZ19 : Hid (w18.heap.size < w19.heap.size) := Lib.hid (by omega)
        have HE19 := Lib.hid hz
        clear hb hk hz
        have hb : Below w19.heap.size w19 (w19.alloc (.cells #[.slice q32 qb3.length k32] 50)) := (Below.refl _ _).alloc (Nat.le_refl _) _
        have hk : (w19.alloc (.cells #[.slice q32 qb3.length k32] 50)).heap[w18.heap.size + 1]? = some (.cells #[.slice q32 qb3.length k32] 50 (0, 0)) := alloc_at (by have := HE3.out; have := HE5.out; have := HE9.out; have := HE10.out; have := HE12.out; have := HE14.out; have := HE17.out; have := HE19.out; omega)
        have hz : (w19.alloc (.cells #[.slice q32 qb3.length k32] 50)).heap.size = w19.heap.size + 1 := by simp
        generalize w19.alloc (.cells #[.slice q32 qb3.length k32] 50) = w20 at hb hk hz ⊢
        have HB20 : Hid (Below w.heap.size w w20) := Lib.hid (HB19.out.trans (hb.mono HB19.out.size))
        have HZ20 : Hid (w19.heap.size ≤ w20.heap.size) := Lib.hid hb.size
        have HRk20 := Lib.hid (HRk0.out.below HB20.out (Nat.le_refl _))
        have HRs20 := Lib.hid (HRs19.out.below hb (Nat.le_refl _))
        have HRx20 := Lib.hid (HRx19.out.below hb (Nat.le_refl _))
        have HKb3020 := Lib.hid ((hb.block _ (lt_of_block HKb3019.out)).trans HKb3019.out)
        have HRo20 := Lib.hid (HRo19.out.below hb (Nat.le_refl _))
        have HRe20 := Lib.hid (HRe19.out.below hb (Nat.le_refl _))
        have HKb3120 := Lib.hid ((hb.block _ (lt_of_block HKb3119.out)).trans HKb3119.out)
        have HBs16_20 : Hid (Below w16.heap.size w16 w20) := Lib.hid (HBs16_19.out.trans (hb.mono HBs16_19.out.size))
        have HBs18_20 : Hid (Below w18.heap.size w18 w20) := Lib.hid (HBs18_19.out.trans (hb.mono HBs18_19.out.size))
        have HKb3220 := Lib.hid hk
        replace HZ20 : Hid (w19.heap.size < w20.heap.size) := Lib.hid (by omega)
        have HE20 := Lib.hid hz
        clear hb hk hz
        refine (sPartOf_any _ _ us3 xs3 n3 _ HRs20.out HSZ3.out HRx20.out qa3 qb3 r3 HK3.out).mono ?_
        rintro e w21 ⟨⟨t1, t2, rfl, ho⟩, hb⟩
        have HB21 : Hid (Below w.heap.size w w21) := Lib.hid (HB20.out.trans (hb.mono HB20.out.size))
        have HZ21 : Hid (w20.heap.size ≤ w21.heap.size) := Lib.hid hb.size
        have HRk21 := Lib.hid (HRk0.out.below HB21.out (Nat.le_refl _))
        have HRs21 := Lib.hid (HRs20.out.below hb (Nat.le_refl _))
        have HRx21 := Lib.hid (HRx20.out.below hb (Nat.le_refl _))
        have HKb3021 := Lib.hid ((hb.block _ (lt_of_block HKb3020.out)).trans HKb3020.out)
        have HRo21 := Lib.hid (HRo20.out.below hb (Nat.le_refl _))
        have HRe21 := Lib.hid (HRe20.out.below hb (Nat.le_refl _))
        have HKb3121 := Lib.hid ((hb.block _ (lt_of_block HKb3120.out)).trans HKb3120.out)
        have HKb3221 := Lib.hid ((hb.block _ (lt_of_block HKb3220.out)).trans HKb3220.out)
        have HBs16_21 : Hid (Below w16.heap.size w16 w21) := Lib.hid (HBs16_20.out.trans (hb.mono HBs16_20.out.size))
        have HBs18_21 : Hid (Below w18.heap.size w18 w21) := Lib.hid (HBs18_20.out.trans (hb.mono HBs18_20.out.size))
        clear hb
        obtain ⟨x1', y1', x2', y2', ho1, ho2, -⟩ := OwB.split ho (by have := HZ1.out; have := HZ2.out; have := HZ3.out; have := HZ4.out; have := HZ5.out; have := HZ6.out; have := HZ7.out; have := HZ8.out; have := HZ9.out; have := HZ10.out; have := HZ11.out; have := HZ12.out; have := HZ13.out; have := HZ14.out; have := HZ15.out; have := HZ16.out; have := HZ17.out; have := HZ18.out; have := HZ19.out; have := HZ20.out; have := HZ21.out;  omega)
        clear ho
        obtain ⟨q33, k33, rfl⟩ : ∃ a c, t1 = .slice a qa3.length c := ho1.form
        obtain ⟨q34, k34, rfl⟩ : ∃ a c, t2 = .slice a qb3.length c := ho2.form
        have HRp21 := Lib.hid (ho1.reads)
        have HBs21_21 : Hid (Below w21.heap.size w21 w21) := Lib.hid (Below.refl _ _)
        have HRq21 := Lib.hid (ho2.reads)
        clear ho1 ho2
        clear cb300 fb300 ltb30
        have ltb30 := lt_of_block HKb3021.out
        obtain ⟨cb300, fb300⟩ := cell1 HKb3021.out
        have ltb31 := lt_of_block HKb3121.out
        obtain ⟨cb310, fb310⟩ := cell1 HKb3121.out
        have ltb32 := lt_of_block HKb3221.out
        obtain ⟨cb320, fb320⟩ := cell1 HKb3221.out
        go_wp2_with fail
        have hb : Below w21.heap.size w21 (w21.alloc (.cells #[.slice q33 qa3.length k33] 50)) := (Below.refl _ _).alloc (Nat.le_refl _) _
        have hk : (w21.alloc (.cells #[.slice q33 qa3.length k33] 50)).heap[w21.heap.size]? = some (.cells #[.slice q33 qa3.length k33] 50 (0, 0)) := alloc_at rfl
        have hz : (w21.alloc (.cells #[.slice q33 qa3.length k33] 50)).heap.size = w21.heap.size + 1 := by simp
        generalize w21.alloc (.cells #[.slice q33 qa3.length k33] 50) = w22 at hb hk hz ⊢
        have HB22 : Hid (Below w.heap.size w w22) := Lib.hid (HB21.out.trans (hb.mono HB21.out.size))
        have HZ22 : Hid (w21.heap.size ≤ w22.heap.size) := Lib.hid hb.size
        have HRk22 := Lib.hid (HRk0.out.below HB22.out (Nat.le_refl _))
        have HRs22 := Lib.hid (HRs21.out.below hb (Nat.le_refl _))
        have HRx22 := Lib.hid (HRx21.out.below hb (Nat.le_refl _))
        have HKb3022 := Lib.hid ((hb.block _ (lt_of_block HKb3021.out)).trans HKb3021.out)
        have HRo22 := Lib.hid (HRo21.out.below hb (Nat.le_refl _))
        have HRe22 := Lib.hid (HRe21.out.below hb (Nat.le_refl _))
        have HKb3122 := Lib.hid ((hb.block _ (lt_of_block HKb3121.out)).trans HKb3121.out)
        have HKb3222 := Lib.hid ((hb.block _ (lt_of_block HKb3221.out)).trans HKb3221.out)
        have HRp22 := Lib.hid (HRp21.out.below hb (Nat.le_refl _))
        have HRq22 := Lib.hid (HRq21.out.below hb (Nat.le_refl _))
        have HBs16_22 : Hid (Below w16.heap.size w16 w22) := Lib.hid (HBs16_21.out.trans (hb.mono HBs16_21.out.size))
        have HBs18_22 : Hid (Below w18.heap.size w18 w22) := Lib.hid (HBs18_21.out.trans (hb.mono HBs18_21.out.size))
        have HBs21_22 : Hid (Below w21.heap.size w21 w22) := Lib.hid (HBs21_21.out.trans (hb.mono HBs21_21.out.size))
        have HKb3322 := Lib.hid hk
        replace HZ22 : Hid (w21.heap.size < w22.heap.size) := Lib.hid (by omega)
        have HE22 := Lib.hid hz
        clear hb hk hz
        have hb : Below w22.heap.size w22 (w22.alloc (.cells #[.slice q34 qb3.length k34] 50)) := (Below.refl _ _).alloc (Nat.le_refl _) _
        have hk : (w22.alloc (.cells #[.slice q34 qb3.length k34] 50)).heap[w21.heap.size + 1]? = some (.cells #[.slice q34 qb3.length k34] 50 (0, 0)) := alloc_at (by have := HE3.out; have := HE5.out; have := HE9.out; have := HE10.out; have := HE12.out; have := HE14.out; have := HE17.out; have := HE19.out; have := HE20.out; have := HE22.out; omega)
        have hz : (w22.alloc (.cells #[.slice q34 qb3.length k34] 50)).heap.size = w22.heap.size + 1 := by simp
        generalize w22.alloc (.cells #[.slice q34 qb3.length k34] 50) = w23 at hb hk hz ⊢
        have HB23 : Hid (Below w.heap.size w w23) := Lib.hid (HB22.out.trans (hb.mono HB22.out.size))
        have HZ23 : Hid (w22.heap.size ≤ w23.heap.size) := Lib.hid hb.size
        have HRk23 := Lib.hid (HRk0.out.below HB23.out (Nat.le_refl _))
        have HRs23 := Lib.hid (HRs22.out.below hb (Nat.le_refl _))
        have HRx23 := Lib.hid (HRx22.out.below hb (Nat.le_refl _))
        have HKb3023 := Lib.hid ((hb.block _ (lt_of_block HKb3022.out)).trans HKb3022.out)
        have HRo23 := Lib.hid (HRo22.out.below hb (Nat.le_refl _))
        have HRe23 := Lib.hid (HRe22.out.below hb (Nat.le_refl _))
        have HKb3123 := Lib.hid ((hb.block _ (lt_of_block HKb3122.out)).trans HKb3122.out)
        have HKb3223 := Lib.hid ((hb.block _ (lt_of_block HKb3222.out)).trans HKb3222.out)
        have HRp23 := Lib.hid (HRp22.out.below hb (Nat.le_refl _))
        have HRq23 := Lib.hid (HRq22.out.below hb (Nat.le_refl _))
        have HKb3323 := Lib.hid ((hb.block _ (lt_of_block HKb3322.out)).trans HKb3322.out)
        have HBs16_23 : Hid (Below w16.heap.size w16 w23) := Lib.hid (HBs16_22.out.trans (hb.mono HBs16_22.out.size))
        have HBs18_23 : Hid (Below w18.heap.size w18 w23) := Lib.hid (HBs18_22.out.trans (hb.mono HBs18_22.out.size))
        have HBs21_23 : Hid (Below w21.heap.size w21 w23) := Lib.hid (HBs21_22.out.trans (hb.mono HBs21_22.out.size))
        have HKb3423 := Lib.hid hk
        replace HZ23 : Hid (w22.heap.size < w23.heap.size) := Lib.hid (by omega)
        have HE23 := Lib.hid hz
        clear hb hk hz
        refine (rAmount_yes _ _ qa3 _ HRo23.out HRp23.out).mono ?_
        rintro e w24 ⟨rfl, hb⟩
        have HB24 : Hid (Below w.heap.size w w24) := Lib.hid (HB23.out.trans (hb.mono HB23.out.size))
        have HZ24 : Hid (w23.heap.size ≤ w24.heap.size) := Lib.hid hb.size
        have HRk24 := Lib.hid (HRk0.out.below HB24.out (Nat.le_refl _))
        have HRs24 := Lib.hid (HRs23.out.below hb (Nat.le_refl _))
        have HRx24 := Lib.hid (HRx23.out.below hb (Nat.le_refl _))
        have HKb3024 := Lib.hid ((hb.block _ (lt_of_block HKb3023.out)).trans HKb3023.out)
        have HRo24 := Lib.hid (HRo23.out.below hb (Nat.le_refl _))
        have HRe24 := Lib.hid (HRe23.out.below hb (Nat.le_refl _))
        have HKb3124 := Lib.hid ((hb.block _ (lt_of_block HKb3123.out)).trans HKb3123.out)
        have HKb3224 := Lib.hid ((hb.block _ (lt_of_block HKb3223.out)).trans HKb3223.out)
        have HRp24 := Lib.hid (HRp23.out.below hb (Nat.le_refl _))
        have HRq24 := Lib.hid (HRq23.out.below hb (Nat.le_refl _))
        have HKb3324 := Lib.hid ((hb.block _ (lt_of_block HKb3323.out)).trans HKb3323.out)
        have HKb3424 := Lib.hid ((hb.block _ (lt_of_block HKb3423.out)).trans HKb3423.out)
        have HBs16_24 : Hid (Below w16.heap.size w16 w24) := Lib.hid (HBs16_23.out.trans (hb.mono HBs16_23.out.size))
        have HBs18_24 : Hid (Below w18.heap.size w18 w24) := Lib.hid (HBs18_23.out.trans (hb.mono HBs18_23.out.size))
        have HBs21_24 : Hid (Below w21.heap.size w21 w24) := Lib.hid (HBs21_23.out.trans (hb.mono HBs21_23.out.size))
        clear hb
        clear cb300 fb300 ltb30 cb310 fb310 ltb31 cb320 fb320 ltb32
        have ltb30 := lt_of_block HKb3024.out
        obtain ⟨cb300, fb300⟩ := cell1 HKb3024.out
        have ltb31 := lt_of_block HKb3124.out
        obtain ⟨cb310, fb310⟩ := cell1 HKb3124.out
        have ltb32 := lt_of_block HKb3224.out
        obtain ⟨cb320, fb320⟩ := cell1 HKb3224.out
        have ltb33 := lt_of_block HKb3324.out
        obtain ⟨cb330, fb330⟩ := cell1 HKb3324.out
        have ltb34 := lt_of_block HKb3424.out
        obtain ⟨cb340, fb340⟩ := cell1 HKb3424.out
        go_wp2_with fail
        refine (rAmount_yes _ _ qb3 _ HRe24.out HRq24.out).mono ?_
        rintro e w25 ⟨rfl, hb⟩
        have HB25 : Hid (Below w.heap.size w w25) := Lib.hid (HB24.out.trans (hb.mono HB24.out.size))
        have HZ25 : Hid (w24.heap.size ≤ w25.heap.size) := Lib.hid hb.size
        have HRk25 := Lib.hid (HRk0.out.below HB25.out (Nat.le_refl _))
        have HRs25 := Lib.hid (HRs24.out.below hb (Nat.le_refl _))
        have HRx25 := Lib.hid (HRx24.out.below hb (Nat.le_refl _))
        have HKb3025 := Lib.hid ((hb.block _ (lt_of_block HKb3024.out)).trans HKb3024.out)
        have HRo25 := Lib.hid (HRo24.out.below hb (Nat.le_refl _))
        have HRe25 := Lib.hid (HRe24.out.below hb (Nat.le_refl _))
        have HKb3125 := Lib.hid ((hb.block _ (lt_of_block HKb3124.out)).trans HKb3124.out)
        have HKb3225 := Lib.hid ((hb.block _ (lt_of_block HKb3224.out)).trans HKb3224.out)
        have HRp25 := Lib.hid (HRp24.out.below hb (Nat.le_refl _))
        have HRq25 := Lib.hid (HRq24.out.below hb (Nat.le_refl _))
        have HKb3325 := Lib.hid ((hb.block _ (lt_of_block HKb3324.out)).trans HKb3324.out)
        have HKb3425 := Lib.hid ((hb.block _ (lt_of_block HKb3424.out)).trans HKb3424.out)
        have HBs16_25 : Hid (Below w16.heap.size w16 w25) := Lib.hid (HBs16_24.out.trans (hb.mono HBs16_24.out.size))
        have HBs18_25 : Hid (Below w18.heap.size w18 w25) := Lib.hid (HBs18_24.out.trans (hb.mono HBs18_24.out.size))
        have HBs21_25 : Hid (Below w21.heap.size w21 w25) := Lib.hid (HBs21_24.out.trans (hb.mono HBs21_24.out.size))
        clear hb
        cases r3 with
        | true =>
          obtain ⟨⟨rfl, rfl, rfl⟩, w1, w2', l1, l2⟩ := HT3.out rfl
          have g1 : (x0 != x0) = false := by simp
          clear cb300 fb300 ltb30 cb310 fb310 ltb31 cb320 fb320 ltb32 cb330 fb330 ltb33 cb340 fb340 ltb34
          have ltb30 := lt_of_block HKb3025.out
          obtain ⟨cb300, fb300⟩ := cell1 HKb3025.out
          have ltb31 := lt_of_block HKb3125.out
          obtain ⟨cb310, fb310⟩ := cell1 HKb3125.out
          have ltb32 := lt_of_block HKb3225.out
          obtain ⟨cb320, fb320⟩ := cell1 HKb3225.out
          go_wp2_with fail
          refine (iVal_any _ _ us3 xs3 _ HRs25.out HSZ3.out HRx25.out x0 true HV30.out).mono ?_
          rintro e w26 ⟨rfl, hb⟩
          have HB26 : Hid (Below w.heap.size w w26) := Lib.hid (HB25.out.trans (hb.mono HB25.out.size))
          have HZ26 : Hid (w25.heap.size ≤ w26.heap.size) := Lib.hid hb.size
          have HRk26 := Lib.hid (HRk0.out.below HB26.out (Nat.le_refl _))
          have HRs26 := Lib.hid (HRs25.out.below hb (Nat.le_refl _))
          have HRx26 := Lib.hid (HRx25.out.below hb (Nat.le_refl _))
          have HKb3026 := Lib.hid ((hb.block _ (lt_of_block HKb3025.out)).trans HKb3025.out)
          have HRo26 := Lib.hid (HRo25.out.below hb (Nat.le_refl _))
          have HRe26 := Lib.hid (HRe25.out.below hb (Nat.le_refl _))
          have HKb3126 := Lib.hid ((hb.block _ (lt_of_block HKb3125.out)).trans HKb3125.out)
          have HKb3226 := Lib.hid ((hb.block _ (lt_of_block HKb3225.out)).trans HKb3225.out)
          have HBs16_26 : Hid (Below w16.heap.size w16 w26) := Lib.hid (HBs16_25.out.trans (hb.mono HBs16_25.out.size))
          have HBs18_26 : Hid (Below w18.heap.size w18 w26) := Lib.hid (HBs18_25.out.trans (hb.mono HBs18_25.out.size))
          clear hb
          clear cb300 fb300 ltb30 cb310 fb310 ltb31 cb320 fb320 ltb32
          have ltb30 := lt_of_block HKb3026.out
          obtain ⟨cb300, fb300⟩ := cell1 HKb3026.out
          have ltb31 := lt_of_block HKb3126.out
          obtain ⟨cb310, fb310⟩ := cell1 HKb3126.out
          have ltb32 := lt_of_block HKb3226.out
          obtain ⟨cb320, fb320⟩ := cell1 HKb3226.out
          go_wp2_with fail
          refine (iVal_any _ _ us3 qa3 _ HRs26.out HSZ3.out HRo26.out x1 true HV31.out).mono ?_
          rintro e w27 ⟨rfl, hb⟩
          have HB27 : Hid (Below w.heap.size w w27) := Lib.hid (HB26.out.trans (hb.mono HB26.out.size))
          have HZ27 : Hid (w26.heap.size ≤ w27.heap.size) := Lib.hid hb.size
          have HRk27 := Lib.hid (HRk0.out.below HB27.out (Nat.le_refl _))
          have HRs27 := Lib.hid (HRs26.out.below hb (Nat.le_refl _))
          have HRx27 := Lib.hid (HRx26.out.below hb (Nat.le_refl _))
          have HKb3027 := Lib.hid ((hb.block _ (lt_of_block HKb3026.out)).trans HKb3026.out)
          have HRo27 := Lib.hid (HRo26.out.below hb (Nat.le_refl _))
          have HRe27 := Lib.hid (HRe26.out.below hb (Nat.le_refl _))
          have HKb3127 := Lib.hid ((hb.block _ (lt_of_block HKb3126.out)).trans HKb3126.out)
          have HKb3227 := Lib.hid ((hb.block _ (lt_of_block HKb3226.out)).trans HKb3226.out)
          have HBs16_27 : Hid (Below w16.heap.size w16 w27) := Lib.hid (HBs16_26.out.trans (hb.mono HBs16_26.out.size))
          have HBs18_27 : Hid (Below w18.heap.size w18 w27) := Lib.hid (HBs18_26.out.trans (hb.mono HBs18_26.out.size))
          clear hb
          clear cb300 fb300 ltb30 cb310 fb310 ltb31 cb320 fb320 ltb32
          have ltb30 := lt_of_block HKb3027.out
          obtain ⟨cb300, fb300⟩ := cell1 HKb3027.out
          have ltb31 := lt_of_block HKb3127.out
          obtain ⟨cb310, fb310⟩ := cell1 HKb3127.out
          have ltb32 := lt_of_block HKb3227.out
          obtain ⟨cb320, fb320⟩ := cell1 HKb3227.out
          go_wp2_with fail
          refine (iVal_any _ _ us3 qb3 _ HRs27.out HSZ3.out HRe27.out x2 true HV32.out).mono ?_
          rintro e w28 ⟨rfl, hb⟩
          have HB28 : Hid (Below w.heap.size w w28) := Lib.hid (HB27.out.trans (hb.mono HB27.out.size))
          have HZ28 : Hid (w27.heap.size ≤ w28.heap.size) := Lib.hid hb.size
          have HRk28 := Lib.hid (HRk0.out.below HB28.out (Nat.le_refl _))
          have HRs28 := Lib.hid (HRs27.out.below hb (Nat.le_refl _))
          have HRx28 := Lib.hid (HRx27.out.below hb (Nat.le_refl _))
          have HKb3028 := Lib.hid ((hb.block _ (lt_of_block HKb3027.out)).trans HKb3027.out)
          have HRo28 := Lib.hid (HRo27.out.below hb (Nat.le_refl _))
          have HRe28 := Lib.hid (HRe27.out.below hb (Nat.le_refl _))
          have HKb3128 := Lib.hid ((hb.block _ (lt_of_block HKb3127.out)).trans HKb3127.out)
          have HKb3228 := Lib.hid ((hb.block _ (lt_of_block HKb3227.out)).trans HKb3227.out)
          have HBs16_28 : Hid (Below w16.heap.size w16 w28) := Lib.hid (HBs16_27.out.trans (hb.mono HBs16_27.out.size))
          have HBs18_28 : Hid (Below w18.heap.size w18 w28) := Lib.hid (HBs18_27.out.trans (hb.mono HBs18_27.out.size))
          clear hb
          clear cb300 fb300 ltb30 cb310 fb310 ltb31 cb320 fb320 ltb32
          have ltb30 := lt_of_block HKb3028.out
          obtain ⟨cb300, fb300⟩ := cell1 HKb3028.out
          have ltb31 := lt_of_block HKb3128.out
          obtain ⟨cb310, fb310⟩ := cell1 HKb3128.out
          have ltb32 := lt_of_block HKb3228.out
          obtain ⟨cb320, fb320⟩ := cell1 HKb3228.out
          go_wp2_with fail
          clear w1 w2' l1 l2
          refine (drawDifferenceOf_any _ L _ HRk28.out).mono ?_
          rintro e w29 ⟨⟨v, x, y, us4, xs4, ys4, rfl, hv, hx, hy, ⟨hl, hnm⟩, hxl, hyl⟩, hb⟩
          have HB29 : Hid (Below w.heap.size w w29) := Lib.hid (HB28.out.trans (hb.mono HB28.out.size))
          have HZ29 : Hid (w28.heap.size ≤ w29.heap.size) := Lib.hid hb.size
          have HRk29 := Lib.hid (HRk0.out.below HB29.out (Nat.le_refl _))
          clear hb
          obtain ⟨qs4, ks4, rfl⟩ := own_form hv
          have HRs29 := Lib.hid ((RowsR.of_own unC_len hv))
          have HBs29_29 : Hid (Below w29.heap.size w29 w29) := Lib.hid (Below.refl _ _)
          clear hv
          have HSZ4 := Lib.hid (nm_small hnm)
          clear hl hnm
          obtain ⟨q40, k40, rfl⟩ := own_form hx
          have HRx29 := Lib.hid ((RowsR.of_own inC_len hx))
          clear hx
          obtain ⟨q41, k41, rfl⟩ := own_form hy
          have HRy29 := Lib.hid ((RowsR.of_own inC_len hy))
          clear hy
          clear hxl hyl
          obtain ⟨qs4, r4, hk⟩ := testF_or (okAm us4 xs4 ∧ okAm us4 ys4) us4 (valA us4 xs4 - valA us4 ys4)
          have HK4 := Lib.hid hk
          obtain ⟨s4, hs⟩ := okS_dec us4
          have HI4 := Lib.hid hs
          clear hk hs
          have e4 : (r4 == r4) = true := by simp
          have e5 : (s4 == s4) = true := by simp
          clear cb300 fb300 ltb30 cb310 fb310 ltb31 cb320 fb320 ltb32
          go_wp2_with fail
          have hb : Below w29.heap.size w29 (w29.alloc (.cells #[.slice q40 xs4.length k40] 50)) := (Below.refl _ _).alloc (Nat.le_refl _) _
          have hk : (w29.alloc (.cells #[.slice q40 xs4.length k40] 50)).heap[w29.heap.size]? = some (.cells #[.slice q40 xs4.length k40] 50 (0, 0)) := alloc_at rfl
          have hz : (w29.alloc (.cells #[.slice q40 xs4.length k40] 50)).heap.size = w29.heap.size + 1 := by simp
          generalize w29.alloc (.cells #[.slice q40 xs4.length k40] 50) = w30 at hb hk hz ⊢
          have HB30 : Hid (Below w.heap.size w w30) := Lib.hid (HB29.out.trans (hb.mono HB29.out.size))
          have HZ30 : Hid (w29.heap.size ≤ w30.heap.size) := Lib.hid hb.size
          have HRk30 := Lib.hid (HRk0.out.below HB30.out (Nat.le_refl _))
          have HRs30 := Lib.hid (HRs29.out.below hb (Nat.le_refl _))
          have HRx30 := Lib.hid (HRx29.out.below hb (Nat.le_refl _))
          have HRy30 := Lib.hid (HRy29.out.below hb (Nat.le_refl _))
          have HBs29_30 : Hid (Below w29.heap.size w29 w30) := Lib.hid (HBs29_29.out.trans (hb.mono HBs29_29.out.size))
          have HKb4030 := Lib.hid hk
          replace HZ30 : Hid (w29.heap.size < w30.heap.size) := Lib.hid (by omega)
          have HE30 := Lib.hid hz
          clear hb hk hz
          have hb : Below w30.heap.size w30 (w30.alloc (.cells #[.slice q41 ys4.length k41] 50)) := (Below.refl _ _).alloc (Nat.le_refl _) _
          have hk : (w30.alloc (.cells #[.slice q41 ys4.length k41] 50)).heap[w29.heap.size + 1]? = some (.cells #[.slice q41 ys4.length k41] 50 (0, 0)) := alloc_at (by have := HE3.out; have := HE5.out; have := HE9.out; have := HE10.out; have := HE12.out; have := HE14.out; have := HE17.out; have := HE19.out; have := HE20.out; have := HE22.out; have := HE23.out; have := HE30.out; omega)
          have hz : (w30.alloc (.cells #[.slice q41 ys4.length k41] 50)).heap.size = w30.heap.size + 1 := by simp
          generalize w30.alloc (.cells #[.slice q41 ys4.length k41] 50) = w31 at hb hk hz ⊢
          have HB31 : Hid (Below w.heap.size w w31) := Lib.hid (HB30.out.trans (hb.mono HB30.out.size))
          have HZ31 : Hid (w30.heap.size ≤ w31.heap.size) := Lib.hid hb.size
          have HRk31 := Lib.hid (HRk0.out.below HB31.out (Nat.le_refl _))
          have HRs31 := Lib.hid (HRs30.out.below hb (Nat.le_refl _))
          have HRx31 := Lib.hid (HRx30.out.below hb (Nat.le_refl _))
          have HRy31 := Lib.hid (HRy30.out.below hb (Nat.le_refl _))
          have HKb4031 := Lib.hid ((hb.block _ (lt_of_block HKb4030.out)).trans HKb4030.out)
          have HBs29_31 : Hid (Below w29.heap.size w29 w31) := Lib.hid (HBs29_30.out.trans (hb.mono HBs29_30.out.size))
          have HKb4131 := Lib.hid hk
          replace HZ31 : Hid (w30.heap.size < w31.heap.size) := Lib.hid (by omega)
          have HE31 := Lib.hid hz
          clear hb hk hz
          refine (iDifferenceOf_any _ _ _ us4 xs4 ys4 _ HRs31.out HSZ4.out HRx31.out HRy31.out qs4 r4 HK4.out).mono ?_
          rintro e w32 ⟨⟨t, rfl, ho⟩, hb⟩
          have HB32 : Hid (Below w.heap.size w w32) := Lib.hid (HB31.out.trans (hb.mono HB31.out.size))
          have HZ32 : Hid (w31.heap.size ≤ w32.heap.size) := Lib.hid hb.size
          have HRk32 := Lib.hid (HRk0.out.below HB32.out (Nat.le_refl _))
          have HRs32 := Lib.hid (HRs31.out.below hb (Nat.le_refl _))
          have HRx32 := Lib.hid (HRx31.out.below hb (Nat.le_refl _))
          have HRy32 := Lib.hid (HRy31.out.below hb (Nat.le_refl _))
          have HKb4032 := Lib.hid ((hb.block _ (lt_of_block HKb4031.out)).trans HKb4031.out)
          have HKb4132 := Lib.hid ((hb.block _ (lt_of_block HKb4131.out)).trans HKb4131.out)
          have HBs29_32 : Hid (Below w29.heap.size w29 w32) := Lib.hid (HBs29_31.out.trans (hb.mono HBs29_31.out.size))
          clear hb
          obtain ⟨q42, k42, rfl⟩ : ∃ a c, t = .slice a qs4.length c := ho.form
          have HRo32 := Lib.hid (ho.reads)
          have HBs32_32 : Hid (Below w32.heap.size w32 w32) := Lib.hid (Below.refl _ _)
          clear ho
          have ltb40 := lt_of_block HKb4032.out
          obtain ⟨cb400, fb400⟩ := cell1 HKb4032.out
          have ltb41 := lt_of_block HKb4132.out
          obtain ⟨cb410, fb410⟩ := cell1 HKb4132.out
          go_wp2_with fail
          have hb : Below w32.heap.size w32 (w32.alloc (.cells #[.slice q42 qs4.length k42] 50)) := (Below.refl _ _).alloc (Nat.le_refl _) _
          have hk : (w32.alloc (.cells #[.slice q42 qs4.length k42] 50)).heap[w32.heap.size]? = some (.cells #[.slice q42 qs4.length k42] 50 (0, 0)) := alloc_at rfl
          have hz : (w32.alloc (.cells #[.slice q42 qs4.length k42] 50)).heap.size = w32.heap.size + 1 := by simp
          generalize w32.alloc (.cells #[.slice q42 qs4.length k42] 50) = w33 at hb hk hz ⊢
          have HB33 : Hid (Below w.heap.size w w33) := Lib.hid (HB32.out.trans (hb.mono HB32.out.size))
          have HZ33 : Hid (w32.heap.size ≤ w33.heap.size) := Lib.hid hb.size
          have HRk33 := Lib.hid (HRk0.out.below HB33.out (Nat.le_refl _))
          have HRs33 := Lib.hid (HRs32.out.below hb (Nat.le_refl _))
          have HRx33 := Lib.hid (HRx32.out.below hb (Nat.le_refl _))
          have HRy33 := Lib.hid (HRy32.out.below hb (Nat.le_refl _))
          have HKb4033 := Lib.hid ((hb.block _ (lt_of_block HKb4032.out)).trans HKb4032.out)
          have HKb4133 := Lib.hid ((hb.block _ (lt_of_block HKb4132.out)).trans HKb4132.out)
          have HRo33 := Lib.hid (HRo32.out.below hb (Nat.le_refl _))
          have HBs29_33 : Hid (Below w29.heap.size w29 w33) := Lib.hid (HBs29_32.out.trans (hb.mono HBs29_32.out.size))
          have HBs32_33 : Hid (Below w32.heap.size w32 w33) := Lib.hid (HBs32_32.out.trans (hb.mono HBs32_32.out.size))
          have HKb4233 := Lib.hid hk
          replace HZ33 : Hid (w32.heap.size < w33.heap.size) := Lib.hid (by omega)
          have HE33 := Lib.hid hz
          clear hb hk hz
          refine (sDifferenceOf_any _ _ _ us4 xs4 ys4 _ HRs33.out HSZ4.out HRx33.out HRy33.out qs4 r4 HK4.out).mono ?_
          rintro e w34 ⟨⟨t, rfl, ho⟩, hb⟩
          have HB34 : Hid (Below w.heap.size w w34) := Lib.hid (HB33.out.trans (hb.mono HB33.out.size))
          have HZ34 : Hid (w33.heap.size ≤ w34.heap.size) := Lib.hid hb.size
          have HRk34 := Lib.hid (HRk0.out.below HB34.out (Nat.le_refl _))
          have HRs34 := Lib.hid (HRs33.out.below hb (Nat.le_refl _))
          have HRx34 := Lib.hid (HRx33.out.below hb (Nat.le_refl _))
          have HRy34 := Lib.hid (HRy33.out.below hb (Nat.le_refl _))
          have HKb4034 := Lib.hid ((hb.block _ (lt_of_block HKb4033.out)).trans HKb4033.out)
          have HKb4134 := Lib.hid ((hb.block _ (lt_of_block HKb4133.out)).trans HKb4133.out)
          have HRo34 := Lib.hid (HRo33.out.below hb (Nat.le_refl _))
          have HKb4234 := Lib.hid ((hb.block _ (lt_of_block HKb4233.out)).trans HKb4233.out)
          have HBs29_34 : Hid (Below w29.heap.size w29 w34) := Lib.hid (HBs29_33.out.trans (hb.mono HBs29_33.out.size))
          have HBs32_34 : Hid (Below w32.heap.size w32 w34) := Lib.hid (HBs32_33.out.trans (hb.mono HBs32_33.out.size))
          clear hb
          obtain ⟨q43, k43, rfl⟩ : ∃ a c, t = .slice a qs4.length c := ho.form
          have HRp34 := Lib.hid (ho.reads)
          have HBs34_34 : Hid (Below w34.heap.size w34 w34) := Lib.hid (Below.refl _ _)
          clear ho
          clear cb400 fb400 ltb40 cb410 fb410 ltb41
          have ltb40 := lt_of_block HKb4034.out
          obtain ⟨cb400, fb400⟩ := cell1 HKb4034.out
          have ltb41 := lt_of_block HKb4134.out
          obtain ⟨cb410, fb410⟩ := cell1 HKb4134.out
          have ltb42 := lt_of_block HKb4234.out
          obtain ⟨cb420, fb420⟩ := cell1 HKb4234.out
          go_wp2_with fail
          have hb : Below w34.heap.size w34 (w34.alloc (.cells #[.slice q43 qs4.length k43] 50)) := (Below.refl _ _).alloc (Nat.le_refl _) _
          have hk : (w34.alloc (.cells #[.slice q43 qs4.length k43] 50)).heap[w34.heap.size]? = some (.cells #[.slice q43 qs4.length k43] 50 (0, 0)) := alloc_at rfl
          have hz : (w34.alloc (.cells #[.slice q43 qs4.length k43] 50)).heap.size = w34.heap.size + 1 := by simp
          generalize w34.alloc (.cells #[.slice q43 qs4.length k43] 50) = w35 at hb hk hz ⊢
          have HB35 : Hid (Below w.heap.size w w35) := Lib.hid (HB34.out.trans (hb.mono HB34.out.size))
          have HZ35 : Hid (w34.heap.size ≤ w35.heap.size) := Lib.hid hb.size
          have HRk35 := Lib.hid (HRk0.out.below HB35.out (Nat.le_refl _))
          have HRs35 := Lib.hid (HRs34.out.below hb (Nat.le_refl _))
          have HRx35 := Lib.hid (HRx34.out.below hb (Nat.le_refl _))
          have HRy35 := Lib.hid (HRy34.out.below hb (Nat.le_refl _))
          have HKb4035 := Lib.hid ((hb.block _ (lt_of_block HKb4034.out)).trans HKb4034.out)
          have HKb4135 := Lib.hid ((hb.block _ (lt_of_block HKb4134.out)).trans HKb4134.out)
          have HRo35 := Lib.hid (HRo34.out.below hb (Nat.le_refl _))
          have HKb4235 := Lib.hid ((hb.block _ (lt_of_block HKb4234.out)).trans HKb4234.out)
          have HRp35 := Lib.hid (HRp34.out.below hb (Nat.le_refl _))
          have HBs29_35 : Hid (Below w29.heap.size w29 w35) := Lib.hid (HBs29_34.out.trans (hb.mono HBs29_34.out.size))
          have HBs32_35 : Hid (Below w32.heap.size w32 w35) := Lib.hid (HBs32_34.out.trans (hb.mono HBs32_34.out.size))
          have HBs34_35 : Hid (Below w34.heap.size w34 w35) := Lib.hid (HBs34_34.out.trans (hb.mono HBs34_34.out.size))
          have HKb4335 := Lib.hid hk
          replace HZ35 : Hid (w34.heap.size < w35.heap.size) := Lib.hid (by omega)
          have HE35 := Lib.hid hz
          clear hb hk hz
          refine (rAmount_yes _ _ qs4 _ HRo35.out HRp35.out).mono ?_
          rintro e w36 ⟨rfl, hb⟩
          have HB36 : Hid (Below w.heap.size w w36) := Lib.hid (HB35.out.trans (hb.mono HB35.out.size))
          have HZ36 : Hid (w35.heap.size ≤ w36.heap.size) := Lib.hid hb.size
          have HRk36 := Lib.hid (HRk0.out.below HB36.out (Nat.le_refl _))
          have HRs36 := Lib.hid (HRs35.out.below hb (Nat.le_refl _))
          have HRx36 := Lib.hid (HRx35.out.below hb (Nat.le_refl _))
          have HRy36 := Lib.hid (HRy35.out.below hb (Nat.le_refl _))
          have HKb4036 := Lib.hid ((hb.block _ (lt_of_block HKb4035.out)).trans HKb4035.out)
          have HKb4136 := Lib.hid ((hb.block _ (lt_of_block HKb4135.out)).trans HKb4135.out)
          have HRo36 := Lib.hid (HRo35.out.below hb (Nat.le_refl _))
          have HKb4236 := Lib.hid ((hb.block _ (lt_of_block HKb4235.out)).trans HKb4235.out)
          have HRp36 := Lib.hid (HRp35.out.below hb (Nat.le_refl _))
          have HKb4336 := Lib.hid ((hb.block _ (lt_of_block HKb4335.out)).trans HKb4335.out)
          have HBs29_36 : Hid (Below w29.heap.size w29 w36) := Lib.hid (HBs29_35.out.trans (hb.mono HBs29_35.out.size))
          have HBs32_36 : Hid (Below w32.heap.size w32 w36) := Lib.hid (HBs32_35.out.trans (hb.mono HBs32_35.out.size))
          have HBs34_36 : Hid (Below w34.heap.size w34 w36) := Lib.hid (HBs34_35.out.trans (hb.mono HBs34_35.out.size))
          clear hb
          clear cb400 fb400 ltb40 cb410 fb410 ltb41 cb420 fb420 ltb42
          have ltb40 := lt_of_block HKb4036.out
          obtain ⟨cb400, fb400⟩ := cell1 HKb4036.out
          have ltb41 := lt_of_block HKb4136.out
          obtain ⟨cb410, fb410⟩ := cell1 HKb4136.out
          have ltb42 := lt_of_block HKb4236.out
          obtain ⟨cb420, fb420⟩ := cell1 HKb4236.out
          have ltb43 := lt_of_block HKb4336.out
          obtain ⟨cb430, fb430⟩ := cell1 HKb4336.out
          go_wp2_with fail
          refine (iSys_any _ us4 _ HRs36.out HSZ4.out s4 HI4.out).mono ?_
          rintro e w37 ⟨rfl, hb⟩
          have HB37 : Hid (Below w.heap.size w w37) := Lib.hid (HB36.out.trans (hb.mono HB36.out.size))
          have HZ37 : Hid (w36.heap.size ≤ w37.heap.size) := Lib.hid hb.size
          have HRk37 := Lib.hid (HRk0.out.below HB37.out (Nat.le_refl _))
          have HRs37 := Lib.hid (HRs36.out.below hb (Nat.le_refl _))
          have HRx37 := Lib.hid (HRx36.out.below hb (Nat.le_refl _))
          have HRy37 := Lib.hid (HRy36.out.below hb (Nat.le_refl _))
          have HKb4037 := Lib.hid ((hb.block _ (lt_of_block HKb4036.out)).trans HKb4036.out)
          have HKb4137 := Lib.hid ((hb.block _ (lt_of_block HKb4136.out)).trans HKb4136.out)
          have HRo37 := Lib.hid (HRo36.out.below hb (Nat.le_refl _))
          have HKb4237 := Lib.hid ((hb.block _ (lt_of_block HKb4236.out)).trans HKb4236.out)
          have HRp37 := Lib.hid (HRp36.out.below hb (Nat.le_refl _))
          have HKb4337 := Lib.hid ((hb.block _ (lt_of_block HKb4336.out)).trans HKb4336.out)
          have HBs29_37 : Hid (Below w29.heap.size w29 w37) := Lib.hid (HBs29_36.out.trans (hb.mono HBs29_36.out.size))
          have HBs32_37 : Hid (Below w32.heap.size w32 w37) := Lib.hid (HBs32_36.out.trans (hb.mono HBs32_36.out.size))
          have HBs34_37 : Hid (Below w34.heap.size w34 w37) := Lib.hid (HBs34_36.out.trans (hb.mono HBs34_36.out.size))
          clear hb
          clear cb400 fb400 ltb40 cb410 fb410 ltb41 cb420 fb420 ltb42 cb430 fb430 ltb43
          have ltb40 := lt_of_block HKb4037.out
          obtain ⟨cb400, fb400⟩ := cell1 HKb4037.out
          have ltb41 := lt_of_block HKb4137.out
          obtain ⟨cb410, fb410⟩ := cell1 HKb4137.out
          have ltb42 := lt_of_block HKb4237.out
          obtain ⟨cb420, fb420⟩ := cell1 HKb4237.out
          have ltb43 := lt_of_block HKb4337.out
          obtain ⟨cb430, fb430⟩ := cell1 HKb4337.out
          go_wp2_with fail
          refine (sSys_any _ us4 _ HRs37.out HSZ4.out s4 HI4.out).mono ?_
          rintro e w38 ⟨rfl, hb⟩
          have HB38 : Hid (Below w.heap.size w w38) := Lib.hid (HB37.out.trans (hb.mono HB37.out.size))
          have HZ38 : Hid (w37.heap.size ≤ w38.heap.size) := Lib.hid hb.size
          have HRk38 := Lib.hid (HRk0.out.below HB38.out (Nat.le_refl _))
          have HRs38 := Lib.hid (HRs37.out.below hb (Nat.le_refl _))
          have HRx38 := Lib.hid (HRx37.out.below hb (Nat.le_refl _))
          have HRy38 := Lib.hid (HRy37.out.below hb (Nat.le_refl _))
          have HKb4038 := Lib.hid ((hb.block _ (lt_of_block HKb4037.out)).trans HKb4037.out)
          have HKb4138 := Lib.hid ((hb.block _ (lt_of_block HKb4137.out)).trans HKb4137.out)
          have HRo38 := Lib.hid (HRo37.out.below hb (Nat.le_refl _))
          have HKb4238 := Lib.hid ((hb.block _ (lt_of_block HKb4237.out)).trans HKb4237.out)
          have HRp38 := Lib.hid (HRp37.out.below hb (Nat.le_refl _))
          have HKb4338 := Lib.hid ((hb.block _ (lt_of_block HKb4337.out)).trans HKb4337.out)
          have HBs29_38 : Hid (Below w29.heap.size w29 w38) := Lib.hid (HBs29_37.out.trans (hb.mono HBs29_37.out.size))
          have HBs32_38 : Hid (Below w32.heap.size w32 w38) := Lib.hid (HBs32_37.out.trans (hb.mono HBs32_37.out.size))
          have HBs34_38 : Hid (Below w34.heap.size w34 w38) := Lib.hid (HBs34_37.out.trans (hb.mono HBs34_37.out.size))
          clear hb
          clear cb400 fb400 ltb40 cb410 fb410 ltb41 cb420 fb420 ltb42 cb430 fb430 ltb43
          have ltb40 := lt_of_block HKb4038.out
          obtain ⟨cb400, fb400⟩ := cell1 HKb4038.out
          have ltb41 := lt_of_block HKb4138.out
          obtain ⟨cb410, fb410⟩ := cell1 HKb4138.out
          have ltb42 := lt_of_block HKb4238.out
          obtain ⟨cb420, fb420⟩ := cell1 HKb4238.out
          have ltb43 := lt_of_block HKb4338.out
          obtain ⟨cb430, fb430⟩ := cell1 HKb4338.out
          go_wp2_with fail
          go_ret
          exact ⟨rfl, HB38.out⟩
        | false =>
          clear cb300 fb300 ltb30 cb310 fb310 ltb31 cb320 fb320 ltb32 cb330 fb330 ltb33 cb340 fb340 ltb34
          have ltb30 := lt_of_block HKb3025.out
          obtain ⟨cb300, fb300⟩ := cell1 HKb3025.out
          have ltb31 := lt_of_block HKb3125.out
          obtain ⟨cb310, fb310⟩ := cell1 HKb3125.out
          have ltb32 := lt_of_block HKb3225.out
          obtain ⟨cb320, fb320⟩ := cell1 HKb3225.out
          go_wp2_with fail
          refine (drawDifferenceOf_any _ L _ HRk25.out).mono ?_
          rintro e w26 ⟨⟨v, x, y, us4, xs4, ys4, rfl, hv, hx, hy, ⟨hl, hnm⟩, hxl, hyl⟩, hb⟩
          have HB26 : Hid (Below w.heap.size w w26) := Lib.hid (HB25.out.trans (hb.mono HB25.out.size))
          have HZ26 : Hid (w25.heap.size ≤ w26.heap.size) := Lib.hid hb.size
          have HRk26 := Lib.hid (HRk0.out.below HB26.out (Nat.le_refl _))
          clear hb
          obtain ⟨qs4, ks4, rfl⟩ := own_form hv
          have HRs26 := Lib.hid ((RowsR.of_own unC_len hv))
          have HBs26_26 : Hid (Below w26.heap.size w26 w26) := Lib.hid (Below.refl _ _)
          clear hv
          have HSZ4 := Lib.hid (nm_small hnm)
          clear hl hnm
          obtain ⟨q40, k40, rfl⟩ := own_form hx
          have HRx26 := Lib.hid ((RowsR.of_own inC_len hx))
          clear hx
          obtain ⟨q41, k41, rfl⟩ := own_form hy
          have HRy26 := Lib.hid ((RowsR.of_own inC_len hy))
          clear hy
          clear hxl hyl
          obtain ⟨qs4, r4, hk⟩ := testF_or (okAm us4 xs4 ∧ okAm us4 ys4) us4 (valA us4 xs4 - valA us4 ys4)
          have HK4 := Lib.hid hk
          obtain ⟨s4, hs⟩ := okS_dec us4
          have HI4 := Lib.hid hs
          clear hk hs
          have e4 : (r4 == r4) = true := by simp
          have e5 : (s4 == s4) = true := by simp
          clear cb300 fb300 ltb30 cb310 fb310 ltb31 cb320 fb320 ltb32
          go_wp2_with fail
          have hb : Below w26.heap.size w26 (w26.alloc (.cells #[.slice q40 xs4.length k40] 50)) := (Below.refl _ _).alloc (Nat.le_refl _) _
          have hk : (w26.alloc (.cells #[.slice q40 xs4.length k40] 50)).heap[w26.heap.size]? = some (.cells #[.slice q40 xs4.length k40] 50 (0, 0)) := alloc_at rfl
          have hz : (w26.alloc (.cells #[.slice q40 xs4.length k40] 50)).heap.size = w26.heap.size + 1 := by simp
          generalize w26.alloc (.cells #[.slice q40 xs4.length k40] 50) = w27 at hb hk hz ⊢
          have HB27 : Hid (Below w.heap.size w w27) := Lib.hid (HB26.out.trans (hb.mono HB26.out.size))
          have HZ27 : Hid (w26.heap.size ≤ w27.heap.size) := Lib.hid hb.size
          have HRk27 := Lib.hid (HRk0.out.below HB27.out (Nat.le_refl _))
          have HRs27 := Lib.hid (HRs26.out.below hb (Nat.le_refl _))
          have HRx27 := Lib.hid (HRx26.out.below hb (Nat.le_refl _))
          have HRy27 := Lib.hid (HRy26.out.below hb (Nat.le_refl _))
          have HBs26_27 : Hid (Below w26.heap.size w26 w27) := Lib.hid (HBs26_26.out.trans (hb.mono HBs26_26.out.size))
          have HKb4027 := Lib.hid hk
          replace HZ27 : Hid (w26.heap.size < w27.heap.size) := Lib.hid (by omega)
          have HE27 := Lib.hid hz
          clear hb hk hz
          have hb : Below w27.heap.size w27 (w27.alloc (.cells #[.slice q41 ys4.length k41] 50)) := (Below.refl _ _).alloc (Nat.le_refl _) _
          have hk : (w27.alloc (.cells #[.slice q41 ys4.length k41] 50)).heap[w26.heap.size + 1]? = some (.cells #[.slice q41 ys4.length k41] 50 (0, 0)) := alloc_at (by have := HE3.out; have := HE5.out; have := HE9.out; have := HE10.out; have := HE12.out; have := HE14.out; have := HE17.out; have := HE19.out; have := HE20.out; have := HE22.out; have := HE23.out; have := HE27.out; omega)
          have hz : (w27.alloc (.cells #[.slice q41 ys4.length k41] 50)).heap.size = w27.heap.size + 1 := by simp
          generalize w27.alloc (.cells #[.slice q41 ys4.length k41] 50) = w28 at hb hk hz ⊢
          have HB28 : Hid (Below w.heap.size w w28) := Lib.hid (HB27.out.trans (hb.mono HB27.out.size))
          have HZ28 : Hid (w27.heap.size ≤ w28.heap.size) := Lib.hid hb.size
          have HRk28 := Lib.hid (HRk0.out.below HB28.out (Nat.le_refl _))
          have HRs28 := Lib.hid (HRs27.out.below hb (Nat.le_refl _))
          have HRx28 := Lib.hid (HRx27.out.below hb (Nat.le_refl _))
          have HRy28 := Lib.hid (HRy27.out.below hb (Nat.le_refl _))
          have HKb4028 := Lib.hid ((hb.block _ (lt_of_block HKb4027.out)).trans HKb4027.out)
          have HBs26_28 : Hid (Below w26.heap.size w26 w28) := Lib.hid (HBs26_27.out.trans (hb.mono HBs26_27.out.size))
          have HKb4128 := Lib.hid hk
          replace HZ28 : Hid (w27.heap.size < w28.heap.size) := Lib.hid (by omega)
          have HE28 := Lib.hid hz
          clear hb hk hz
          refine (iDifferenceOf_any _ _ _ us4 xs4 ys4 _ HRs28.out HSZ4.out HRx28.out HRy28.out qs4 r4 HK4.out).mono ?_
          rintro e w29 ⟨⟨t, rfl, ho⟩, hb⟩
          have HB29 : Hid (Below w.heap.size w w29) := Lib.hid (HB28.out.trans (hb.mono HB28.out.size))
          have HZ29 : Hid (w28.heap.size ≤ w29.heap.size) := Lib.hid hb.size
          have HRk29 := Lib.hid (HRk0.out.below HB29.out (Nat.le_refl _))
          have HRs29 := Lib.hid (HRs28.out.below hb (Nat.le_refl _))
          have HRx29 := Lib.hid (HRx28.out.below hb (Nat.le_refl _))
          have HRy29 := Lib.hid (HRy28.out.below hb (Nat.le_refl _))
          have HKb4029 := Lib.hid ((hb.block _ (lt_of_block HKb4028.out)).trans HKb4028.out)
          have HKb4129 := Lib.hid ((hb.block _ (lt_of_block HKb4128.out)).trans HKb4128.out)
          have HBs26_29 : Hid (Below w26.heap.size w26 w29) := Lib.hid (HBs26_28.out.trans (hb.mono HBs26_28.out.size))
          clear hb
          obtain ⟨q42, k42, rfl⟩ : ∃ a c, t = .slice a qs4.length c := ho.form
          have HRo29 := Lib.hid (ho.reads)
          have HBs29_29 : Hid (Below w29.heap.size w29 w29) := Lib.hid (Below.refl _ _)
          clear ho
          have ltb40 := lt_of_block HKb4029.out
          obtain ⟨cb400, fb400⟩ := cell1 HKb4029.out
          have ltb41 := lt_of_block HKb4129.out
          obtain ⟨cb410, fb410⟩ := cell1 HKb4129.out
          go_wp2_with fail
          have hb : Below w29.heap.size w29 (w29.alloc (.cells #[.slice q42 qs4.length k42] 50)) := (Below.refl _ _).alloc (Nat.le_refl _) _
          have hk : (w29.alloc (.cells #[.slice q42 qs4.length k42] 50)).heap[w29.heap.size]? = some (.cells #[.slice q42 qs4.length k42] 50 (0, 0)) := alloc_at rfl
          have hz : (w29.alloc (.cells #[.slice q42 qs4.length k42] 50)).heap.size = w29.heap.size + 1 := by simp
          generalize w29.alloc (.cells #[.slice q42 qs4.length k42] 50) = w30 at hb hk hz ⊢
          have HB30 : Hid (Below w.heap.size w w30) := Lib.hid (HB29.out.trans (hb.mono HB29.out.size))
          have HZ30 : Hid (w29.heap.size ≤ w30.heap.size) := Lib.hid hb.size
          have HRk30 := Lib.hid (HRk0.out.below HB30.out (Nat.le_refl _))
          have HRs30 := Lib.hid (HRs29.out.below hb (Nat.le_refl _))
          have HRx30 := Lib.hid (HRx29.out.below hb (Nat.le_refl _))
          have HRy30 := Lib.hid (HRy29.out.below hb (Nat.le_refl _))
          have HKb4030 := Lib.hid ((hb.block _ (lt_of_block HKb4029.out)).trans HKb4029.out)
          have HKb4130 := Lib.hid ((hb.block _ (lt_of_block HKb4129.out)).trans HKb4129.out)
          have HRo30 := Lib.hid (HRo29.out.below hb (Nat.le_refl _))
          have HBs26_30 : Hid (Below w26.heap.size w26 w30) := Lib.hid (HBs26_29.out.trans (hb.mono HBs26_29.out.size))
          have HBs29_30 : Hid (Below w29.heap.size w29 w30) := Lib.hid (HBs29_29.out.trans (hb.mono HBs29_29.out.size))
          have HKb4230 := Lib.hid hk
          replace HZ30 : Hid (w29.heap.size < w30.heap.size) := Lib.hid (by omega)
          have HE30 := Lib.hid hz
          clear hb hk hz
          refine (sDifferenceOf_any _ _ _ us4 xs4 ys4 _ HRs30.out HSZ4.out HRx30.out HRy30.out qs4 r4 HK4.out).mono ?_
          rintro e w31 ⟨⟨t, rfl, ho⟩, hb⟩
          have HB31 : Hid (Below w.heap.size w w31) := Lib.hid (HB30.out.trans (hb.mono HB30.out.size))
          have HZ31 : Hid (w30.heap.size ≤ w31.heap.size) := Lib.hid hb.size
          have HRk31 := Lib.hid (HRk0.out.below HB31.out (Nat.le_refl _))
          have HRs31 := Lib.hid (HRs30.out.below hb (Nat.le_refl _))
          have HRx31 := Lib.hid (HRx30.out.below hb (Nat.le_refl _))
          have HRy31 := Lib.hid (HRy30.out.below hb (Nat.le_refl _))
          have HKb4031 := Lib.hid ((hb.block _ (lt_of_block HKb4030.out)).trans HKb4030.out)
          have HKb4131 := Lib.hid ((hb.block _ (lt_of_block HKb4130.out)).trans HKb4130.out)
          have HRo31 := Lib.hid (HRo30.out.below hb (Nat.le_refl _))
          have HKb4231 := Lib.hid ((hb.block _ (lt_of_block HKb4230.out)).trans HKb4230.out)
          have HBs26_31 : Hid (Below w26.heap.size w26 w31) := Lib.hid (HBs26_30.out.trans (hb.mono HBs26_30.out.size))
          have HBs29_31 : Hid (Below w29.heap.size w29 w31) := Lib.hid (HBs29_30.out.trans (hb.mono HBs29_30.out.size))
          clear hb
          obtain ⟨q43, k43, rfl⟩ : ∃ a c, t = .slice a qs4.length c := ho.form
          have HRp31 := Lib.hid (ho.reads)
          have HBs31_31 : Hid (Below w31.heap.size w31 w31) := Lib.hid (Below.refl _ _)
          clear ho
          clear cb400 fb400 ltb40 cb410 fb410 ltb41
          have ltb40 := lt_of_block HKb4031.out
          obtain ⟨cb400, fb400⟩ := cell1 HKb4031.out
          have ltb41 := lt_of_block HKb4131.out
          obtain ⟨cb410, fb410⟩ := cell1 HKb4131.out
          have ltb42 := lt_of_block HKb4231.out
          obtain ⟨cb420, fb420⟩ := cell1 HKb4231.out
          go_wp2_with fail
          have hb : Below w31.heap.size w31 (w31.alloc (.cells #[.slice q43 qs4.length k43] 50)) := (Below.refl _ _).alloc (Nat.le_refl _) _
          have hk : (w31.alloc (.cells #[.slice q43 qs4.length k43] 50)).heap[w31.heap.size]? = some (.cells #[.slice q43 qs4.length k43] 50 (0, 0)) := alloc_at rfl
          have hz : (w31.alloc (.cells #[.slice q43 qs4.length k43] 50)).heap.size = w31.heap.size + 1 := by simp
          generalize w31.alloc (.cells #[.slice q43 qs4.length k43] 50) = w32 at hb hk hz ⊢
          have HB32 : Hid (Below w.heap.size w w32) := Lib.hid (HB31.out.trans (hb.mono HB31.out.size))
          have HZ32 : Hid (w31.heap.size ≤ w32.heap.size) := Lib.hid hb.size
          have HRk32 := Lib.hid (HRk0.out.below HB32.out (Nat.le_refl _))
          have HRs32 := Lib.hid (HRs31.out.below hb (Nat.le_refl _))
          have HRx32 := Lib.hid (HRx31.out.below hb (Nat.le_refl _))
          have HRy32 := Lib.hid (HRy31.out.below hb (Nat.le_refl _))
          have HKb4032 := Lib.hid ((hb.block _ (lt_of_block HKb4031.out)).trans HKb4031.out)
          have HKb4132 := Lib.hid ((hb.block _ (lt_of_block HKb4131.out)).trans HKb4131.out)
          have HRo32 := Lib.hid (HRo31.out.below hb (Nat.le_refl _))
          have HKb4232 := Lib.hid ((hb.block _ (lt_of_block HKb4231.out)).trans HKb4231.out)
          have HRp32 := Lib.hid (HRp31.out.below hb (Nat.le_refl _))
          have HBs26_32 : Hid (Below w26.heap.size w26 w32) := Lib.hid (HBs26_31.out.trans (hb.mono HBs26_31.out.size))
          have HBs29_32 : Hid (Below w29.heap.size w29 w32) := Lib.hid (HBs29_31.out.trans (hb.mono HBs29_31.out.size))
          have HBs31_32 : Hid (Below w31.heap.size w31 w32) := Lib.hid (HBs31_31.out.trans (hb.mono HBs31_31.out.size))
          have HKb4332 := Lib.hid hk
          replace HZ32 : Hid (w31.heap.size < w32.heap.size) := Lib.hid (by omega)
          have HE32 := Lib.hid hz
          clear hb hk hz
          refine (rAmount_yes _ _ qs4 _ HRo32.out HRp32.out).mono ?_
          rintro e w33 ⟨rfl, hb⟩
          have HB33 : Hid (Below w.heap.size w w33) := Lib.hid (HB32.out.trans (hb.mono HB32.out.size))
          have HZ33 : Hid (w32.heap.size ≤ w33.heap.size) := Lib.hid hb.size
          have HRk33 := Lib.hid (HRk0.out.below HB33.out (Nat.le_refl _))
          have HRs33 := Lib.hid (HRs32.out.below hb (Nat.le_refl _))
          have HRx33 := Lib.hid (HRx32.out.below hb (Nat.le_refl _))
          have HRy33 := Lib.hid (HRy32.out.below hb (Nat.le_refl _))
          have HKb4033 := Lib.hid ((hb.block _ (lt_of_block HKb4032.out)).trans HKb4032.out)
          have HKb4133 := Lib.hid ((hb.block _ (lt_of_block HKb4132.out)).trans HKb4132.out)
          have HRo33 := Lib.hid (HRo32.out.below hb (Nat.le_refl _))
          have HKb4233 := Lib.hid ((hb.block _ (lt_of_block HKb4232.out)).trans HKb4232.out)
          have HRp33 := Lib.hid (HRp32.out.below hb (Nat.le_refl _))
          have HKb4333 := Lib.hid ((hb.block _ (lt_of_block HKb4332.out)).trans HKb4332.out)
          have HBs26_33 : Hid (Below w26.heap.size w26 w33) := Lib.hid (HBs26_32.out.trans (hb.mono HBs26_32.out.size))
          have HBs29_33 : Hid (Below w29.heap.size w29 w33) := Lib.hid (HBs29_32.out.trans (hb.mono HBs29_32.out.size))
          have HBs31_33 : Hid (Below w31.heap.size w31 w33) := Lib.hid (HBs31_32.out.trans (hb.mono HBs31_32.out.size))
          clear hb
          clear cb400 fb400 ltb40 cb410 fb410 ltb41 cb420 fb420 ltb42
          have ltb40 := lt_of_block HKb4033.out
          obtain ⟨cb400, fb400⟩ := cell1 HKb4033.out
          have ltb41 := lt_of_block HKb4133.out
          obtain ⟨cb410, fb410⟩ := cell1 HKb4133.out
          have ltb42 := lt_of_block HKb4233.out
          obtain ⟨cb420, fb420⟩ := cell1 HKb4233.out
          have ltb43 := lt_of_block HKb4333.out
          obtain ⟨cb430, fb430⟩ := cell1 HKb4333.out
          go_wp2_with fail
          refine (iSys_any _ us4 _ HRs33.out HSZ4.out s4 HI4.out).mono ?_
          rintro e w34 ⟨rfl, hb⟩
          have HB34 : Hid (Below w.heap.size w w34) := Lib.hid (HB33.out.trans (hb.mono HB33.out.size))
          have HZ34 : Hid (w33.heap.size ≤ w34.heap.size) := Lib.hid hb.size
          have HRk34 := Lib.hid (HRk0.out.below HB34.out (Nat.le_refl _))
          have HRs34 := Lib.hid (HRs33.out.below hb (Nat.le_refl _))
          have HRx34 := Lib.hid (HRx33.out.below hb (Nat.le_refl _))
          have HRy34 := Lib.hid (HRy33.out.below hb (Nat.le_refl _))
          have HKb4034 := Lib.hid ((hb.block _ (lt_of_block HKb4033.out)).trans HKb4033.out)
          have HKb4134 := Lib.hid ((hb.block _ (lt_of_block HKb4133.out)).trans HKb4133.out)
          have HRo34 := Lib.hid (HRo33.out.below hb (Nat.le_refl _))
          have HKb4234 := Lib.hid ((hb.block _ (lt_of_block HKb4233.out)).trans HKb4233.out)
          have HRp34 := Lib.hid (HRp33.out.below hb (Nat.le_refl _))
          have HKb4334 := Lib.hid ((hb.block _ (lt_of_block HKb4333.out)).trans HKb4333.out)
          have HBs26_34 : Hid (Below w26.heap.size w26 w34) := Lib.hid (HBs26_33.out.trans (hb.mono HBs26_33.out.size))
          have HBs29_34 : Hid (Below w29.heap.size w29 w34) := Lib.hid (HBs29_33.out.trans (hb.mono HBs29_33.out.size))
          have HBs31_34 : Hid (Below w31.heap.size w31 w34) := Lib.hid (HBs31_33.out.trans (hb.mono HBs31_33.out.size))
          clear hb
          clear cb400 fb400 ltb40 cb410 fb410 ltb41 cb420 fb420 ltb42 cb430 fb430 ltb43
          have ltb40 := lt_of_block HKb4034.out
          obtain ⟨cb400, fb400⟩ := cell1 HKb4034.out
          have ltb41 := lt_of_block HKb4134.out
          obtain ⟨cb410, fb410⟩ := cell1 HKb4134.out
          have ltb42 := lt_of_block HKb4234.out
          obtain ⟨cb420, fb420⟩ := cell1 HKb4234.out
          have ltb43 := lt_of_block HKb4334.out
          obtain ⟨cb430, fb430⟩ := cell1 HKb4334.out
          go_wp2_with fail
          refine (sSys_any _ us4 _ HRs34.out HSZ4.out s4 HI4.out).mono ?_
          rintro e w35 ⟨rfl, hb⟩
          have HB35 : Hid (Below w.heap.size w w35) := Lib.hid (HB34.out.trans (hb.mono HB34.out.size))
          have HZ35 : Hid (w34.heap.size ≤ w35.heap.size) := Lib.hid hb.size
          have HRk35 := Lib.hid (HRk0.out.below HB35.out (Nat.le_refl _))
          have HRs35 := Lib.hid (HRs34.out.below hb (Nat.le_refl _))
          have HRx35 := Lib.hid (HRx34.out.below hb (Nat.le_refl _))
          have HRy35 := Lib.hid (HRy34.out.below hb (Nat.le_refl _))
          have HKb4035 := Lib.hid ((hb.block _ (lt_of_block HKb4034.out)).trans HKb4034.out)
          have HKb4135 := Lib.hid ((hb.block _ (lt_of_block HKb4134.out)).trans HKb4134.out)
          have HRo35 := Lib.hid (HRo34.out.below hb (Nat.le_refl _))
          have HKb4235 := Lib.hid ((hb.block _ (lt_of_block HKb4234.out)).trans HKb4234.out)
          have HRp35 := Lib.hid (HRp34.out.below hb (Nat.le_refl _))
          have HKb4335 := Lib.hid ((hb.block _ (lt_of_block HKb4334.out)).trans HKb4334.out)
          have HBs26_35 : Hid (Below w26.heap.size w26 w35) := Lib.hid (HBs26_34.out.trans (hb.mono HBs26_34.out.size))
          have HBs29_35 : Hid (Below w29.heap.size w29 w35) := Lib.hid (HBs29_34.out.trans (hb.mono HBs29_34.out.size))
          have HBs31_35 : Hid (Below w31.heap.size w31 w35) := Lib.hid (HBs31_34.out.trans (hb.mono HBs31_34.out.size))
          clear hb
          clear cb400 fb400 ltb40 cb410 fb410 ltb41 cb420 fb420 ltb42 cb430 fb430 ltb43
          have ltb40 := lt_of_block HKb4035.out
          obtain ⟨cb400, fb400⟩ := cell1 HKb4035.out
          have ltb41 := lt_of_block HKb4135.out
          obtain ⟨cb410, fb410⟩ := cell1 HKb4135.out
          have ltb42 := lt_of_block HKb4235.out
          obtain ⟨cb420, fb420⟩ := cell1 HKb4235.out
          have ltb43 := lt_of_block HKb4335.out
          obtain ⟨cb430, fb430⟩ := cell1 HKb4335.out
          go_wp2_with fail
          go_ret
          exact ⟨rfl, HB35.out⟩
end Go.Proofs.Ytpmccebifncpeaa
