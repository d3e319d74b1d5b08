/- The law FnNumbers. -/
import Derived.Test.YtjaiolbneodheaaFsame
import Derived.Test.YtjaiolbneodheaaDnum3
namespace Go.Proofs.Ytjaiolbneodheaa
set_option linter.unusedVariables false
open Go.RowKit
set_option linter.unusedSimpArgs false

set_option maxRecDepth 100000 in
set_option maxHeartbeats 12800000 in
theorem lawNumbers (w : World) (ad : Option Addr) (cp : Nat) (L : List UInt8) (h : SlR w (.slice ad L.length cp) (L.map fun c => .int .u8 (c.toNat : Int))) :
    Calls Try.prog 3 #[.slice ad L.length cp] w fun e w' => e = .returned (.bool true) ∧ Below w.heap.size w w' := by
  have hm : L.length ≤ 9223372036854775807 := by
    obtain ⟨a, c, e, ⟨m, _⟩, _⟩ := h
    rw [List.length_map] at m
    exact m
  have HB0 : Hid (Below w.heap.size w w) := Lib.hid (Below.refl _ _)
  have HRk0 := Lib.hid (h)
  clear h
  by_cases hbig : (65536 : Int) < (L.length : Int)
  · go_enter Try.func3, Try.ntmps3
    go_wp2_with fail
    refine (vBig_any ad L.length cp _ true (decide_eq_true hbig)).mono ?_
    rintro e w' ⟨rfl, hw⟩
    subst w'
    go_wp2_with fail
    go_ret
    exact ⟨rfl, Below.refl _ _⟩
  · go_enter Try.func3, Try.ntmps3
    go_wp2_with fail
    refine (vBig_any ad L.length cp _ false (decide_eq_false (by omega))).mono ?_
    rintro e w' ⟨rfl, hw⟩
    subst w'
    go_wp2_with fail
    refine (drawFrameFor_any _ L _ HRk0.out).mono ?_
    rintro e w1 ⟨⟨u, l, r, n, rfl, hn⟩, hb⟩
    have HB1 : Hid (Below w.heap.size w w1) := Lib.hid (HB0.out.trans (hb.mono HB0.out.size))
    have HZ1 : Hid (w.heap.size ≤ w1.heap.size) := Lib.hid hb.size
    have HRk1 := Lib.hid (HRk0.out.below HB1.out (Nat.le_refl _))
    clear hb
    obtain ⟨fu, fl, fs, b1, hS, hI, hy1⟩ := for_same u l r n hn
    obtain ⟨n1, b11, -, hI1, hv1, -⟩ := number_same fu fl fs
    have HS1 := Lib.hid hS
    have HI1 := Lib.hid hI
    have HI11 := Lib.hid hI1
    clear hS hI hI1 hn
    have hb1 : (b1 != b1) = false := by simp
    go_wp2_with fail
    refine (HI1.out _).mono ?_
    rintro e w2 ⟨⟨v, rfl, ho⟩, hb⟩
    have HB2 : Hid (Below w.heap.size w w2) := Lib.hid (HB1.out.trans (hb.mono HB1.out.size))
    have HZ2 : Hid (w1.heap.size ≤ w2.heap.size) := Lib.hid hb.size
    have HRk2 := Lib.hid (HRk0.out.below HB2.out (Nat.le_refl _))
    clear hb
    obtain ⟨qaa, qca, rfl⟩ : ∃ a c, v = .slice a fs.length c := by obtain ⟨a, c, e, _⟩ := ho; exact ⟨a, c, e⟩
    have HRa2 := Lib.hid (ho)
    have HBs2_2 : Hid (Below w2.heap.size w2 w2) := Lib.hid (Below.refl _ _)
    clear ho
    go_wp2_with fail
    have hb : Below w2.heap.size w2 (w2.alloc (.cells #[.int .i64 fu, .int .i64 fl, .slice qaa fs.length qca] 28)) := (Below.refl _ _).alloc (Nat.le_refl _) _
    have hk : (w2.alloc (.cells #[.int .i64 fu, .int .i64 fl, .slice qaa fs.length qca] 28)).heap[w2.heap.size]? = some (.cells #[.int .i64 fu, .int .i64 fl, .slice qaa fs.length qca] 28 (0, 0)) := alloc_at rfl
    have hz : (w2.alloc (.cells #[.int .i64 fu, .int .i64 fl, .slice qaa fs.length qca] 28)).heap.size = w2.heap.size + 1 := by simp
    generalize w2.alloc (.cells #[.int .i64 fu, .int .i64 fl, .slice qaa fs.length qca] 28) = w3 at hb hk hz ⊢
    have HB3 : Hid (Below w.heap.size w w3) := Lib.hid (HB2.out.trans (hb.mono HB2.out.size))
    have HZ3 : Hid (w2.heap.size ≤ w3.heap.size) := Lib.hid hb.size
    have HRk3 := Lib.hid (HRk0.out.below HB3.out (Nat.le_refl _))
    have HRa3 := Lib.hid (HRa2.out.below hb (Nat.le_refl _))
    have HBs2_3 : Hid (Below w2.heap.size w2 w3) := Lib.hid (HBs2_2.out.trans (hb.mono HBs2_2.out.size))
    have HKa3 := Lib.hid hk
    replace HZ3 : Hid (w2.heap.size < w3.heap.size) := Lib.hid (by omega)
    have HE3 := Lib.hid hz
    clear hb hk hz
    refine (HS1.out _).mono ?_
    rintro e w4 ⟨⟨v, rfl, ho⟩, hb⟩
    have HB4 : Hid (Below w.heap.size w w4) := Lib.hid (HB3.out.trans (hb.mono HB3.out.size))
    have HZ4 : Hid (w3.heap.size ≤ w4.heap.size) := Lib.hid hb.size
    have HRk4 := Lib.hid (HRk0.out.below HB4.out (Nat.le_refl _))
    have HRa4 := Lib.hid (HRa3.out.below hb (Nat.le_refl _))
    have HKa4 := Lib.hid ((hb.block _ (lt_of_block HKa3.out)).trans HKa3.out)
    have HBs2_4 : Hid (Below w2.heap.size w2 w4) := Lib.hid (HBs2_3.out.trans (hb.mono HBs2_3.out.size))
    clear hb
    obtain ⟨qab, qcb, rfl⟩ : ∃ a c, v = .slice a fs.length c := by obtain ⟨a, c, e, _⟩ := ho; exact ⟨a, c, e⟩
    have HRb4 := Lib.hid (ho)
    have HBs4_4 : Hid (Below w4.heap.size w4 w4) := Lib.hid (Below.refl _ _)
    clear ho
    have lta := lt_of_block HKa4.out
    obtain ⟨ca0, ca1, ca2, fa0, fa1, fa2⟩ := cell3 HKa4.out
    go_wp2_with fail
    have hb : Below w4.heap.size w4 (w4.alloc (.cells #[.int .i64 fu, .int .i64 fl, .slice qab fs.length qcb] 28)) := (Below.refl _ _).alloc (Nat.le_refl _) _
    have hk : (w4.alloc (.cells #[.int .i64 fu, .int .i64 fl, .slice qab fs.length qcb] 28)).heap[w4.heap.size]? = some (.cells #[.int .i64 fu, .int .i64 fl, .slice qab fs.length qcb] 28 (0, 0)) := alloc_at rfl
    have hz : (w4.alloc (.cells #[.int .i64 fu, .int .i64 fl, .slice qab fs.length qcb] 28)).heap.size = w4.heap.size + 1 := by simp
    generalize w4.alloc (.cells #[.int .i64 fu, .int .i64 fl, .slice qab fs.length qcb] 28) = w5 at hb hk hz ⊢
    have HB5 : Hid (Below w.heap.size w w5) := Lib.hid (HB4.out.trans (hb.mono HB4.out.size))
    have HZ5 : Hid (w4.heap.size ≤ w5.heap.size) := Lib.hid hb.size
    have HRk5 := Lib.hid (HRk0.out.below HB5.out (Nat.le_refl _))
    have HRa5 := Lib.hid (HRa4.out.below hb (Nat.le_refl _))
    have HKa5 := Lib.hid ((hb.block _ (lt_of_block HKa4.out)).trans HKa4.out)
    have HRb5 := Lib.hid (HRb4.out.below hb (Nat.le_refl _))
    have HBs2_5 : Hid (Below w2.heap.size w2 w5) := Lib.hid (HBs2_4.out.trans (hb.mono HBs2_4.out.size))
    have HBs4_5 : Hid (Below w4.heap.size w4 w5) := Lib.hid (HBs4_4.out.trans (hb.mono HBs4_4.out.size))
    have HKb5 := Lib.hid hk
    replace HZ5 : Hid (w4.heap.size < w5.heap.size) := Lib.hid (by omega)
    have HE5 := Lib.hid hz
    clear hb hk hz
    refine (vFrame_yes fu fl _ _ fs _ HRa5.out HRb5.out).mono ?_
    rintro e w6 ⟨rfl, hb⟩
    have HB6 : Hid (Below w.heap.size w w6) := Lib.hid (HB5.out.trans (hb.mono HB5.out.size))
    have HZ6 : Hid (w5.heap.size ≤ w6.heap.size) := Lib.hid hb.size
    have HRk6 := Lib.hid (HRk0.out.below HB6.out (Nat.le_refl _))
    have HRa6 := Lib.hid (HRa5.out.below hb (Nat.le_refl _))
    have HKa6 := Lib.hid ((hb.block _ (lt_of_block HKa5.out)).trans HKa5.out)
    have HRb6 := Lib.hid (HRb5.out.below hb (Nat.le_refl _))
    have HKb6 := Lib.hid ((hb.block _ (lt_of_block HKb5.out)).trans HKb5.out)
    have HBs2_6 : Hid (Below w2.heap.size w2 w6) := Lib.hid (HBs2_5.out.trans (hb.mono HBs2_5.out.size))
    have HBs4_6 : Hid (Below w4.heap.size w4 w6) := Lib.hid (HBs4_5.out.trans (hb.mono HBs4_5.out.size))
    clear hb
    cases b1 with
    | true =>
      obtain ⟨hg1, hn1⟩ := hy1 rfl
      obtain ⟨rfl, rfl⟩ := hv1 hg1
      obtain rfl := hn1
      clear hg1 hy1 hv1
      generalize numF fs = nn at HI1 HI11 HS1 ⊢
      have hnn : (nn != nn) = false := by simp
      clear ca0 ca1 ca2 fa0 fa1 fa2 lta
      have lta := lt_of_block HKa6.out
      obtain ⟨ca0, ca1, ca2, fa0, fa1, fa2⟩ := cell3 HKa6.out
      go_wp2_with fail
      refine (HI11.out _ _ HRa6.out).mono ?_
      rintro e w7 ⟨rfl, hb⟩
      have HB7 : Hid (Below w.heap.size w w7) := Lib.hid (HB6.out.trans (hb.mono HB6.out.size))
      have HZ7 : Hid (w6.heap.size ≤ w7.heap.size) := Lib.hid hb.size
      have HRk7 := Lib.hid (HRk0.out.below HB7.out (Nat.le_refl _))
      have HRa7 := Lib.hid (HRa6.out.below hb (Nat.le_refl _))
      have HKa7 := Lib.hid ((hb.block _ (lt_of_block HKa6.out)).trans HKa6.out)
      have HBs2_7 : Hid (Below w2.heap.size w2 w7) := Lib.hid (HBs2_6.out.trans (hb.mono HBs2_6.out.size))
      clear hb
      clear ca0 ca1 ca2 fa0 fa1 fa2 lta
      have lta := lt_of_block HKa7.out
      obtain ⟨ca0, ca1, ca2, fa0, fa1, fa2⟩ := cell3 HKa7.out
      go_wp2_with fail
      refine (drawSetRod_any _ L _ HRk7.out).mono ?_
      rintro e w8 ⟨⟨xu, xl, xv, xs, q, d, rfl, ho, -⟩, hb⟩
      have HB8 : Hid (Below w.heap.size w w8) := Lib.hid (HB7.out.trans (hb.mono HB7.out.size))
      have HZ8 : Hid (w7.heap.size ≤ w8.heap.size) := Lib.hid hb.size
      have HRk8 := Lib.hid (HRk0.out.below HB8.out (Nat.le_refl _))
      clear hb
      obtain ⟨qax, qcx, rfl⟩ : ∃ a c, xv = .slice a xs.length c := by obtain ⟨a, c, e, _⟩ := ho; exact ⟨a, c, e⟩
      have HRx8 := Lib.hid (ho)
      have HBs8_8 : Hid (Below w8.heap.size w8 w8) := Lib.hid (Below.refl _ _)
      clear ho
      obtain ⟨su, sl, ss, b2, hS, hI, hy2⟩ := set_same xu xl xs q d
      obtain ⟨n2, b22, -, hI2, hv2⟩ := value_same su sl ss q
      have HS2 := Lib.hid hS
      have HI2 := Lib.hid hI
      have HI22 := Lib.hid hI2
      clear hS hI hI2
      have hb2 : (b2 != b2) = false := by simp
      clear ca0 ca1 ca2 fa0 fa1 fa2 lta
      go_wp2_with fail
      have hb : Below w8.heap.size w8 (w8.alloc (.cells #[.int .i64 xu, .int .i64 xl, .slice qax xs.length qcx] 28)) := (Below.refl _ _).alloc (Nat.le_refl _) _
      have hk : (w8.alloc (.cells #[.int .i64 xu, .int .i64 xl, .slice qax xs.length qcx] 28)).heap[w8.heap.size]? = some (.cells #[.int .i64 xu, .int .i64 xl, .slice qax xs.length qcx] 28 (0, 0)) := alloc_at rfl
      have hz : (w8.alloc (.cells #[.int .i64 xu, .int .i64 xl, .slice qax xs.length qcx] 28)).heap.size = w8.heap.size + 1 := by simp
      generalize w8.alloc (.cells #[.int .i64 xu, .int .i64 xl, .slice qax xs.length qcx] 28) = w9 at hb hk hz ⊢
      have HB9 : Hid (Below w.heap.size w w9) := Lib.hid (HB8.out.trans (hb.mono HB8.out.size))
      have HZ9 : Hid (w8.heap.size ≤ w9.heap.size) := Lib.hid hb.size
      have HRk9 := Lib.hid (HRk0.out.below HB9.out (Nat.le_refl _))
      have HRx9 := Lib.hid (HRx8.out.below hb (Nat.le_refl _))
      have HBs8_9 : Hid (Below w8.heap.size w8 w9) := Lib.hid (HBs8_8.out.trans (hb.mono HBs8_8.out.size))
      have HKx9 := Lib.hid hk
      replace HZ9 : Hid (w8.heap.size < w9.heap.size) := Lib.hid (by omega)
      have HE9 := Lib.hid hz
      clear hb hk hz
      refine (HI2.out _ _ HRx9.out).mono ?_
      rintro e w10 ⟨⟨v, rfl, ho⟩, hb⟩
      have HB10 : Hid (Below w.heap.size w w10) := Lib.hid (HB9.out.trans (hb.mono HB9.out.size))
      have HZ10 : Hid (w9.heap.size ≤ w10.heap.size) := Lib.hid hb.size
      have HRk10 := Lib.hid (HRk0.out.below HB10.out (Nat.le_refl _))
      have HRx10 := Lib.hid (HRx9.out.below hb (Nat.le_refl _))
      have HKx10 := Lib.hid ((hb.block _ (lt_of_block HKx9.out)).trans HKx9.out)
      have HBs8_10 : Hid (Below w8.heap.size w8 w10) := Lib.hid (HBs8_9.out.trans (hb.mono HBs8_9.out.size))
      clear hb
      obtain ⟨qas, qcs, rfl⟩ : ∃ a c, v = .slice a ss.length c := by obtain ⟨a, c, e, _⟩ := ho; exact ⟨a, c, e⟩
      have HRs10 := Lib.hid (ho)
      have HBs10_10 : Hid (Below w10.heap.size w10 w10) := Lib.hid (Below.refl _ _)
      clear ho
      have ltx := lt_of_block HKx10.out
      obtain ⟨cx0, cx1, cx2, fx0, fx1, fx2⟩ := cell3 HKx10.out
      go_wp2_with fail
      have hb : Below w10.heap.size w10 (w10.alloc (.cells #[.int .i64 su, .int .i64 sl, .slice qas ss.length qcs] 28)) := (Below.refl _ _).alloc (Nat.le_refl _) _
      have hk : (w10.alloc (.cells #[.int .i64 su, .int .i64 sl, .slice qas ss.length qcs] 28)).heap[w10.heap.size]? = some (.cells #[.int .i64 su, .int .i64 sl, .slice qas ss.length qcs] 28 (0, 0)) := alloc_at rfl
      have hz : (w10.alloc (.cells #[.int .i64 su, .int .i64 sl, .slice qas ss.length qcs] 28)).heap.size = w10.heap.size + 1 := by simp
      generalize w10.alloc (.cells #[.int .i64 su, .int .i64 sl, .slice qas ss.length qcs] 28) = w11 at hb hk hz ⊢
      have HB11 : Hid (Below w.heap.size w w11) := Lib.hid (HB10.out.trans (hb.mono HB10.out.size))
      have HZ11 : Hid (w10.heap.size ≤ w11.heap.size) := Lib.hid hb.size
      have HRk11 := Lib.hid (HRk0.out.below HB11.out (Nat.le_refl _))
      have HRx11 := Lib.hid (HRx10.out.below hb (Nat.le_refl _))
      have HKx11 := Lib.hid ((hb.block _ (lt_of_block HKx10.out)).trans HKx10.out)
      have HRs11 := Lib.hid (HRs10.out.below hb (Nat.le_refl _))
      have HBs8_11 : Hid (Below w8.heap.size w8 w11) := Lib.hid (HBs8_10.out.trans (hb.mono HBs8_10.out.size))
      have HBs10_11 : Hid (Below w10.heap.size w10 w11) := Lib.hid (HBs10_10.out.trans (hb.mono HBs10_10.out.size))
      have HKs11 := Lib.hid hk
      replace HZ11 : Hid (w10.heap.size < w11.heap.size) := Lib.hid (by omega)
      have HE11 := Lib.hid hz
      clear hb hk hz
      refine (HS2.out _ _ HRx11.out).mono ?_
      rintro e w12 ⟨⟨v, rfl, ho⟩, hb⟩
      have HB12 : Hid (Below w.heap.size w w12) := Lib.hid (HB11.out.trans (hb.mono HB11.out.size))
      have HZ12 : Hid (w11.heap.size ≤ w12.heap.size) := Lib.hid hb.size
      have HRk12 := Lib.hid (HRk0.out.below HB12.out (Nat.le_refl _))
      have HRx12 := Lib.hid (HRx11.out.below hb (Nat.le_refl _))
      have HKx12 := Lib.hid ((hb.block _ (lt_of_block HKx11.out)).trans HKx11.out)
      have HRs12 := Lib.hid (HRs11.out.below hb (Nat.le_refl _))
      have HKs12 := Lib.hid ((hb.block _ (lt_of_block HKs11.out)).trans HKs11.out)
      have HBs8_12 : Hid (Below w8.heap.size w8 w12) := Lib.hid (HBs8_11.out.trans (hb.mono HBs8_11.out.size))
      have HBs10_12 : Hid (Below w10.heap.size w10 w12) := Lib.hid (HBs10_11.out.trans (hb.mono HBs10_11.out.size))
      clear hb
      obtain ⟨qat, qct, rfl⟩ : ∃ a c, v = .slice a ss.length c := by obtain ⟨a, c, e, _⟩ := ho; exact ⟨a, c, e⟩
      have HRt12 := Lib.hid (ho)
      have HBs12_12 : Hid (Below w12.heap.size w12 w12) := Lib.hid (Below.refl _ _)
      clear ho
      clear cx0 cx1 cx2 fx0 fx1 fx2 ltx
      have ltx := lt_of_block HKx12.out
      obtain ⟨cx0, cx1, cx2, fx0, fx1, fx2⟩ := cell3 HKx12.out
      have lts := lt_of_block HKs12.out
      obtain ⟨cs0, cs1, cs2, fs0, fs1, fs2⟩ := cell3 HKs12.out
      go_wp2_with fail
      have hb : Below w12.heap.size w12 (w12.alloc (.cells #[.int .i64 su, .int .i64 sl, .slice qat ss.length qct] 28)) := (Below.refl _ _).alloc (Nat.le_refl _) _
      have hk : (w12.alloc (.cells #[.int .i64 su, .int .i64 sl, .slice qat ss.length qct] 28)).heap[w12.heap.size]? = some (.cells #[.int .i64 su, .int .i64 sl, .slice qat ss.length qct] 28 (0, 0)) := alloc_at rfl
      have hz : (w12.alloc (.cells #[.int .i64 su, .int .i64 sl, .slice qat ss.length qct] 28)).heap.size = w12.heap.size + 1 := by simp
      generalize w12.alloc (.cells #[.int .i64 su, .int .i64 sl, .slice qat ss.length qct] 28) = w13 at hb hk hz ⊢
      have HB13 : Hid (Below w.heap.size w w13) := Lib.hid (HB12.out.trans (hb.mono HB12.out.size))
      have HZ13 : Hid (w12.heap.size ≤ w13.heap.size) := Lib.hid hb.size
      have HRk13 := Lib.hid (HRk0.out.below HB13.out (Nat.le_refl _))
      have HRx13 := Lib.hid (HRx12.out.below hb (Nat.le_refl _))
      have HKx13 := Lib.hid ((hb.block _ (lt_of_block HKx12.out)).trans HKx12.out)
      have HRs13 := Lib.hid (HRs12.out.below hb (Nat.le_refl _))
      have HKs13 := Lib.hid ((hb.block _ (lt_of_block HKs12.out)).trans HKs12.out)
      have HRt13 := Lib.hid (HRt12.out.below hb (Nat.le_refl _))
      have HBs8_13 : Hid (Below w8.heap.size w8 w13) := Lib.hid (HBs8_12.out.trans (hb.mono HBs8_12.out.size))
      have HBs10_13 : Hid (Below w10.heap.size w10 w13) := Lib.hid (HBs10_12.out.trans (hb.mono HBs10_12.out.size))
      have HBs12_13 : Hid (Below w12.heap.size w12 w13) := Lib.hid (HBs12_12.out.trans (hb.mono HBs12_12.out.size))
      have HKt13 := Lib.hid hk
      replace HZ13 : Hid (w12.heap.size < w13.heap.size) := Lib.hid (by omega)
      have HE13 := Lib.hid hz
      clear hb hk hz
      refine (vFrame_yes su sl _ _ ss _ HRs13.out HRt13.out).mono ?_
      rintro e w14 ⟨rfl, hb⟩
      have HB14 : Hid (Below w.heap.size w w14) := Lib.hid (HB13.out.trans (hb.mono HB13.out.size))
      have HZ14 : Hid (w13.heap.size ≤ w14.heap.size) := Lib.hid hb.size
      have HRk14 := Lib.hid (HRk0.out.below HB14.out (Nat.le_refl _))
      have HRx14 := Lib.hid (HRx13.out.below hb (Nat.le_refl _))
      have HKx14 := Lib.hid ((hb.block _ (lt_of_block HKx13.out)).trans HKx13.out)
      have HRs14 := Lib.hid (HRs13.out.below hb (Nat.le_refl _))
      have HKs14 := Lib.hid ((hb.block _ (lt_of_block HKs13.out)).trans HKs13.out)
      have HRt14 := Lib.hid (HRt13.out.below hb (Nat.le_refl _))
      have HKt14 := Lib.hid ((hb.block _ (lt_of_block HKt13.out)).trans HKt13.out)
      have HBs8_14 : Hid (Below w8.heap.size w8 w14) := Lib.hid (HBs8_13.out.trans (hb.mono HBs8_13.out.size))
      have HBs10_14 : Hid (Below w10.heap.size w10 w14) := Lib.hid (HBs10_13.out.trans (hb.mono HBs10_13.out.size))
      have HBs12_14 : Hid (Below w12.heap.size w12 w14) := Lib.hid (HBs12_13.out.trans (hb.mono HBs12_13.out.size))
      clear hb
      cases b2 with
      | true =>
        obtain ⟨hg2, k, hk, rfl, hd2⟩ := hy2 rfl
        obtain ⟨rfl, rfl⟩ := hv2 hg2 k hk rfl
        obtain rfl := hd2
        clear hg2 hy2 hv2
        generalize valF ss[k] = dd at HI2 HI22 HS2 ⊢
        have hdd : (dd != dd) = false := by simp
        clear cx0 cx1 cx2 fx0 fx1 fx2 ltx cs0 cs1 cs2 fs0 fs1 fs2 lts
        have lts := lt_of_block HKs14.out
        obtain ⟨cs0, cs1, cs2, fs0, fs1, fs2⟩ := cell3 HKs14.out
        go_wp2_with fail
        refine (HI22.out _ _ HRs14.out).mono ?_
        rintro e w15 ⟨rfl, hb⟩
        have HB15 : Hid (Below w.heap.size w w15) := Lib.hid (HB14.out.trans (hb.mono HB14.out.size))
        have HZ15 : Hid (w14.heap.size ≤ w15.heap.size) := Lib.hid hb.size
        have HRk15 := Lib.hid (HRk0.out.below HB15.out (Nat.le_refl _))
        have HRs15 := Lib.hid (HRs14.out.below hb (Nat.le_refl _))
        have HKs15 := Lib.hid ((hb.block _ (lt_of_block HKs14.out)).trans HKs14.out)
        have HBs10_15 : Hid (Below w10.heap.size w10 w15) := Lib.hid (HBs10_14.out.trans (hb.mono HBs10_14.out.size))
        clear hb
        clear cs0 cs1 cs2 fs0 fs1 fs2 lts
        have lts := lt_of_block HKs15.out
        obtain ⟨cs0, cs1, cs2, fs0, fs1, fs2⟩ := cell3 HKs15.out
        go_wp2_with fail
        refine (drawRodValue_any _ L _ HRk15.out).mono ?_
        rintro e w16 ⟨⟨yu, yl, yv, ys, j, rfl, ho, -⟩, hb⟩
        have HB16 : Hid (Below w.heap.size w w16) := Lib.hid (HB15.out.trans (hb.mono HB15.out.size))
        have HZ16 : Hid (w15.heap.size ≤ w16.heap.size) := Lib.hid hb.size
        have HRk16 := Lib.hid (HRk0.out.below HB16.out (Nat.le_refl _))
        clear hb
        obtain ⟨qay, qcy, rfl⟩ : ∃ a c, yv = .slice a ys.length c := by obtain ⟨a, c, e, _⟩ := ho; exact ⟨a, c, e⟩
        have HRy16 := Lib.hid (ho)
        have HBs16_16 : Hid (Below w16.heap.size w16 w16) := Lib.hid (Below.refl _ _)
        clear ho
        obtain ⟨n3, b3, hS, hI, -⟩ := value_same yu yl ys j
        have HS3 := Lib.hid hS
        have HI3 := Lib.hid hI
        clear hS hI
        have hn33 : (n3 != n3) = false := by simp
        have hb33 : (b3 != b3) = false := by simp
        clear cs0 cs1 cs2 fs0 fs1 fs2 lts
        go_wp2_with fail
        have hb : Below w16.heap.size w16 (w16.alloc (.cells #[.int .i64 yu, .int .i64 yl, .slice qay ys.length qcy] 28)) := (Below.refl _ _).alloc (Nat.le_refl _) _
        have hk : (w16.alloc (.cells #[.int .i64 yu, .int .i64 yl, .slice qay ys.length qcy] 28)).heap[w16.heap.size]? = some (.cells #[.int .i64 yu, .int .i64 yl, .slice qay ys.length qcy] 28 (0, 0)) := alloc_at rfl
        have hz : (w16.alloc (.cells #[.int .i64 yu, .int .i64 yl, .slice qay ys.length qcy] 28)).heap.size = w16.heap.size + 1 := by simp
        generalize w16.alloc (.cells #[.int .i64 yu, .int .i64 yl, .slice qay ys.length qcy] 28) = w17 at hb hk hz ⊢
        have HB17 : Hid (Below w.heap.size w w17) := Lib.hid (HB16.out.trans (hb.mono HB16.out.size))
        have HZ17 : Hid (w16.heap.size ≤ w17.heap.size) := Lib.hid hb.size
        have HRk17 := Lib.hid (HRk0.out.below HB17.out (Nat.le_refl _))
        have HRy17 := Lib.hid (HRy16.out.below hb (Nat.le_refl _))
        have HBs16_17 : Hid (Below w16.heap.size w16 w17) := Lib.hid (HBs16_16.out.trans (hb.mono HBs16_16.out.size))
        have HKy17 := Lib.hid hk
        replace HZ17 : Hid (w16.heap.size < w17.heap.size) := Lib.hid (by omega)
        have HE17 := Lib.hid hz
        clear hb hk hz
        refine (HI3.out _ _ HRy17.out).mono ?_
        rintro e w18 ⟨rfl, hb⟩
        have HB18 : Hid (Below w.heap.size w w18) := Lib.hid (HB17.out.trans (hb.mono HB17.out.size))
        have HZ18 : Hid (w17.heap.size ≤ w18.heap.size) := Lib.hid hb.size
        have HRk18 := Lib.hid (HRk0.out.below HB18.out (Nat.le_refl _))
        have HRy18 := Lib.hid (HRy17.out.below hb (Nat.le_refl _))
        have HKy18 := Lib.hid ((hb.block _ (lt_of_block HKy17.out)).trans HKy17.out)
        have HBs16_18 : Hid (Below w16.heap.size w16 w18) := Lib.hid (HBs16_17.out.trans (hb.mono HBs16_17.out.size))
        clear hb
        have lty := lt_of_block HKy18.out
        obtain ⟨cy0, cy1, cy2, fy0, fy1, fy2⟩ := cell3 HKy18.out
        go_wp2_with fail
        refine (HS3.out _ _ HRy18.out).mono ?_
        rintro e w19 ⟨rfl, hb⟩
        have HB19 : Hid (Below w.heap.size w w19) := Lib.hid (HB18.out.trans (hb.mono HB18.out.size))
        have HZ19 : Hid (w18.heap.size ≤ w19.heap.size) := Lib.hid hb.size
        have HRk19 := Lib.hid (HRk0.out.below HB19.out (Nat.le_refl _))
        have HRy19 := Lib.hid (HRy18.out.below hb (Nat.le_refl _))
        have HKy19 := Lib.hid ((hb.block _ (lt_of_block HKy18.out)).trans HKy18.out)
        have HBs16_19 : Hid (Below w16.heap.size w16 w19) := Lib.hid (HBs16_18.out.trans (hb.mono HBs16_18.out.size))
        clear hb
        clear cy0 cy1 cy2 fy0 fy1 fy2 lty
        have lty := lt_of_block HKy19.out
        obtain ⟨cy0, cy1, cy2, fy0, fy1, fy2⟩ := cell3 HKy19.out
        go_wp2_with fail
        refine (drawNumberOn_any _ L _ HRk19.out).mono ?_
        rintro e w20 ⟨⟨zu, zl, zv, zs, rfl, ho, -⟩, hb⟩
        have HB20 : Hid (Below w.heap.size w w20) := Lib.hid (HB19.out.trans (hb.mono HB19.out.size))
        have HZ20 : Hid (w19.heap.size ≤ w20.heap.size) := Lib.hid hb.size
        have HRk20 := Lib.hid (HRk0.out.below HB20.out (Nat.le_refl _))
        clear hb
        obtain ⟨qaz, qcz, rfl⟩ : ∃ a c, zv = .slice a zs.length c := by obtain ⟨a, c, e, _⟩ := ho; exact ⟨a, c, e⟩
        have HRz20 := Lib.hid (ho)
        have HBs20_20 : Hid (Below w20.heap.size w20 w20) := Lib.hid (Below.refl _ _)
        clear ho
        obtain ⟨n4, b4, hS, hI, hy4, hn4⟩ := number_same zu zl zs
        obtain ⟨cu, cl, cs, b5, hS5, hI5, hy5, hn5⟩ := cleared_same zu zl zs
        obtain ⟨n6, b6, -, hI6, hy6, -⟩ := number_same cu cl cs
        have HS4 := Lib.hid hS
        have HI4 := Lib.hid hI
        have HS5 := Lib.hid hS5
        have HI5 := Lib.hid hI5
        have HI6 := Lib.hid hI6
        clear hS hI hS5 hI5 hI6
        have hn44 : (n4 != n4) = false := by simp
        by_cases hg : goodF zu zl zs
        · obtain ⟨-, rfl⟩ := hy4 hg
          obtain ⟨rfl, hg6, hz6⟩ := hy5 hg
          obtain ⟨rfl, rfl⟩ := hy6 hg6
          clear hy4 hn4 hy5 hn5 hy6 hg6 hg
          have HZ6 := Lib.hid hz6
          clear hz6
          generalize numF cs = n6 at HZ6 HI6
          obtain rfl : n6 = 0 := HZ6.out
          clear cy0 cy1 cy2 fy0 fy1 fy2 lty
          go_wp2_with fail
          have hb : Below w20.heap.size w20 (w20.alloc (.cells #[.int .i64 zu, .int .i64 zl, .slice qaz zs.length qcz] 28)) := (Below.refl _ _).alloc (Nat.le_refl _) _
          have hk : (w20.alloc (.cells #[.int .i64 zu, .int .i64 zl, .slice qaz zs.length qcz] 28)).heap[w20.heap.size]? = some (.cells #[.int .i64 zu, .int .i64 zl, .slice qaz zs.length qcz] 28 (0, 0)) := alloc_at rfl
          have hz : (w20.alloc (.cells #[.int .i64 zu, .int .i64 zl, .slice qaz zs.length qcz] 28)).heap.size = w20.heap.size + 1 := by simp
          generalize w20.alloc (.cells #[.int .i64 zu, .int .i64 zl, .slice qaz zs.length qcz] 28) = w21 at hb hk hz ⊢
          have HB21 : Hid (Below w.heap.size w w21) := Lib.hid (HB20.out.trans (hb.mono HB20.out.size))
          have HZ21 : Hid (w20.heap.size ≤ w21.heap.size) := Lib.hid hb.size
          have HRk21 := Lib.hid (HRk0.out.below HB21.out (Nat.le_refl _))
          have HRz21 := Lib.hid (HRz20.out.below hb (Nat.le_refl _))
          have HBs20_21 : Hid (Below w20.heap.size w20 w21) := Lib.hid (HBs20_20.out.trans (hb.mono HBs20_20.out.size))
          have HKz21 := Lib.hid hk
          replace HZ21 : Hid (w20.heap.size < w21.heap.size) := Lib.hid (by omega)
          have HE21 := Lib.hid hz
          clear hb hk hz
          refine (HI4.out _ _ HRz21.out).mono ?_
          rintro e w22 ⟨rfl, hb⟩
          have HB22 : Hid (Below w.heap.size w w22) := Lib.hid (HB21.out.trans (hb.mono HB21.out.size))
          have HZ22 : Hid (w21.heap.size ≤ w22.heap.size) := Lib.hid hb.size
          have HRk22 := Lib.hid (HRk0.out.below HB22.out (Nat.le_refl _))
          have HRz22 := Lib.hid (HRz21.out.below hb (Nat.le_refl _))
          have HKz22 := Lib.hid ((hb.block _ (lt_of_block HKz21.out)).trans HKz21.out)
          have HBs20_22 : Hid (Below w20.heap.size w20 w22) := Lib.hid (HBs20_21.out.trans (hb.mono HBs20_21.out.size))
          clear hb
          have ltz := lt_of_block HKz22.out
          obtain ⟨cz0, cz1, cz2, fz0, fz1, fz2⟩ := cell3 HKz22.out
          go_wp2_with fail
          refine (HS4.out _ _ HRz22.out).mono ?_
          rintro e w23 ⟨rfl, hb⟩
          have HB23 : Hid (Below w.heap.size w w23) := Lib.hid (HB22.out.trans (hb.mono HB22.out.size))
          have HZ23 : Hid (w22.heap.size ≤ w23.heap.size) := Lib.hid hb.size
          have HRk23 := Lib.hid (HRk0.out.below HB23.out (Nat.le_refl _))
          have HRz23 := Lib.hid (HRz22.out.below hb (Nat.le_refl _))
          have HKz23 := Lib.hid ((hb.block _ (lt_of_block HKz22.out)).trans HKz22.out)
          have HBs20_23 : Hid (Below w20.heap.size w20 w23) := Lib.hid (HBs20_22.out.trans (hb.mono HBs20_22.out.size))
          clear hb
          clear cz0 cz1 cz2 fz0 fz1 fz2 ltz
          have ltz := lt_of_block HKz23.out
          obtain ⟨cz0, cz1, cz2, fz0, fz1, fz2⟩ := cell3 HKz23.out
          go_wp2_with fail
          refine (HI5.out _ _ HRz23.out).mono ?_
          rintro e w24 ⟨⟨v, rfl, ho⟩, hb⟩
          have HB24 : Hid (Below w.heap.size w w24) := Lib.hid (HB23.out.trans (hb.mono HB23.out.size))
          have HZ24 : Hid (w23.heap.size ≤ w24.heap.size) := Lib.hid hb.size
          have HRk24 := Lib.hid (HRk0.out.below HB24.out (Nat.le_refl _))
          have HRz24 := Lib.hid (HRz23.out.below hb (Nat.le_refl _))
          have HKz24 := Lib.hid ((hb.block _ (lt_of_block HKz23.out)).trans HKz23.out)
          have HBs20_24 : Hid (Below w20.heap.size w20 w24) := Lib.hid (HBs20_23.out.trans (hb.mono HBs20_23.out.size))
          clear hb
          obtain ⟨qap, qcp, rfl⟩ : ∃ a c, v = .slice a cs.length c := by obtain ⟨a, c, e, _⟩ := ho; exact ⟨a, c, e⟩
          have HRp24 := Lib.hid (ho)
          have HBs24_24 : Hid (Below w24.heap.size w24 w24) := Lib.hid (Below.refl _ _)
          clear ho
          clear cz0 cz1 cz2 fz0 fz1 fz2 ltz
          have ltz := lt_of_block HKz24.out
          obtain ⟨cz0, cz1, cz2, fz0, fz1, fz2⟩ := cell3 HKz24.out
          go_wp2_with fail
          have hb : Below w24.heap.size w24 (w24.alloc (.cells #[.int .i64 cu, .int .i64 cl, .slice qap cs.length qcp] 28)) := (Below.refl _ _).alloc (Nat.le_refl _) _
          have hk : (w24.alloc (.cells #[.int .i64 cu, .int .i64 cl, .slice qap cs.length qcp] 28)).heap[w24.heap.size]? = some (.cells #[.int .i64 cu, .int .i64 cl, .slice qap cs.length qcp] 28 (0, 0)) := alloc_at rfl
          have hz : (w24.alloc (.cells #[.int .i64 cu, .int .i64 cl, .slice qap cs.length qcp] 28)).heap.size = w24.heap.size + 1 := by simp
          generalize w24.alloc (.cells #[.int .i64 cu, .int .i64 cl, .slice qap cs.length qcp] 28) = w25 at hb hk hz ⊢
          have HB25 : Hid (Below w.heap.size w w25) := Lib.hid (HB24.out.trans (hb.mono HB24.out.size))
          have HZ25 : Hid (w24.heap.size ≤ w25.heap.size) := Lib.hid hb.size
          have HRk25 := Lib.hid (HRk0.out.below HB25.out (Nat.le_refl _))
          have HRz25 := Lib.hid (HRz24.out.below hb (Nat.le_refl _))
          have HKz25 := Lib.hid ((hb.block _ (lt_of_block HKz24.out)).trans HKz24.out)
          have HRp25 := Lib.hid (HRp24.out.below hb (Nat.le_refl _))
          have HBs20_25 : Hid (Below w20.heap.size w20 w25) := Lib.hid (HBs20_24.out.trans (hb.mono HBs20_24.out.size))
          have HBs24_25 : Hid (Below w24.heap.size w24 w25) := Lib.hid (HBs24_24.out.trans (hb.mono HBs24_24.out.size))
          have HKp25 := Lib.hid hk
          replace HZ25 : Hid (w24.heap.size < w25.heap.size) := Lib.hid (by omega)
          have HE25 := Lib.hid hz
          clear hb hk hz
          refine (HS5.out _ _ HRz25.out).mono ?_
          rintro e w26 ⟨⟨v, rfl, ho⟩, hb⟩
          have HB26 : Hid (Below w.heap.size w w26) := Lib.hid (HB25.out.trans (hb.mono HB25.out.size))
          have HZ26 : Hid (w25.heap.size ≤ w26.heap.size) := Lib.hid hb.size
          have HRk26 := Lib.hid (HRk0.out.below HB26.out (Nat.le_refl _))
          have HRz26 := Lib.hid (HRz25.out.below hb (Nat.le_refl _))
          have HKz26 := Lib.hid ((hb.block _ (lt_of_block HKz25.out)).trans HKz25.out)
          have HRp26 := Lib.hid (HRp25.out.below hb (Nat.le_refl _))
          have HKp26 := Lib.hid ((hb.block _ (lt_of_block HKp25.out)).trans HKp25.out)
          have HBs20_26 : Hid (Below w20.heap.size w20 w26) := Lib.hid (HBs20_25.out.trans (hb.mono HBs20_25.out.size))
          have HBs24_26 : Hid (Below w24.heap.size w24 w26) := Lib.hid (HBs24_25.out.trans (hb.mono HBs24_25.out.size))
          clear hb
          obtain ⟨qae, qce, rfl⟩ : ∃ a c, v = .slice a cs.length c := by obtain ⟨a, c, e, _⟩ := ho; exact ⟨a, c, e⟩
          have HRe26 := Lib.hid (ho)
          have HBs26_26 : Hid (Below w26.heap.size w26 w26) := Lib.hid (Below.refl _ _)
          clear ho
          clear cz0 cz1 cz2 fz0 fz1 fz2 ltz
          have ltz := lt_of_block HKz26.out
          obtain ⟨cz0, cz1, cz2, fz0, fz1, fz2⟩ := cell3 HKz26.out
          have ltp := lt_of_block HKp26.out
          obtain ⟨cp0, cp1, cp2, fp0, fp1, fp2⟩ := cell3 HKp26.out
          go_wp2_with fail
          have hb : Below w26.heap.size w26 (w26.alloc (.cells #[.int .i64 cu, .int .i64 cl, .slice qae cs.length qce] 28)) := (Below.refl _ _).alloc (Nat.le_refl _) _
          have hk : (w26.alloc (.cells #[.int .i64 cu, .int .i64 cl, .slice qae cs.length qce] 28)).heap[w26.heap.size]? = some (.cells #[.int .i64 cu, .int .i64 cl, .slice qae cs.length qce] 28 (0, 0)) := alloc_at rfl
          have hz : (w26.alloc (.cells #[.int .i64 cu, .int .i64 cl, .slice qae cs.length qce] 28)).heap.size = w26.heap.size + 1 := by simp
          generalize w26.alloc (.cells #[.int .i64 cu, .int .i64 cl, .slice qae cs.length qce] 28) = w27 at hb hk hz ⊢
          have HB27 : Hid (Below w.heap.size w w27) := Lib.hid (HB26.out.trans (hb.mono HB26.out.size))
          have HZ27 : Hid (w26.heap.size ≤ w27.heap.size) := Lib.hid hb.size
          have HRk27 := Lib.hid (HRk0.out.below HB27.out (Nat.le_refl _))
          have HRz27 := Lib.hid (HRz26.out.below hb (Nat.le_refl _))
          have HKz27 := Lib.hid ((hb.block _ (lt_of_block HKz26.out)).trans HKz26.out)
          have HRp27 := Lib.hid (HRp26.out.below hb (Nat.le_refl _))
          have HKp27 := Lib.hid ((hb.block _ (lt_of_block HKp26.out)).trans HKp26.out)
          have HRe27 := Lib.hid (HRe26.out.below hb (Nat.le_refl _))
          have HBs20_27 : Hid (Below w20.heap.size w20 w27) := Lib.hid (HBs20_26.out.trans (hb.mono HBs20_26.out.size))
          have HBs24_27 : Hid (Below w24.heap.size w24 w27) := Lib.hid (HBs24_26.out.trans (hb.mono HBs24_26.out.size))
          have HBs26_27 : Hid (Below w26.heap.size w26 w27) := Lib.hid (HBs26_26.out.trans (hb.mono HBs26_26.out.size))
          have HKe27 := Lib.hid hk
          replace HZ27 : Hid (w26.heap.size < w27.heap.size) := Lib.hid (by omega)
          have HE27 := Lib.hid hz
          clear hb hk hz
          refine (vFrame_yes cu cl _ _ cs _ HRp27.out HRe27.out).mono ?_
          rintro e w28 ⟨rfl, hb⟩
          have HB28 : Hid (Below w.heap.size w w28) := Lib.hid (HB27.out.trans (hb.mono HB27.out.size))
          have HZ28 : Hid (w27.heap.size ≤ w28.heap.size) := Lib.hid hb.size
          have HRk28 := Lib.hid (HRk0.out.below HB28.out (Nat.le_refl _))
          have HRz28 := Lib.hid (HRz27.out.below hb (Nat.le_refl _))
          have HKz28 := Lib.hid ((hb.block _ (lt_of_block HKz27.out)).trans HKz27.out)
          have HRp28 := Lib.hid (HRp27.out.below hb (Nat.le_refl _))
          have HKp28 := Lib.hid ((hb.block _ (lt_of_block HKp27.out)).trans HKp27.out)
          have HRe28 := Lib.hid (HRe27.out.below hb (Nat.le_refl _))
          have HKe28 := Lib.hid ((hb.block _ (lt_of_block HKe27.out)).trans HKe27.out)
          have HBs20_28 : Hid (Below w20.heap.size w20 w28) := Lib.hid (HBs20_27.out.trans (hb.mono HBs20_27.out.size))
          have HBs24_28 : Hid (Below w24.heap.size w24 w28) := Lib.hid (HBs24_27.out.trans (hb.mono HBs24_27.out.size))
          have HBs26_28 : Hid (Below w26.heap.size w26 w28) := Lib.hid (HBs26_27.out.trans (hb.mono HBs26_27.out.size))
          clear hb
          clear cz0 cz1 cz2 fz0 fz1 fz2 ltz cp0 cp1 cp2 fp0 fp1 fp2 ltp
          have ltz := lt_of_block HKz28.out
          obtain ⟨cz0, cz1, cz2, fz0, fz1, fz2⟩ := cell3 HKz28.out
          have ltp := lt_of_block HKp28.out
          obtain ⟨cp0, cp1, cp2, fp0, fp1, fp2⟩ := cell3 HKp28.out
          have lte := lt_of_block HKe28.out
          obtain ⟨ce0, ce1, ce2, fe0, fe1, fe2⟩ := cell3 HKe28.out
          go_wp2_with fail
          refine (HI6.out _ _ HRp28.out).mono ?_
          rintro e w29 ⟨rfl, hb⟩
          have HB29 : Hid (Below w.heap.size w w29) := Lib.hid (HB28.out.trans (hb.mono HB28.out.size))
          have HZ29 : Hid (w28.heap.size ≤ w29.heap.size) := Lib.hid hb.size
          have HRk29 := Lib.hid (HRk0.out.below HB29.out (Nat.le_refl _))
          have HRz29 := Lib.hid (HRz28.out.below hb (Nat.le_refl _))
          have HKz29 := Lib.hid ((hb.block _ (lt_of_block HKz28.out)).trans HKz28.out)
          have HRp29 := Lib.hid (HRp28.out.below hb (Nat.le_refl _))
          have HKp29 := Lib.hid ((hb.block _ (lt_of_block HKp28.out)).trans HKp28.out)
          have HRe29 := Lib.hid (HRe28.out.below hb (Nat.le_refl _))
          have HKe29 := Lib.hid ((hb.block _ (lt_of_block HKe28.out)).trans HKe28.out)
          have HBs20_29 : Hid (Below w20.heap.size w20 w29) := Lib.hid (HBs20_28.out.trans (hb.mono HBs20_28.out.size))
          have HBs24_29 : Hid (Below w24.heap.size w24 w29) := Lib.hid (HBs24_28.out.trans (hb.mono HBs24_28.out.size))
          have HBs26_29 : Hid (Below w26.heap.size w26 w29) := Lib.hid (HBs26_28.out.trans (hb.mono HBs26_28.out.size))
          clear hb
          clear cz0 cz1 cz2 fz0 fz1 fz2 ltz cp0 cp1 cp2 fp0 fp1 fp2 ltp ce0 ce1 ce2 fe0 fe1 fe2 lte
          have ltz := lt_of_block HKz29.out
          obtain ⟨cz0, cz1, cz2, fz0, fz1, fz2⟩ := cell3 HKz29.out
          have ltp := lt_of_block HKp29.out
          obtain ⟨cp0, cp1, cp2, fp0, fp1, fp2⟩ := cell3 HKp29.out
          have lte := lt_of_block HKe29.out
          obtain ⟨ce0, ce1, ce2, fe0, fe1, fe2⟩ := cell3 HKe29.out
          go_wp2_with fail
          go_ret
          exact ⟨rfl, HB29.out⟩
        · obtain rfl := hn4 hg
          obtain rfl := hn5 hg
          clear hy4 hn4 hy5 hn5 hy6 hg
          clear cy0 cy1 cy2 fy0 fy1 fy2 lty
          go_wp2_with fail
          have hb : Below w20.heap.size w20 (w20.alloc (.cells #[.int .i64 zu, .int .i64 zl, .slice qaz zs.length qcz] 28)) := (Below.refl _ _).alloc (Nat.le_refl _) _
          have hk : (w20.alloc (.cells #[.int .i64 zu, .int .i64 zl, .slice qaz zs.length qcz] 28)).heap[w20.heap.size]? = some (.cells #[.int .i64 zu, .int .i64 zl, .slice qaz zs.length qcz] 28 (0, 0)) := alloc_at rfl
          have hz : (w20.alloc (.cells #[.int .i64 zu, .int .i64 zl, .slice qaz zs.length qcz] 28)).heap.size = w20.heap.size + 1 := by simp
          generalize w20.alloc (.cells #[.int .i64 zu, .int .i64 zl, .slice qaz zs.length qcz] 28) = w21 at hb hk hz ⊢
          have HB21 : Hid (Below w.heap.size w w21) := Lib.hid (HB20.out.trans (hb.mono HB20.out.size))
          have HZ21 : Hid (w20.heap.size ≤ w21.heap.size) := Lib.hid hb.size
          have HRk21 := Lib.hid (HRk0.out.below HB21.out (Nat.le_refl _))
          have HRz21 := Lib.hid (HRz20.out.below hb (Nat.le_refl _))
          have HBs20_21 : Hid (Below w20.heap.size w20 w21) := Lib.hid (HBs20_20.out.trans (hb.mono HBs20_20.out.size))
          have HKz21 := Lib.hid hk
          replace HZ21 : Hid (w20.heap.size < w21.heap.size) := Lib.hid (by omega)
          have HE21 := Lib.hid hz
          clear hb hk hz
          refine (HI4.out _ _ HRz21.out).mono ?_
          rintro e w22 ⟨rfl, hb⟩
          have HB22 : Hid (Below w.heap.size w w22) := Lib.hid (HB21.out.trans (hb.mono HB21.out.size))
          have HZ22 : Hid (w21.heap.size ≤ w22.heap.size) := Lib.hid hb.size
          have HRk22 := Lib.hid (HRk0.out.below HB22.out (Nat.le_refl _))
          have HRz22 := Lib.hid (HRz21.out.below hb (Nat.le_refl _))
          have HKz22 := Lib.hid ((hb.block _ (lt_of_block HKz21.out)).trans HKz21.out)
          have HBs20_22 : Hid (Below w20.heap.size w20 w22) := Lib.hid (HBs20_21.out.trans (hb.mono HBs20_21.out.size))
          clear hb
          have ltz := lt_of_block HKz22.out
          obtain ⟨cz0, cz1, cz2, fz0, fz1, fz2⟩ := cell3 HKz22.out
          go_wp2_with fail
          refine (HS4.out _ _ HRz22.out).mono ?_
          rintro e w23 ⟨rfl, hb⟩
          have HB23 : Hid (Below w.heap.size w w23) := Lib.hid (HB22.out.trans (hb.mono HB22.out.size))
          have HZ23 : Hid (w22.heap.size ≤ w23.heap.size) := Lib.hid hb.size
          have HRk23 := Lib.hid (HRk0.out.below HB23.out (Nat.le_refl _))
          have HRz23 := Lib.hid (HRz22.out.below hb (Nat.le_refl _))
          have HKz23 := Lib.hid ((hb.block _ (lt_of_block HKz22.out)).trans HKz22.out)
          have HBs20_23 : Hid (Below w20.heap.size w20 w23) := Lib.hid (HBs20_22.out.trans (hb.mono HBs20_22.out.size))
          clear hb
          clear cz0 cz1 cz2 fz0 fz1 fz2 ltz
          have ltz := lt_of_block HKz23.out
          obtain ⟨cz0, cz1, cz2, fz0, fz1, fz2⟩ := cell3 HKz23.out
          go_wp2_with fail
          refine (HI5.out _ _ HRz23.out).mono ?_
          rintro e w24 ⟨⟨v, rfl, ho⟩, hb⟩
          have HB24 : Hid (Below w.heap.size w w24) := Lib.hid (HB23.out.trans (hb.mono HB23.out.size))
          have HZ24 : Hid (w23.heap.size ≤ w24.heap.size) := Lib.hid hb.size
          have HRk24 := Lib.hid (HRk0.out.below HB24.out (Nat.le_refl _))
          have HRz24 := Lib.hid (HRz23.out.below hb (Nat.le_refl _))
          have HKz24 := Lib.hid ((hb.block _ (lt_of_block HKz23.out)).trans HKz23.out)
          have HBs20_24 : Hid (Below w20.heap.size w20 w24) := Lib.hid (HBs20_23.out.trans (hb.mono HBs20_23.out.size))
          clear hb
          obtain ⟨qap, qcp, rfl⟩ : ∃ a c, v = .slice a cs.length c := by obtain ⟨a, c, e, _⟩ := ho; exact ⟨a, c, e⟩
          have HRp24 := Lib.hid (ho)
          have HBs24_24 : Hid (Below w24.heap.size w24 w24) := Lib.hid (Below.refl _ _)
          clear ho
          clear cz0 cz1 cz2 fz0 fz1 fz2 ltz
          have ltz := lt_of_block HKz24.out
          obtain ⟨cz0, cz1, cz2, fz0, fz1, fz2⟩ := cell3 HKz24.out
          go_wp2_with fail
          have hb : Below w24.heap.size w24 (w24.alloc (.cells #[.int .i64 cu, .int .i64 cl, .slice qap cs.length qcp] 28)) := (Below.refl _ _).alloc (Nat.le_refl _) _
          have hk : (w24.alloc (.cells #[.int .i64 cu, .int .i64 cl, .slice qap cs.length qcp] 28)).heap[w24.heap.size]? = some (.cells #[.int .i64 cu, .int .i64 cl, .slice qap cs.length qcp] 28 (0, 0)) := alloc_at rfl
          have hz : (w24.alloc (.cells #[.int .i64 cu, .int .i64 cl, .slice qap cs.length qcp] 28)).heap.size = w24.heap.size + 1 := by simp
          generalize w24.alloc (.cells #[.int .i64 cu, .int .i64 cl, .slice qap cs.length qcp] 28) = w25 at hb hk hz ⊢
          have HB25 : Hid (Below w.heap.size w w25) := Lib.hid (HB24.out.trans (hb.mono HB24.out.size))
          have HZ25 : Hid (w24.heap.size ≤ w25.heap.size) := Lib.hid hb.size
          have HRk25 := Lib.hid (HRk0.out.below HB25.out (Nat.le_refl _))
          have HRz25 := Lib.hid (HRz24.out.below hb (Nat.le_refl _))
          have HKz25 := Lib.hid ((hb.block _ (lt_of_block HKz24.out)).trans HKz24.out)
          have HRp25 := Lib.hid (HRp24.out.below hb (Nat.le_refl _))
          have HBs20_25 : Hid (Below w20.heap.size w20 w25) := Lib.hid (HBs20_24.out.trans (hb.mono HBs20_24.out.size))
          have HBs24_25 : Hid (Below w24.heap.size w24 w25) := Lib.hid (HBs24_24.out.trans (hb.mono HBs24_24.out.size))
          have HKp25 := Lib.hid hk
          replace HZ25 : Hid (w24.heap.size < w25.heap.size) := Lib.hid (by omega)
          have HE25 := Lib.hid hz
          clear hb hk hz
          refine (HS5.out _ _ HRz25.out).mono ?_
          rintro e w26 ⟨⟨v, rfl, ho⟩, hb⟩
          have HB26 : Hid (Below w.heap.size w w26) := Lib.hid (HB25.out.trans (hb.mono HB25.out.size))
          have HZ26 : Hid (w25.heap.size ≤ w26.heap.size) := Lib.hid hb.size
          have HRk26 := Lib.hid (HRk0.out.below HB26.out (Nat.le_refl _))
          have HRz26 := Lib.hid (HRz25.out.below hb (Nat.le_refl _))
          have HKz26 := Lib.hid ((hb.block _ (lt_of_block HKz25.out)).trans HKz25.out)
          have HRp26 := Lib.hid (HRp25.out.below hb (Nat.le_refl _))
          have HKp26 := Lib.hid ((hb.block _ (lt_of_block HKp25.out)).trans HKp25.out)
          have HBs20_26 : Hid (Below w20.heap.size w20 w26) := Lib.hid (HBs20_25.out.trans (hb.mono HBs20_25.out.size))
          have HBs24_26 : Hid (Below w24.heap.size w24 w26) := Lib.hid (HBs24_25.out.trans (hb.mono HBs24_25.out.size))
          clear hb
          obtain ⟨qae, qce, rfl⟩ : ∃ a c, v = .slice a cs.length c := by obtain ⟨a, c, e, _⟩ := ho; exact ⟨a, c, e⟩
          have HRe26 := Lib.hid (ho)
          have HBs26_26 : Hid (Below w26.heap.size w26 w26) := Lib.hid (Below.refl _ _)
          clear ho
          clear cz0 cz1 cz2 fz0 fz1 fz2 ltz
          have ltz := lt_of_block HKz26.out
          obtain ⟨cz0, cz1, cz2, fz0, fz1, fz2⟩ := cell3 HKz26.out
          have ltp := lt_of_block HKp26.out
          obtain ⟨cp0, cp1, cp2, fp0, fp1, fp2⟩ := cell3 HKp26.out
          go_wp2_with fail
          have hb : Below w26.heap.size w26 (w26.alloc (.cells #[.int .i64 cu, .int .i64 cl, .slice qae cs.length qce] 28)) := (Below.refl _ _).alloc (Nat.le_refl _) _
          have hk : (w26.alloc (.cells #[.int .i64 cu, .int .i64 cl, .slice qae cs.length qce] 28)).heap[w26.heap.size]? = some (.cells #[.int .i64 cu, .int .i64 cl, .slice qae cs.length qce] 28 (0, 0)) := alloc_at rfl
          have hz : (w26.alloc (.cells #[.int .i64 cu, .int .i64 cl, .slice qae cs.length qce] 28)).heap.size = w26.heap.size + 1 := by simp
          generalize w26.alloc (.cells #[.int .i64 cu, .int .i64 cl, .slice qae cs.length qce] 28) = w27 at hb hk hz ⊢
          have HB27 : Hid (Below w.heap.size w w27) := Lib.hid (HB26.out.trans (hb.mono HB26.out.size))
          have HZ27 : Hid (w26.heap.size ≤ w27.heap.size) := Lib.hid hb.size
          have HRk27 := Lib.hid (HRk0.out.below HB27.out (Nat.le_refl _))
          have HRz27 := Lib.hid (HRz26.out.below hb (Nat.le_refl _))
          have HKz27 := Lib.hid ((hb.block _ (lt_of_block HKz26.out)).trans HKz26.out)
          have HRp27 := Lib.hid (HRp26.out.below hb (Nat.le_refl _))
          have HKp27 := Lib.hid ((hb.block _ (lt_of_block HKp26.out)).trans HKp26.out)
          have HRe27 := Lib.hid (HRe26.out.below hb (Nat.le_refl _))
          have HBs20_27 : Hid (Below w20.heap.size w20 w27) := Lib.hid (HBs20_26.out.trans (hb.mono HBs20_26.out.size))
          have HBs24_27 : Hid (Below w24.heap.size w24 w27) := Lib.hid (HBs24_26.out.trans (hb.mono HBs24_26.out.size))
          have HBs26_27 : Hid (Below w26.heap.size w26 w27) := Lib.hid (HBs26_26.out.trans (hb.mono HBs26_26.out.size))
          have HKe27 := Lib.hid hk
          replace HZ27 : Hid (w26.heap.size < w27.heap.size) := Lib.hid (by omega)
          have HE27 := Lib.hid hz
          clear hb hk hz
          refine (vFrame_yes cu cl _ _ cs _ HRp27.out HRe27.out).mono ?_
          rintro e w28 ⟨rfl, hb⟩
          have HB28 : Hid (Below w.heap.size w w28) := Lib.hid (HB27.out.trans (hb.mono HB27.out.size))
          have HZ28 : Hid (w27.heap.size ≤ w28.heap.size) := Lib.hid hb.size
          have HRk28 := Lib.hid (HRk0.out.below HB28.out (Nat.le_refl _))
          have HRz28 := Lib.hid (HRz27.out.below hb (Nat.le_refl _))
          have HKz28 := Lib.hid ((hb.block _ (lt_of_block HKz27.out)).trans HKz27.out)
          have HRp28 := Lib.hid (HRp27.out.below hb (Nat.le_refl _))
          have HKp28 := Lib.hid ((hb.block _ (lt_of_block HKp27.out)).trans HKp27.out)
          have HRe28 := Lib.hid (HRe27.out.below hb (Nat.le_refl _))
          have HKe28 := Lib.hid ((hb.block _ (lt_of_block HKe27.out)).trans HKe27.out)
          have HBs20_28 : Hid (Below w20.heap.size w20 w28) := Lib.hid (HBs20_27.out.trans (hb.mono HBs20_27.out.size))
          have HBs24_28 : Hid (Below w24.heap.size w24 w28) := Lib.hid (HBs24_27.out.trans (hb.mono HBs24_27.out.size))
          have HBs26_28 : Hid (Below w26.heap.size w26 w28) := Lib.hid (HBs26_27.out.trans (hb.mono HBs26_27.out.size))
          clear hb
          clear cz0 cz1 cz2 fz0 fz1 fz2 ltz cp0 cp1 cp2 fp0 fp1 fp2 ltp
          have ltz := lt_of_block HKz28.out
          obtain ⟨cz0, cz1, cz2, fz0, fz1, fz2⟩ := cell3 HKz28.out
          have ltp := lt_of_block HKp28.out
          obtain ⟨cp0, cp1, cp2, fp0, fp1, fp2⟩ := cell3 HKp28.out
          have lte := lt_of_block HKe28.out
          obtain ⟨ce0, ce1, ce2, fe0, fe1, fe2⟩ := cell3 HKe28.out
          go_wp2_with fail
          go_ret
          exact ⟨rfl, HB28.out⟩
      | false =>
        clear hy2 hv2
        clear cx0 cx1 cx2 fx0 fx1 fx2 ltx cs0 cs1 cs2 fs0 fs1 fs2 lts
        have lts := lt_of_block HKs14.out
        obtain ⟨cs0, cs1, cs2, fs0, fs1, fs2⟩ := cell3 HKs14.out
        go_wp2_with fail
        refine (drawRodValue_any _ L _ HRk14.out).mono ?_
        rintro e w15 ⟨⟨yu, yl, yv, ys, j, rfl, ho, -⟩, hb⟩
        have HB15 : Hid (Below w.heap.size w w15) := Lib.hid (HB14.out.trans (hb.mono HB14.out.size))
        have HZ15 : Hid (w14.heap.size ≤ w15.heap.size) := Lib.hid hb.size
        have HRk15 := Lib.hid (HRk0.out.below HB15.out (Nat.le_refl _))
        clear hb
        obtain ⟨qay, qcy, rfl⟩ : ∃ a c, yv = .slice a ys.length c := by obtain ⟨a, c, e, _⟩ := ho; exact ⟨a, c, e⟩
        have HRy15 := Lib.hid (ho)
        have HBs15_15 : Hid (Below w15.heap.size w15 w15) := Lib.hid (Below.refl _ _)
        clear ho
        obtain ⟨n3, b3, hS, hI, -⟩ := value_same yu yl ys j
        have HS3 := Lib.hid hS
        have HI3 := Lib.hid hI
        clear hS hI
        have hn33 : (n3 != n3) = false := by simp
        have hb33 : (b3 != b3) = false := by simp
        clear cs0 cs1 cs2 fs0 fs1 fs2 lts
        go_wp2_with fail
        have hb : Below w15.heap.size w15 (w15.alloc (.cells #[.int .i64 yu, .int .i64 yl, .slice qay ys.length qcy] 28)) := (Below.refl _ _).alloc (Nat.le_refl _) _
        have hk : (w15.alloc (.cells #[.int .i64 yu, .int .i64 yl, .slice qay ys.length qcy] 28)).heap[w15.heap.size]? = some (.cells #[.int .i64 yu, .int .i64 yl, .slice qay ys.length qcy] 28 (0, 0)) := alloc_at rfl
        have hz : (w15.alloc (.cells #[.int .i64 yu, .int .i64 yl, .slice qay ys.length qcy] 28)).heap.size = w15.heap.size + 1 := by simp
        generalize w15.alloc (.cells #[.int .i64 yu, .int .i64 yl, .slice qay ys.length qcy] 28) = w16 at hb hk hz ⊢
        have HB16 : Hid (Below w.heap.size w w16) := Lib.hid (HB15.out.trans (hb.mono HB15.out.size))
        have HZ16 : Hid (w15.heap.size ≤ w16.heap.size) := Lib.hid hb.size
        have HRk16 := Lib.hid (HRk0.out.below HB16.out (Nat.le_refl _))
        have HRy16 := Lib.hid (HRy15.out.below hb (Nat.le_refl _))
        have HBs15_16 : Hid (Below w15.heap.size w15 w16) := Lib.hid (HBs15_15.out.trans (hb.mono HBs15_15.out.size))
        have HKy16 := Lib.hid hk
        replace HZ16 : Hid (w15.heap.size < w16.heap.size) := Lib.hid (by omega)
        have HE16 := Lib.hid hz
        clear hb hk hz
        refine (HI3.out _ _ HRy16.out).mono ?_
        rintro e w17 ⟨rfl, hb⟩
        have HB17 : Hid (Below w.heap.size w w17) := Lib.hid (HB16.out.trans (hb.mono HB16.out.size))
        have HZ17 : Hid (w16.heap.size ≤ w17.heap.size) := Lib.hid hb.size
        have HRk17 := Lib.hid (HRk0.out.below HB17.out (Nat.le_refl _))
        have HRy17 := Lib.hid (HRy16.out.below hb (Nat.le_refl _))
        have HKy17 := Lib.hid ((hb.block _ (lt_of_block HKy16.out)).trans HKy16.out)
        have HBs15_17 : Hid (Below w15.heap.size w15 w17) := Lib.hid (HBs15_16.out.trans (hb.mono HBs15_16.out.size))
        clear hb
        have lty := lt_of_block HKy17.out
        obtain ⟨cy0, cy1, cy2, fy0, fy1, fy2⟩ := cell3 HKy17.out
        go_wp2_with fail
        refine (HS3.out _ _ HRy17.out).mono ?_
        rintro e w18 ⟨rfl, hb⟩
        have HB18 : Hid (Below w.heap.size w w18) := Lib.hid (HB17.out.trans (hb.mono HB17.out.size))
        have HZ18 : Hid (w17.heap.size ≤ w18.heap.size) := Lib.hid hb.size
        have HRk18 := Lib.hid (HRk0.out.below HB18.out (Nat.le_refl _))
        have HRy18 := Lib.hid (HRy17.out.below hb (Nat.le_refl _))
        have HKy18 := Lib.hid ((hb.block _ (lt_of_block HKy17.out)).trans HKy17.out)
        have HBs15_18 : Hid (Below w15.heap.size w15 w18) := Lib.hid (HBs15_17.out.trans (hb.mono HBs15_17.out.size))
        clear hb
        clear cy0 cy1 cy2 fy0 fy1 fy2 lty
        have lty := lt_of_block HKy18.out
        obtain ⟨cy0, cy1, cy2, fy0, fy1, fy2⟩ := cell3 HKy18.out
        go_wp2_with fail
        refine (drawNumberOn_any _ L _ HRk18.out).mono ?_
        rintro e w19 ⟨⟨zu, zl, zv, zs, rfl, ho, -⟩, hb⟩
        have HB19 : Hid (Below w.heap.size w w19) := Lib.hid (HB18.out.trans (hb.mono HB18.out.size))
        have HZ19 : Hid (w18.heap.size ≤ w19.heap.size) := Lib.hid hb.size
        have HRk19 := Lib.hid (HRk0.out.below HB19.out (Nat.le_refl _))
        clear hb
        obtain ⟨qaz, qcz, rfl⟩ : ∃ a c, zv = .slice a zs.length c := by obtain ⟨a, c, e, _⟩ := ho; exact ⟨a, c, e⟩
        have HRz19 := Lib.hid (ho)
        have HBs19_19 : Hid (Below w19.heap.size w19 w19) := Lib.hid (Below.refl _ _)
        clear ho
        obtain ⟨n4, b4, hS, hI, hy4, hn4⟩ := number_same zu zl zs
        obtain ⟨cu, cl, cs, b5, hS5, hI5, hy5, hn5⟩ := cleared_same zu zl zs
        obtain ⟨n6, b6, -, hI6, hy6, -⟩ := number_same cu cl cs
        have HS4 := Lib.hid hS
        have HI4 := Lib.hid hI
        have HS5 := Lib.hid hS5
        have HI5 := Lib.hid hI5
        have HI6 := Lib.hid hI6
        clear hS hI hS5 hI5 hI6
        have hn44 : (n4 != n4) = false := by simp
        by_cases hg : goodF zu zl zs
        · obtain ⟨-, rfl⟩ := hy4 hg
          obtain ⟨rfl, hg6, hz6⟩ := hy5 hg
          obtain ⟨rfl, rfl⟩ := hy6 hg6
          clear hy4 hn4 hy5 hn5 hy6 hg6 hg
          have HZ6 := Lib.hid hz6
          clear hz6
          generalize numF cs = n6 at HZ6 HI6
          obtain rfl : n6 = 0 := HZ6.out
          clear cy0 cy1 cy2 fy0 fy1 fy2 lty
          go_wp2_with fail
          have hb : Below w19.heap.size w19 (w19.alloc (.cells #[.int .i64 zu, .int .i64 zl, .slice qaz zs.length qcz] 28)) := (Below.refl _ _).alloc (Nat.le_refl _) _
          have hk : (w19.alloc (.cells #[.int .i64 zu, .int .i64 zl, .slice qaz zs.length qcz] 28)).heap[w19.heap.size]? = some (.cells #[.int .i64 zu, .int .i64 zl, .slice qaz zs.length qcz] 28 (0, 0)) := alloc_at rfl
          have hz : (w19.alloc (.cells #[.int .i64 zu, .int .i64 zl, .slice qaz zs.length qcz] 28)).heap.size = w19.heap.size + 1 := by simp
          generalize w19.alloc (.cells #[.int .i64 zu, .int .i64 zl, .slice qaz zs.length qcz] 28) = w20 at hb hk hz ⊢
          have HB20 : Hid (Below w.heap.size w w20) := Lib.hid (HB19.out.trans (hb.mono HB19.out.size))
          have HZ20 : Hid (w19.heap.size ≤ w20.heap.size) := Lib.hid hb.size
          have HRk20 := Lib.hid (HRk0.out.below HB20.out (Nat.le_refl _))
          have HRz20 := Lib.hid (HRz19.out.below hb (Nat.le_refl _))
          have HBs19_20 : Hid (Below w19.heap.size w19 w20) := Lib.hid (HBs19_19.out.trans (hb.mono HBs19_19.out.size))
          have HKz20 := Lib.hid hk
          replace HZ20 : Hid (w19.heap.size < w20.heap.size) := Lib.hid (by omega)
          have HE20 := Lib.hid hz
          clear hb hk hz
          refine (HI4.out _ _ HRz20.out).mono ?_
          rintro e w21 ⟨rfl, hb⟩
          have HB21 : Hid (Below w.heap.size w w21) := Lib.hid (HB20.out.trans (hb.mono HB20.out.size))
          have HZ21 : Hid (w20.heap.size ≤ w21.heap.size) := Lib.hid hb.size
          have HRk21 := Lib.hid (HRk0.out.below HB21.out (Nat.le_refl _))
          have HRz21 := Lib.hid (HRz20.out.below hb (Nat.le_refl _))
          have HKz21 := Lib.hid ((hb.block _ (lt_of_block HKz20.out)).trans HKz20.out)
          have HBs19_21 : Hid (Below w19.heap.size w19 w21) := Lib.hid (HBs19_20.out.trans (hb.mono HBs19_20.out.size))
          clear hb
          have ltz := lt_of_block HKz21.out
          obtain ⟨cz0, cz1, cz2, fz0, fz1, fz2⟩ := cell3 HKz21.out
          go_wp2_with fail
          refine (HS4.out _ _ HRz21.out).mono ?_
          rintro e w22 ⟨rfl, hb⟩
          have HB22 : Hid (Below w.heap.size w w22) := Lib.hid (HB21.out.trans (hb.mono HB21.out.size))
          have HZ22 : Hid (w21.heap.size ≤ w22.heap.size) := Lib.hid hb.size
          have HRk22 := Lib.hid (HRk0.out.below HB22.out (Nat.le_refl _))
          have HRz22 := Lib.hid (HRz21.out.below hb (Nat.le_refl _))
          have HKz22 := Lib.hid ((hb.block _ (lt_of_block HKz21.out)).trans HKz21.out)
          have HBs19_22 : Hid (Below w19.heap.size w19 w22) := Lib.hid (HBs19_21.out.trans (hb.mono HBs19_21.out.size))
          clear hb
          clear cz0 cz1 cz2 fz0 fz1 fz2 ltz
          have ltz := lt_of_block HKz22.out
          obtain ⟨cz0, cz1, cz2, fz0, fz1, fz2⟩ := cell3 HKz22.out
          go_wp2_with fail
          refine (HI5.out _ _ HRz22.out).mono ?_
          rintro e w23 ⟨⟨v, rfl, ho⟩, hb⟩
          have HB23 : Hid (Below w.heap.size w w23) := Lib.hid (HB22.out.trans (hb.mono HB22.out.size))
          have HZ23 : Hid (w22.heap.size ≤ w23.heap.size) := Lib.hid hb.size
          have HRk23 := Lib.hid (HRk0.out.below HB23.out (Nat.le_refl _))
          have HRz23 := Lib.hid (HRz22.out.below hb (Nat.le_refl _))
          have HKz23 := Lib.hid ((hb.block _ (lt_of_block HKz22.out)).trans HKz22.out)
          have HBs19_23 : Hid (Below w19.heap.size w19 w23) := Lib.hid (HBs19_22.out.trans (hb.mono HBs19_22.out.size))
          clear hb
          obtain ⟨qap, qcp, rfl⟩ : ∃ a c, v = .slice a cs.length c := by obtain ⟨a, c, e, _⟩ := ho; exact ⟨a, c, e⟩
          have HRp23 := Lib.hid (ho)
          have HBs23_23 : Hid (Below w23.heap.size w23 w23) := Lib.hid (Below.refl _ _)
          clear ho
          clear cz0 cz1 cz2 fz0 fz1 fz2 ltz
          have ltz := lt_of_block HKz23.out
          obtain ⟨cz0, cz1, cz2, fz0, fz1, fz2⟩ := cell3 HKz23.out
          go_wp2_with fail
          have hb : Below w23.heap.size w23 (w23.alloc (.cells #[.int .i64 cu, .int .i64 cl, .slice qap cs.length qcp] 28)) := (Below.refl _ _).alloc (Nat.le_refl _) _
          have hk : (w23.alloc (.cells #[.int .i64 cu, .int .i64 cl, .slice qap cs.length qcp] 28)).heap[w23.heap.size]? = some (.cells #[.int .i64 cu, .int .i64 cl, .slice qap cs.length qcp] 28 (0, 0)) := alloc_at rfl
          have hz : (w23.alloc (.cells #[.int .i64 cu, .int .i64 cl, .slice qap cs.length qcp] 28)).heap.size = w23.heap.size + 1 := by simp
          generalize w23.alloc (.cells #[.int .i64 cu, .int .i64 cl, .slice qap cs.length qcp] 28) = w24 at hb hk hz ⊢
          have HB24 : Hid (Below w.heap.size w w24) := Lib.hid (HB23.out.trans (hb.mono HB23.out.size))
          have HZ24 : Hid (w23.heap.size ≤ w24.heap.size) := Lib.hid hb.size
          have HRk24 := Lib.hid (HRk0.out.below HB24.out (Nat.le_refl _))
          have HRz24 := Lib.hid (HRz23.out.below hb (Nat.le_refl _))
          have HKz24 := Lib.hid ((hb.block _ (lt_of_block HKz23.out)).trans HKz23.out)
          have HRp24 := Lib.hid (HRp23.out.below hb (Nat.le_refl _))
          have HBs19_24 : Hid (Below w19.heap.size w19 w24) := Lib.hid (HBs19_23.out.trans (hb.mono HBs19_23.out.size))
          have HBs23_24 : Hid (Below w23.heap.size w23 w24) := Lib.hid (HBs23_23.out.trans (hb.mono HBs23_23.out.size))
          have HKp24 := Lib.hid hk
          replace HZ24 : Hid (w23.heap.size < w24.heap.size) := Lib.hid (by omega)
          have HE24 := Lib.hid hz
          clear hb hk hz
          refine (HS5.out _ _ HRz24.out).mono ?_
          rintro e w25 ⟨⟨v, rfl, ho⟩, hb⟩
          have HB25 : Hid (Below w.heap.size w w25) := Lib.hid (HB24.out.trans (hb.mono HB24.out.size))
          have HZ25 : Hid (w24.heap.size ≤ w25.heap.size) := Lib.hid hb.size
          have HRk25 := Lib.hid (HRk0.out.below HB25.out (Nat.le_refl _))
          have HRz25 := Lib.hid (HRz24.out.below hb (Nat.le_refl _))
          have HKz25 := Lib.hid ((hb.block _ (lt_of_block HKz24.out)).trans HKz24.out)
          have HRp25 := Lib.hid (HRp24.out.below hb (Nat.le_refl _))
          have HKp25 := Lib.hid ((hb.block _ (lt_of_block HKp24.out)).trans HKp24.out)
          have HBs19_25 : Hid (Below w19.heap.size w19 w25) := Lib.hid (HBs19_24.out.trans (hb.mono HBs19_24.out.size))
          have HBs23_25 : Hid (Below w23.heap.size w23 w25) := Lib.hid (HBs23_24.out.trans (hb.mono HBs23_24.out.size))
          clear hb
          obtain ⟨qae, qce, rfl⟩ : ∃ a c, v = .slice a cs.length c := by obtain ⟨a, c, e, _⟩ := ho; exact ⟨a, c, e⟩
          have HRe25 := Lib.hid (ho)
          have HBs25_25 : Hid (Below w25.heap.size w25 w25) := Lib.hid (Below.refl _ _)
          clear ho
          clear cz0 cz1 cz2 fz0 fz1 fz2 ltz
          have ltz := lt_of_block HKz25.out
          obtain ⟨cz0, cz1, cz2, fz0, fz1, fz2⟩ := cell3 HKz25.out
          have ltp := lt_of_block HKp25.out
          obtain ⟨cp0, cp1, cp2, fp0, fp1, fp2⟩ := cell3 HKp25.out
          go_wp2_with fail
          have hb : Below w25.heap.size w25 (w25.alloc (.cells #[.int .i64 cu, .int .i64 cl, .slice qae cs.length qce] 28)) := (Below.refl _ _).alloc (Nat.le_refl _) _
          have hk : (w25.alloc (.cells #[.int .i64 cu, .int .i64 cl, .slice qae cs.length qce] 28)).heap[w25.heap.size]? = some (.cells #[.int .i64 cu, .int .i64 cl, .slice qae cs.length qce] 28 (0, 0)) := alloc_at rfl
          have hz : (w25.alloc (.cells #[.int .i64 cu, .int .i64 cl, .slice qae cs.length qce] 28)).heap.size = w25.heap.size + 1 := by simp
          generalize w25.alloc (.cells #[.int .i64 cu, .int .i64 cl, .slice qae cs.length qce] 28) = w26 at hb hk hz ⊢
          have HB26 : Hid (Below w.heap.size w w26) := Lib.hid (HB25.out.trans (hb.mono HB25.out.size))
          have HZ26 : Hid (w25.heap.size ≤ w26.heap.size) := Lib.hid hb.size
          have HRk26 := Lib.hid (HRk0.out.below HB26.out (Nat.le_refl _))
          have HRz26 := Lib.hid (HRz25.out.below hb (Nat.le_refl _))
          have HKz26 := Lib.hid ((hb.block _ (lt_of_block HKz25.out)).trans HKz25.out)
          have HRp26 := Lib.hid (HRp25.out.below hb (Nat.le_refl _))
          have HKp26 := Lib.hid ((hb.block _ (lt_of_block HKp25.out)).trans HKp25.out)
          have HRe26 := Lib.hid (HRe25.out.below hb (Nat.le_refl _))
          have HBs19_26 : Hid (Below w19.heap.size w19 w26) := Lib.hid (HBs19_25.out.trans (hb.mono HBs19_25.out.size))
          have HBs23_26 : Hid (Below w23.heap.size w23 w26) := Lib.hid (HBs23_25.out.trans (hb.mono HBs23_25.out.size))
          have HBs25_26 : Hid (Below w25.heap.size w25 w26) := Lib.hid (HBs25_25.out.trans (hb.mono HBs25_25.out.size))
          have HKe26 := Lib.hid hk
          replace HZ26 : Hid (w25.heap.size < w26.heap.size) := Lib.hid (by omega)
          have HE26 := Lib.hid hz
          clear hb hk hz
          refine (vFrame_yes cu cl _ _ cs _ HRp26.out HRe26.out).mono ?_
          rintro e w27 ⟨rfl, hb⟩
          have HB27 : Hid (Below w.heap.size w w27) := Lib.hid (HB26.out.trans (hb.mono HB26.out.size))
          have HZ27 : Hid (w26.heap.size ≤ w27.heap.size) := Lib.hid hb.size
          have HRk27 := Lib.hid (HRk0.out.below HB27.out (Nat.le_refl _))
          have HRz27 := Lib.hid (HRz26.out.below hb (Nat.le_refl _))
          have HKz27 := Lib.hid ((hb.block _ (lt_of_block HKz26.out)).trans HKz26.out)
          have HRp27 := Lib.hid (HRp26.out.below hb (Nat.le_refl _))
          have HKp27 := Lib.hid ((hb.block _ (lt_of_block HKp26.out)).trans HKp26.out)
          have HRe27 := Lib.hid (HRe26.out.below hb (Nat.le_refl _))
          have HKe27 := Lib.hid ((hb.block _ (lt_of_block HKe26.out)).trans HKe26.out)
          have HBs19_27 : Hid (Below w19.heap.size w19 w27) := Lib.hid (HBs19_26.out.trans (hb.mono HBs19_26.out.size))
          have HBs23_27 : Hid (Below w23.heap.size w23 w27) := Lib.hid (HBs23_26.out.trans (hb.mono HBs23_26.out.size))
          have HBs25_27 : Hid (Below w25.heap.size w25 w27) := Lib.hid (HBs25_26.out.trans (hb.mono HBs25_26.out.size))
          clear hb
          clear cz0 cz1 cz2 fz0 fz1 fz2 ltz cp0 cp1 cp2 fp0 fp1 fp2 ltp
          have ltz := lt_of_block HKz27.out
          obtain ⟨cz0, cz1, cz2, fz0, fz1, fz2⟩ := cell3 HKz27.out
          have ltp := lt_of_block HKp27.out
          obtain ⟨cp0, cp1, cp2, fp0, fp1, fp2⟩ := cell3 HKp27.out
          have lte := lt_of_block HKe27.out
          obtain ⟨ce0, ce1, ce2, fe0, fe1, fe2⟩ := cell3 HKe27.out
          go_wp2_with fail
          refine (HI6.out _ _ HRp27.out).mono ?_
          rintro e w28 ⟨rfl, hb⟩
          have HB28 : Hid (Below w.heap.size w w28) := Lib.hid (HB27.out.trans (hb.mono HB27.out.size))
          have HZ28 : Hid (w27.heap.size ≤ w28.heap.size) := Lib.hid hb.size
          have HRk28 := Lib.hid (HRk0.out.below HB28.out (Nat.le_refl _))
          have HRz28 := Lib.hid (HRz27.out.below hb (Nat.le_refl _))
          have HKz28 := Lib.hid ((hb.block _ (lt_of_block HKz27.out)).trans HKz27.out)
          have HRp28 := Lib.hid (HRp27.out.below hb (Nat.le_refl _))
          have HKp28 := Lib.hid ((hb.block _ (lt_of_block HKp27.out)).trans HKp27.out)
          have HRe28 := Lib.hid (HRe27.out.below hb (Nat.le_refl _))
          have HKe28 := Lib.hid ((hb.block _ (lt_of_block HKe27.out)).trans HKe27.out)
          have HBs19_28 : Hid (Below w19.heap.size w19 w28) := Lib.hid (HBs19_27.out.trans (hb.mono HBs19_27.out.size))
          have HBs23_28 : Hid (Below w23.heap.size w23 w28) := Lib.hid (HBs23_27.out.trans (hb.mono HBs23_27.out.size))
          have HBs25_28 : Hid (Below w25.heap.size w25 w28) := Lib.hid (HBs25_27.out.trans (hb.mono HBs25_27.out.size))
          clear hb
          clear cz0 cz1 cz2 fz0 fz1 fz2 ltz cp0 cp1 cp2 fp0 fp1 fp2 ltp ce0 ce1 ce2 fe0 fe1 fe2 lte
          have ltz := lt_of_block HKz28.out
          obtain ⟨cz0, cz1, cz2, fz0, fz1, fz2⟩ := cell3 HKz28.out
          have ltp := lt_of_block HKp28.out
          obtain ⟨cp0, cp1, cp2, fp0, fp1, fp2⟩ := cell3 HKp28.out
          have lte := lt_of_block HKe28.out
          obtain ⟨ce0, ce1, ce2, fe0, fe1, fe2⟩ := cell3 HKe28.out
          go_wp2_with fail
          go_ret
          exact ⟨rfl, HB28.out⟩
        · obtain rfl := hn4 hg
          obtain rfl := hn5 hg
          clear hy4 hn4 hy5 hn5 hy6 hg
          clear cy0 cy1 cy2 fy0 fy1 fy2 lty
          go_wp2_with fail
          have hb : Below w19.heap.size w19 (w19.alloc (.cells #[.int .i64 zu, .int .i64 zl, .slice qaz zs.length qcz] 28)) := (Below.refl _ _).alloc (Nat.le_refl _) _
          have hk : (w19.alloc (.cells #[.int .i64 zu, .int .i64 zl, .slice qaz zs.length qcz] 28)).heap[w19.heap.size]? = some (.cells #[.int .i64 zu, .int .i64 zl, .slice qaz zs.length qcz] 28 (0, 0)) := alloc_at rfl
          have hz : (w19.alloc (.cells #[.int .i64 zu, .int .i64 zl, .slice qaz zs.length qcz] 28)).heap.size = w19.heap.size + 1 := by simp
          generalize w19.alloc (.cells #[.int .i64 zu, .int .i64 zl, .slice qaz zs.length qcz] 28) = w20 at hb hk hz ⊢
          have HB20 : Hid (Below w.heap.size w w20) := Lib.hid (HB19.out.trans (hb.mono HB19.out.size))
          have HZ20 : Hid (w19.heap.size ≤ w20.heap.size) := Lib.hid hb.size
          have HRk20 := Lib.hid (HRk0.out.below HB20.out (Nat.le_refl _))
          have HRz20 := Lib.hid (HRz19.out.below hb (Nat.le_refl _))
          have HBs19_20 : Hid (Below w19.heap.size w19 w20) := Lib.hid (HBs19_19.out.trans (hb.mono HBs19_19.out.size))
          have HKz20 := Lib.hid hk
          replace HZ20 : Hid (w19.heap.size < w20.heap.size) := Lib.hid (by omega)
          have HE20 := Lib.hid hz
          clear hb hk hz
          refine (HI4.out _ _ HRz20.out).mono ?_
          rintro e w21 ⟨rfl, hb⟩
          have HB21 : Hid (Below w.heap.size w w21) := Lib.hid (HB20.out.trans (hb.mono HB20.out.size))
          have HZ21 : Hid (w20.heap.size ≤ w21.heap.size) := Lib.hid hb.size
          have HRk21 := Lib.hid (HRk0.out.below HB21.out (Nat.le_refl _))
          have HRz21 := Lib.hid (HRz20.out.below hb (Nat.le_refl _))
          have HKz21 := Lib.hid ((hb.block _ (lt_of_block HKz20.out)).trans HKz20.out)
          have HBs19_21 : Hid (Below w19.heap.size w19 w21) := Lib.hid (HBs19_20.out.trans (hb.mono HBs19_20.out.size))
          clear hb
          have ltz := lt_of_block HKz21.out
          obtain ⟨cz0, cz1, cz2, fz0, fz1, fz2⟩ := cell3 HKz21.out
          go_wp2_with fail
          refine (HS4.out _ _ HRz21.out).mono ?_
          rintro e w22 ⟨rfl, hb⟩
          have HB22 : Hid (Below w.heap.size w w22) := Lib.hid (HB21.out.trans (hb.mono HB21.out.size))
          have HZ22 : Hid (w21.heap.size ≤ w22.heap.size) := Lib.hid hb.size
          have HRk22 := Lib.hid (HRk0.out.below HB22.out (Nat.le_refl _))
          have HRz22 := Lib.hid (HRz21.out.below hb (Nat.le_refl _))
          have HKz22 := Lib.hid ((hb.block _ (lt_of_block HKz21.out)).trans HKz21.out)
          have HBs19_22 : Hid (Below w19.heap.size w19 w22) := Lib.hid (HBs19_21.out.trans (hb.mono HBs19_21.out.size))
          clear hb
          clear cz0 cz1 cz2 fz0 fz1 fz2 ltz
          have ltz := lt_of_block HKz22.out
          obtain ⟨cz0, cz1, cz2, fz0, fz1, fz2⟩ := cell3 HKz22.out
          go_wp2_with fail
          refine (HI5.out _ _ HRz22.out).mono ?_
          rintro e w23 ⟨⟨v, rfl, ho⟩, hb⟩
          have HB23 : Hid (Below w.heap.size w w23) := Lib.hid (HB22.out.trans (hb.mono HB22.out.size))
          have HZ23 : Hid (w22.heap.size ≤ w23.heap.size) := Lib.hid hb.size
          have HRk23 := Lib.hid (HRk0.out.below HB23.out (Nat.le_refl _))
          have HRz23 := Lib.hid (HRz22.out.below hb (Nat.le_refl _))
          have HKz23 := Lib.hid ((hb.block _ (lt_of_block HKz22.out)).trans HKz22.out)
          have HBs19_23 : Hid (Below w19.heap.size w19 w23) := Lib.hid (HBs19_22.out.trans (hb.mono HBs19_22.out.size))
          clear hb
          obtain ⟨qap, qcp, rfl⟩ : ∃ a c, v = .slice a cs.length c := by obtain ⟨a, c, e, _⟩ := ho; exact ⟨a, c, e⟩
          have HRp23 := Lib.hid (ho)
          have HBs23_23 : Hid (Below w23.heap.size w23 w23) := Lib.hid (Below.refl _ _)
          clear ho
          clear cz0 cz1 cz2 fz0 fz1 fz2 ltz
          have ltz := lt_of_block HKz23.out
          obtain ⟨cz0, cz1, cz2, fz0, fz1, fz2⟩ := cell3 HKz23.out
          go_wp2_with fail
          have hb : Below w23.heap.size w23 (w23.alloc (.cells #[.int .i64 cu, .int .i64 cl, .slice qap cs.length qcp] 28)) := (Below.refl _ _).alloc (Nat.le_refl _) _
          have hk : (w23.alloc (.cells #[.int .i64 cu, .int .i64 cl, .slice qap cs.length qcp] 28)).heap[w23.heap.size]? = some (.cells #[.int .i64 cu, .int .i64 cl, .slice qap cs.length qcp] 28 (0, 0)) := alloc_at rfl
          have hz : (w23.alloc (.cells #[.int .i64 cu, .int .i64 cl, .slice qap cs.length qcp] 28)).heap.size = w23.heap.size + 1 := by simp
          generalize w23.alloc (.cells #[.int .i64 cu, .int .i64 cl, .slice qap cs.length qcp] 28) = w24 at hb hk hz ⊢
          have HB24 : Hid (Below w.heap.size w w24) := Lib.hid (HB23.out.trans (hb.mono HB23.out.size))
          have HZ24 : Hid (w23.heap.size ≤ w24.heap.size) := Lib.hid hb.size
          have HRk24 := Lib.hid (HRk0.out.below HB24.out (Nat.le_refl _))
          have HRz24 := Lib.hid (HRz23.out.below hb (Nat.le_refl _))
          have HKz24 := Lib.hid ((hb.block _ (lt_of_block HKz23.out)).trans HKz23.out)
          have HRp24 := Lib.hid (HRp23.out.below hb (Nat.le_refl _))
          have HBs19_24 : Hid (Below w19.heap.size w19 w24) := Lib.hid (HBs19_23.out.trans (hb.mono HBs19_23.out.size))
          have HBs23_24 : Hid (Below w23.heap.size w23 w24) := Lib.hid (HBs23_23.out.trans (hb.mono HBs23_23.out.size))
          have HKp24 := Lib.hid hk
          replace HZ24 : Hid (w23.heap.size < w24.heap.size) := Lib.hid (by omega)
          have HE24 := Lib.hid hz
          clear hb hk hz
          refine (HS5.out _ _ HRz24.out).mono ?_
          rintro e w25 ⟨⟨v, rfl, ho⟩, hb⟩
          have HB25 : Hid (Below w.heap.size w w25) := Lib.hid (HB24.out.trans (hb.mono HB24.out.size))
          have HZ25 : Hid (w24.heap.size ≤ w25.heap.size) := Lib.hid hb.size
          have HRk25 := Lib.hid (HRk0.out.below HB25.out (Nat.le_refl _))
          have HRz25 := Lib.hid (HRz24.out.below hb (Nat.le_refl _))
          have HKz25 := Lib.hid ((hb.block _ (lt_of_block HKz24.out)).trans HKz24.out)
          have HRp25 := Lib.hid (HRp24.out.below hb (Nat.le_refl _))
          have HKp25 := Lib.hid ((hb.block _ (lt_of_block HKp24.out)).trans HKp24.out)
          have HBs19_25 : Hid (Below w19.heap.size w19 w25) := Lib.hid (HBs19_24.out.trans (hb.mono HBs19_24.out.size))
          have HBs23_25 : Hid (Below w23.heap.size w23 w25) := Lib.hid (HBs23_24.out.trans (hb.mono HBs23_24.out.size))
          clear hb
          obtain ⟨qae, qce, rfl⟩ : ∃ a c, v = .slice a cs.length c := by obtain ⟨a, c, e, _⟩ := ho; exact ⟨a, c, e⟩
          have HRe25 := Lib.hid (ho)
          have HBs25_25 : Hid (Below w25.heap.size w25 w25) := Lib.hid (Below.refl _ _)
          clear ho
          clear cz0 cz1 cz2 fz0 fz1 fz2 ltz
          have ltz := lt_of_block HKz25.out
          obtain ⟨cz0, cz1, cz2, fz0, fz1, fz2⟩ := cell3 HKz25.out
          have ltp := lt_of_block HKp25.out
          obtain ⟨cp0, cp1, cp2, fp0, fp1, fp2⟩ := cell3 HKp25.out
          go_wp2_with fail
          have hb : Below w25.heap.size w25 (w25.alloc (.cells #[.int .i64 cu, .int .i64 cl, .slice qae cs.length qce] 28)) := (Below.refl _ _).alloc (Nat.le_refl _) _
          have hk : (w25.alloc (.cells #[.int .i64 cu, .int .i64 cl, .slice qae cs.length qce] 28)).heap[w25.heap.size]? = some (.cells #[.int .i64 cu, .int .i64 cl, .slice qae cs.length qce] 28 (0, 0)) := alloc_at rfl
          have hz : (w25.alloc (.cells #[.int .i64 cu, .int .i64 cl, .slice qae cs.length qce] 28)).heap.size = w25.heap.size + 1 := by simp
          generalize w25.alloc (.cells #[.int .i64 cu, .int .i64 cl, .slice qae cs.length qce] 28) = w26 at hb hk hz ⊢
          have HB26 : Hid (Below w.heap.size w w26) := Lib.hid (HB25.out.trans (hb.mono HB25.out.size))
          have HZ26 : Hid (w25.heap.size ≤ w26.heap.size) := Lib.hid hb.size
          have HRk26 := Lib.hid (HRk0.out.below HB26.out (Nat.le_refl _))
          have HRz26 := Lib.hid (HRz25.out.below hb (Nat.le_refl _))
          have HKz26 := Lib.hid ((hb.block _ (lt_of_block HKz25.out)).trans HKz25.out)
          have HRp26 := Lib.hid (HRp25.out.below hb (Nat.le_refl _))
          have HKp26 := Lib.hid ((hb.block _ (lt_of_block HKp25.out)).trans HKp25.out)
          have HRe26 := Lib.hid (HRe25.out.below hb (Nat.le_refl _))
          have HBs19_26 : Hid (Below w19.heap.size w19 w26) := Lib.hid (HBs19_25.out.trans (hb.mono HBs19_25.out.size))
          have HBs23_26 : Hid (Below w23.heap.size w23 w26) := Lib.hid (HBs23_25.out.trans (hb.mono HBs23_25.out.size))
          have HBs25_26 : Hid (Below w25.heap.size w25 w26) := Lib.hid (HBs25_25.out.trans (hb.mono HBs25_25.out.size))
          have HKe26 := Lib.hid hk
          replace HZ26 : Hid (w25.heap.size < w26.heap.size) := Lib.hid (by omega)
          have HE26 := Lib.hid hz
          clear hb hk hz
          refine (vFrame_yes cu cl _ _ cs _ HRp26.out HRe26.out).mono ?_
          rintro e w27 ⟨rfl, hb⟩
          have HB27 : Hid (Below w.heap.size w w27) := Lib.hid (HB26.out.trans (hb.mono HB26.out.size))
          have HZ27 : Hid (w26.heap.size ≤ w27.heap.size) := Lib.hid hb.size
          have HRk27 := Lib.hid (HRk0.out.below HB27.out (Nat.le_refl _))
          have HRz27 := Lib.hid (HRz26.out.below hb (Nat.le_refl _))
          have HKz27 := Lib.hid ((hb.block _ (lt_of_block HKz26.out)).trans HKz26.out)
          have HRp27 := Lib.hid (HRp26.out.below hb (Nat.le_refl _))
          have HKp27 := Lib.hid ((hb.block _ (lt_of_block HKp26.out)).trans HKp26.out)
          have HRe27 := Lib.hid (HRe26.out.below hb (Nat.le_refl _))
          have HKe27 := Lib.hid ((hb.block _ (lt_of_block HKe26.out)).trans HKe26.out)
          have HBs19_27 : Hid (Below w19.heap.size w19 w27) := Lib.hid (HBs19_26.out.trans (hb.mono HBs19_26.out.size))
          have HBs23_27 : Hid (Below w23.heap.size w23 w27) := Lib.hid (HBs23_26.out.trans (hb.mono HBs23_26.out.size))
          have HBs25_27 : Hid (Below w25.heap.size w25 w27) := Lib.hid (HBs25_26.out.trans (hb.mono HBs25_26.out.size))
          clear hb
          clear cz0 cz1 cz2 fz0 fz1 fz2 ltz cp0 cp1 cp2 fp0 fp1 fp2 ltp
          have ltz := lt_of_block HKz27.out
          obtain ⟨cz0, cz1, cz2, fz0, fz1, fz2⟩ := cell3 HKz27.out
          have ltp := lt_of_block HKp27.out
          obtain ⟨cp0, cp1, cp2, fp0, fp1, fp2⟩ := cell3 HKp27.out
          have lte := lt_of_block HKe27.out
          obtain ⟨ce0, ce1, ce2, fe0, fe1, fe2⟩ := cell3 HKe27.out
          go_wp2_with fail
          go_ret
          exact ⟨rfl, HB27.out⟩
    | false =>
      clear hy1 hv1
      clear ca0 ca1 ca2 fa0 fa1 fa2 lta
      have lta := lt_of_block HKa6.out
      obtain ⟨ca0, ca1, ca2, fa0, fa1, fa2⟩ := cell3 HKa6.out
      go_wp2_with fail
      refine (drawSetRod_any _ L _ HRk6.out).mono ?_
      rintro e w7 ⟨⟨xu, xl, xv, xs, q, d, rfl, ho, -⟩, hb⟩
      have HB7 : Hid (Below w.heap.size w w7) := Lib.hid (HB6.out.trans (hb.mono HB6.out.size))
      have HZ7 : Hid (w6.heap.size ≤ w7.heap.size) := Lib.hid hb.size
      have HRk7 := Lib.hid (HRk0.out.below HB7.out (Nat.le_refl _))
      clear hb
      obtain ⟨qax, qcx, rfl⟩ : ∃ a c, xv = .slice a xs.length c := by obtain ⟨a, c, e, _⟩ := ho; exact ⟨a, c, e⟩
      have HRx7 := Lib.hid (ho)
      have HBs7_7 : Hid (Below w7.heap.size w7 w7) := Lib.hid (Below.refl _ _)
      clear ho
      obtain ⟨su, sl, ss, b2, hS, hI, hy2⟩ := set_same xu xl xs q d
      obtain ⟨n2, b22, -, hI2, hv2⟩ := value_same su sl ss q
      have HS2 := Lib.hid hS
      have HI2 := Lib.hid hI
      have HI22 := Lib.hid hI2
      clear hS hI hI2
      have hb2 : (b2 != b2) = false := by simp
      clear ca0 ca1 ca2 fa0 fa1 fa2 lta
      go_wp2_with fail
      have hb : Below w7.heap.size w7 (w7.alloc (.cells #[.int .i64 xu, .int .i64 xl, .slice qax xs.length qcx] 28)) := (Below.refl _ _).alloc (Nat.le_refl _) _
      have hk : (w7.alloc (.cells #[.int .i64 xu, .int .i64 xl, .slice qax xs.length qcx] 28)).heap[w7.heap.size]? = some (.cells #[.int .i64 xu, .int .i64 xl, .slice qax xs.length qcx] 28 (0, 0)) := alloc_at rfl
      have hz : (w7.alloc (.cells #[.int .i64 xu, .int .i64 xl, .slice qax xs.length qcx] 28)).heap.size = w7.heap.size + 1 := by simp
      generalize w7.alloc (.cells #[.int .i64 xu, .int .i64 xl, .slice qax xs.length qcx] 28) = w8 at hb hk hz ⊢
      have HB8 : Hid (Below w.heap.size w w8) := Lib.hid (HB7.out.trans (hb.mono HB7.out.size))
      have HZ8 : Hid (w7.heap.size ≤ w8.heap.size) := Lib.hid hb.size
      have HRk8 := Lib.hid (HRk0.out.below HB8.out (Nat.le_refl _))
      have HRx8 := Lib.hid (HRx7.out.below hb (Nat.le_refl _))
      have HBs7_8 : Hid (Below w7.heap.size w7 w8) := Lib.hid (HBs7_7.out.trans (hb.mono HBs7_7.out.size))
      have HKx8 := Lib.hid hk
      replace HZ8 : Hid (w7.heap.size < w8.heap.size) := Lib.hid (by omega)
      have HE8 := Lib.hid hz
      clear hb hk hz
      refine (HI2.out _ _ HRx8.out).mono ?_
      rintro e w9 ⟨⟨v, rfl, ho⟩, hb⟩
      have HB9 : Hid (Below w.heap.size w w9) := Lib.hid (HB8.out.trans (hb.mono HB8.out.size))
      have HZ9 : Hid (w8.heap.size ≤ w9.heap.size) := Lib.hid hb.size
      have HRk9 := Lib.hid (HRk0.out.below HB9.out (Nat.le_refl _))
      have HRx9 := Lib.hid (HRx8.out.below hb (Nat.le_refl _))
      have HKx9 := Lib.hid ((hb.block _ (lt_of_block HKx8.out)).trans HKx8.out)
      have HBs7_9 : Hid (Below w7.heap.size w7 w9) := Lib.hid (HBs7_8.out.trans (hb.mono HBs7_8.out.size))
      clear hb
      obtain ⟨qas, qcs, rfl⟩ : ∃ a c, v = .slice a ss.length c := by obtain ⟨a, c, e, _⟩ := ho; exact ⟨a, c, e⟩
      have HRs9 := Lib.hid (ho)
      have HBs9_9 : Hid (Below w9.heap.size w9 w9) := Lib.hid (Below.refl _ _)
      clear ho
      have ltx := lt_of_block HKx9.out
      obtain ⟨cx0, cx1, cx2, fx0, fx1, fx2⟩ := cell3 HKx9.out
      go_wp2_with fail
      have hb : Below w9.heap.size w9 (w9.alloc (.cells #[.int .i64 su, .int .i64 sl, .slice qas ss.length qcs] 28)) := (Below.refl _ _).alloc (Nat.le_refl _) _
      have hk : (w9.alloc (.cells #[.int .i64 su, .int .i64 sl, .slice qas ss.length qcs] 28)).heap[w9.heap.size]? = some (.cells #[.int .i64 su, .int .i64 sl, .slice qas ss.length qcs] 28 (0, 0)) := alloc_at rfl
      have hz : (w9.alloc (.cells #[.int .i64 su, .int .i64 sl, .slice qas ss.length qcs] 28)).heap.size = w9.heap.size + 1 := by simp
      generalize w9.alloc (.cells #[.int .i64 su, .int .i64 sl, .slice qas ss.length qcs] 28) = w10 at hb hk hz ⊢
      have HB10 : Hid (Below w.heap.size w w10) := Lib.hid (HB9.out.trans (hb.mono HB9.out.size))
      have HZ10 : Hid (w9.heap.size ≤ w10.heap.size) := Lib.hid hb.size
      have HRk10 := Lib.hid (HRk0.out.below HB10.out (Nat.le_refl _))
      have HRx10 := Lib.hid (HRx9.out.below hb (Nat.le_refl _))
      have HKx10 := Lib.hid ((hb.block _ (lt_of_block HKx9.out)).trans HKx9.out)
      have HRs10 := Lib.hid (HRs9.out.below hb (Nat.le_refl _))
      have HBs7_10 : Hid (Below w7.heap.size w7 w10) := Lib.hid (HBs7_9.out.trans (hb.mono HBs7_9.out.size))
      have HBs9_10 : Hid (Below w9.heap.size w9 w10) := Lib.hid (HBs9_9.out.trans (hb.mono HBs9_9.out.size))
      have HKs10 := Lib.hid hk
      replace HZ10 : Hid (w9.heap.size < w10.heap.size) := Lib.hid (by omega)
      have HE10 := Lib.hid hz
      clear hb hk hz
      refine (HS2.out _ _ HRx10.out).mono ?_
      rintro e w11 ⟨⟨v, rfl, ho⟩, hb⟩
      have HB11 : Hid (Below w.heap.size w w11) := Lib.hid (HB10.out.trans (hb.mono HB10.out.size))
      have HZ11 : Hid (w10.heap.size ≤ w11.heap.size) := Lib.hid hb.size
      have HRk11 := Lib.hid (HRk0.out.below HB11.out (Nat.le_refl _))
      have HRx11 := Lib.hid (HRx10.out.below hb (Nat.le_refl _))
      have HKx11 := Lib.hid ((hb.block _ (lt_of_block HKx10.out)).trans HKx10.out)
      have HRs11 := Lib.hid (HRs10.out.below hb (Nat.le_refl _))
      have HKs11 := Lib.hid ((hb.block _ (lt_of_block HKs10.out)).trans HKs10.out)
      have HBs7_11 : Hid (Below w7.heap.size w7 w11) := Lib.hid (HBs7_10.out.trans (hb.mono HBs7_10.out.size))
      have HBs9_11 : Hid (Below w9.heap.size w9 w11) := Lib.hid (HBs9_10.out.trans (hb.mono HBs9_10.out.size))
      clear hb
      obtain ⟨qat, qct, rfl⟩ : ∃ a c, v = .slice a ss.length c := by obtain ⟨a, c, e, _⟩ := ho; exact ⟨a, c, e⟩
      have HRt11 := Lib.hid (ho)
      have HBs11_11 : Hid (Below w11.heap.size w11 w11) := Lib.hid (Below.refl _ _)
      clear ho
      clear cx0 cx1 cx2 fx0 fx1 fx2 ltx
      have ltx := lt_of_block HKx11.out
      obtain ⟨cx0, cx1, cx2, fx0, fx1, fx2⟩ := cell3 HKx11.out
      have lts := lt_of_block HKs11.out
      obtain ⟨cs0, cs1, cs2, fs0, fs1, fs2⟩ := cell3 HKs11.out
      go_wp2_with fail
      have hb : Below w11.heap.size w11 (w11.alloc (.cells #[.int .i64 su, .int .i64 sl, .slice qat ss.length qct] 28)) := (Below.refl _ _).alloc (Nat.le_refl _) _
      have hk : (w11.alloc (.cells #[.int .i64 su, .int .i64 sl, .slice qat ss.length qct] 28)).heap[w11.heap.size]? = some (.cells #[.int .i64 su, .int .i64 sl, .slice qat ss.length qct] 28 (0, 0)) := alloc_at rfl
      have hz : (w11.alloc (.cells #[.int .i64 su, .int .i64 sl, .slice qat ss.length qct] 28)).heap.size = w11.heap.size + 1 := by simp
      generalize w11.alloc (.cells #[.int .i64 su, .int .i64 sl, .slice qat ss.length qct] 28) = w12 at hb hk hz ⊢
      have HB12 : Hid (Below w.heap.size w w12) := Lib.hid (HB11.out.trans (hb.mono HB11.out.size))
      have HZ12 : Hid (w11.heap.size ≤ w12.heap.size) := Lib.hid hb.size
      have HRk12 := Lib.hid (HRk0.out.below HB12.out (Nat.le_refl _))
      have HRx12 := Lib.hid (HRx11.out.below hb (Nat.le_refl _))
      have HKx12 := Lib.hid ((hb.block _ (lt_of_block HKx11.out)).trans HKx11.out)
      have HRs12 := Lib.hid (HRs11.out.below hb (Nat.le_refl _))
      have HKs12 := Lib.hid ((hb.block _ (lt_of_block HKs11.out)).trans HKs11.out)
      have HRt12 := Lib.hid (HRt11.out.below hb (Nat.le_refl _))
      have HBs7_12 : Hid (Below w7.heap.size w7 w12) := Lib.hid (HBs7_11.out.trans (hb.mono HBs7_11.out.size))
      have HBs9_12 : Hid (Below w9.heap.size w9 w12) := Lib.hid (HBs9_11.out.trans (hb.mono HBs9_11.out.size))
      have HBs11_12 : Hid (Below w11.heap.size w11 w12) := Lib.hid (HBs11_11.out.trans (hb.mono HBs11_11.out.size))
      have HKt12 := Lib.hid hk
      replace HZ12 : Hid (w11.heap.size < w12.heap.size) := Lib.hid (by omega)
      have HE12 := Lib.hid hz
      clear hb hk hz
      refine (vFrame_yes su sl _ _ ss _ HRs12.out HRt12.out).mono ?_
      rintro e w13 ⟨rfl, hb⟩
      have HB13 : Hid (Below w.heap.size w w13) := Lib.hid (HB12.out.trans (hb.mono HB12.out.size))
      have HZ13 : Hid (w12.heap.size ≤ w13.heap.size) := Lib.hid hb.size
      have HRk13 := Lib.hid (HRk0.out.below HB13.out (Nat.le_refl _))
      have HRx13 := Lib.hid (HRx12.out.below hb (Nat.le_refl _))
      have HKx13 := Lib.hid ((hb.block _ (lt_of_block HKx12.out)).trans HKx12.out)
      have HRs13 := Lib.hid (HRs12.out.below hb (Nat.le_refl _))
      have HKs13 := Lib.hid ((hb.block _ (lt_of_block HKs12.out)).trans HKs12.out)
      have HRt13 := Lib.hid (HRt12.out.below hb (Nat.le_refl _))
      have HKt13 := Lib.hid ((hb.block _ (lt_of_block HKt12.out)).trans HKt12.out)
      have HBs7_13 : Hid (Below w7.heap.size w7 w13) := Lib.hid (HBs7_12.out.trans (hb.mono HBs7_12.out.size))
      have HBs9_13 : Hid (Below w9.heap.size w9 w13) := Lib.hid (HBs9_12.out.trans (hb.mono HBs9_12.out.size))
      have HBs11_13 : Hid (Below w11.heap.size w11 w13) := Lib.hid (HBs11_12.out.trans (hb.mono HBs11_12.out.size))
      clear hb
      cases b2 with
      | true =>
        obtain ⟨hg2, k, hk, rfl, hd2⟩ := hy2 rfl
        obtain ⟨rfl, rfl⟩ := hv2 hg2 k hk rfl
        obtain rfl := hd2
        clear hg2 hy2 hv2
        generalize valF ss[k] = dd at HI2 HI22 HS2 ⊢
        have hdd : (dd != dd) = false := by simp
        clear cx0 cx1 cx2 fx0 fx1 fx2 ltx cs0 cs1 cs2 fs0 fs1 fs2 lts
        have lts := lt_of_block HKs13.out
        obtain ⟨cs0, cs1, cs2, fs0, fs1, fs2⟩ := cell3 HKs13.out
        go_wp2_with fail
        refine (HI22.out _ _ HRs13.out).mono ?_
        rintro e w14 ⟨rfl, hb⟩
        have HB14 : Hid (Below w.heap.size w w14) := Lib.hid (HB13.out.trans (hb.mono HB13.out.size))
        have HZ14 : Hid (w13.heap.size ≤ w14.heap.size) := Lib.hid hb.size
        have HRk14 := Lib.hid (HRk0.out.below HB14.out (Nat.le_refl _))
        have HRs14 := Lib.hid (HRs13.out.below hb (Nat.le_refl _))
        have HKs14 := Lib.hid ((hb.block _ (lt_of_block HKs13.out)).trans HKs13.out)
        have HBs9_14 : Hid (Below w9.heap.size w9 w14) := Lib.hid (HBs9_13.out.trans (hb.mono HBs9_13.out.size))
        clear hb
        clear cs0 cs1 cs2 fs0 fs1 fs2 lts
        have lts := lt_of_block HKs14.out
        obtain ⟨cs0, cs1, cs2, fs0, fs1, fs2⟩ := cell3 HKs14.out
        go_wp2_with fail
        refine (drawRodValue_any _ L _ HRk14.out).mono ?_
        rintro e w15 ⟨⟨yu, yl, yv, ys, j, rfl, ho, -⟩, hb⟩
        have HB15 : Hid (Below w.heap.size w w15) := Lib.hid (HB14.out.trans (hb.mono HB14.out.size))
        have HZ15 : Hid (w14.heap.size ≤ w15.heap.size) := Lib.hid hb.size
        have HRk15 := Lib.hid (HRk0.out.below HB15.out (Nat.le_refl _))
        clear hb
        obtain ⟨qay, qcy, rfl⟩ : ∃ a c, yv = .slice a ys.length c := by obtain ⟨a, c, e, _⟩ := ho; exact ⟨a, c, e⟩
        have HRy15 := Lib.hid (ho)
        have HBs15_15 : Hid (Below w15.heap.size w15 w15) := Lib.hid (Below.refl _ _)
        clear ho
        obtain ⟨n3, b3, hS, hI, -⟩ := value_same yu yl ys j
        have HS3 := Lib.hid hS
        have HI3 := Lib.hid hI
        clear hS hI
        have hn33 : (n3 != n3) = false := by simp
        have hb33 : (b3 != b3) = false := by simp
        clear cs0 cs1 cs2 fs0 fs1 fs2 lts
        go_wp2_with fail
        have hb : Below w15.heap.size w15 (w15.alloc (.cells #[.int .i64 yu, .int .i64 yl, .slice qay ys.length qcy] 28)) := (Below.refl _ _).alloc (Nat.le_refl _) _
        have hk : (w15.alloc (.cells #[.int .i64 yu, .int .i64 yl, .slice qay ys.length qcy] 28)).heap[w15.heap.size]? = some (.cells #[.int .i64 yu, .int .i64 yl, .slice qay ys.length qcy] 28 (0, 0)) := alloc_at rfl
        have hz : (w15.alloc (.cells #[.int .i64 yu, .int .i64 yl, .slice qay ys.length qcy] 28)).heap.size = w15.heap.size + 1 := by simp
        generalize w15.alloc (.cells #[.int .i64 yu, .int .i64 yl, .slice qay ys.length qcy] 28) = w16 at hb hk hz ⊢
        have HB16 : Hid (Below w.heap.size w w16) := Lib.hid (HB15.out.trans (hb.mono HB15.out.size))
        have HZ16 : Hid (w15.heap.size ≤ w16.heap.size) := Lib.hid hb.size
        have HRk16 := Lib.hid (HRk0.out.below HB16.out (Nat.le_refl _))
        have HRy16 := Lib.hid (HRy15.out.below hb (Nat.le_refl _))
        have HBs15_16 : Hid (Below w15.heap.size w15 w16) := Lib.hid (HBs15_15.out.trans (hb.mono HBs15_15.out.size))
        have HKy16 := Lib.hid hk
        replace HZ16 : Hid (w15.heap.size < w16.heap.size) := Lib.hid (by omega)
        have HE16 := Lib.hid hz
        clear hb hk hz
        refine (HI3.out _ _ HRy16.out).mono ?_
        rintro e w17 ⟨rfl, hb⟩
        have HB17 : Hid (Below w.heap.size w w17) := Lib.hid (HB16.out.trans (hb.mono HB16.out.size))
        have HZ17 : Hid (w16.heap.size ≤ w17.heap.size) := Lib.hid hb.size
        have HRk17 := Lib.hid (HRk0.out.below HB17.out (Nat.le_refl _))
        have HRy17 := Lib.hid (HRy16.out.below hb (Nat.le_refl _))
        have HKy17 := Lib.hid ((hb.block _ (lt_of_block HKy16.out)).trans HKy16.out)
        have HBs15_17 : Hid (Below w15.heap.size w15 w17) := Lib.hid (HBs15_16.out.trans (hb.mono HBs15_16.out.size))
        clear hb
        have lty := lt_of_block HKy17.out
        obtain ⟨cy0, cy1, cy2, fy0, fy1, fy2⟩ := cell3 HKy17.out
        go_wp2_with fail
        refine (HS3.out _ _ HRy17.out).mono ?_
        rintro e w18 ⟨rfl, hb⟩
        have HB18 : Hid (Below w.heap.size w w18) := Lib.hid (HB17.out.trans (hb.mono HB17.out.size))
        have HZ18 : Hid (w17.heap.size ≤ w18.heap.size) := Lib.hid hb.size
        have HRk18 := Lib.hid (HRk0.out.below HB18.out (Nat.le_refl _))
        have HRy18 := Lib.hid (HRy17.out.below hb (Nat.le_refl _))
        have HKy18 := Lib.hid ((hb.block _ (lt_of_block HKy17.out)).trans HKy17.out)
        have HBs15_18 : Hid (Below w15.heap.size w15 w18) := Lib.hid (HBs15_17.out.trans (hb.mono HBs15_17.out.size))
        clear hb
        clear cy0 cy1 cy2 fy0 fy1 fy2 lty
        have lty := lt_of_block HKy18.out
        obtain ⟨cy0, cy1, cy2, fy0, fy1, fy2⟩ := cell3 HKy18.out
        go_wp2_with fail
        refine (drawNumberOn_any _ L _ HRk18.out).mono ?_
        rintro e w19 ⟨⟨zu, zl, zv, zs, rfl, ho, -⟩, hb⟩
        have HB19 : Hid (Below w.heap.size w w19) := Lib.hid (HB18.out.trans (hb.mono HB18.out.size))
        have HZ19 : Hid (w18.heap.size ≤ w19.heap.size) := Lib.hid hb.size
        have HRk19 := Lib.hid (HRk0.out.below HB19.out (Nat.le_refl _))
        clear hb
        obtain ⟨qaz, qcz, rfl⟩ : ∃ a c, zv = .slice a zs.length c := by obtain ⟨a, c, e, _⟩ := ho; exact ⟨a, c, e⟩
        have HRz19 := Lib.hid (ho)
        have HBs19_19 : Hid (Below w19.heap.size w19 w19) := Lib.hid (Below.refl _ _)
        clear ho
        obtain ⟨n4, b4, hS, hI, hy4, hn4⟩ := number_same zu zl zs
        obtain ⟨cu, cl, cs, b5, hS5, hI5, hy5, hn5⟩ := cleared_same zu zl zs
        obtain ⟨n6, b6, -, hI6, hy6, -⟩ := number_same cu cl cs
        have HS4 := Lib.hid hS
        have HI4 := Lib.hid hI
        have HS5 := Lib.hid hS5
        have HI5 := Lib.hid hI5
        have HI6 := Lib.hid hI6
        clear hS hI hS5 hI5 hI6
        have hn44 : (n4 != n4) = false := by simp
        by_cases hg : goodF zu zl zs
        · obtain ⟨-, rfl⟩ := hy4 hg
          obtain ⟨rfl, hg6, hz6⟩ := hy5 hg
          obtain ⟨rfl, rfl⟩ := hy6 hg6
          clear hy4 hn4 hy5 hn5 hy6 hg6 hg
          have HZ6 := Lib.hid hz6
          clear hz6
          generalize numF cs = n6 at HZ6 HI6
          obtain rfl : n6 = 0 := HZ6.out
          clear cy0 cy1 cy2 fy0 fy1 fy2 lty
          go_wp2_with fail
          have hb : Below w19.heap.size w19 (w19.alloc (.cells #[.int .i64 zu, .int .i64 zl, .slice qaz zs.length qcz] 28)) := (Below.refl _ _).alloc (Nat.le_refl _) _
          have hk : (w19.alloc (.cells #[.int .i64 zu, .int .i64 zl, .slice qaz zs.length qcz] 28)).heap[w19.heap.size]? = some (.cells #[.int .i64 zu, .int .i64 zl, .slice qaz zs.length qcz] 28 (0, 0)) := alloc_at rfl
          have hz : (w19.alloc (.cells #[.int .i64 zu, .int .i64 zl, .slice qaz zs.length qcz] 28)).heap.size = w19.heap.size + 1 := by simp
          generalize w19.alloc (.cells #[.int .i64 zu, .int .i64 zl, .slice qaz zs.length qcz] 28) = w20 at hb hk hz ⊢
          have HB20 : Hid (Below w.heap.size w w20) := Lib.hid (HB19.out.trans (hb.mono HB19.out.size))
          have HZ20 : Hid (w19.heap.size ≤ w20.heap.size) := Lib.hid hb.size
          have HRk20 := Lib.hid (HRk0.out.below HB20.out (Nat.le_refl _))
          have HRz20 := Lib.hid (HRz19.out.below hb (Nat.le_refl _))
          have HBs19_20 : Hid (Below w19.heap.size w19 w20) := Lib.hid (HBs19_19.out.trans (hb.mono HBs19_19.out.size))
          have HKz20 := Lib.hid hk
          replace HZ20 : Hid (w19.heap.size < w20.heap.size) := Lib.hid (by omega)
          have HE20 := Lib.hid hz
          clear hb hk hz
          refine (HI4.out _ _ HRz20.out).mono ?_
          rintro e w21 ⟨rfl, hb⟩
          have HB21 : Hid (Below w.heap.size w w21) := Lib.hid (HB20.out.trans (hb.mono HB20.out.size))
          have HZ21 : Hid (w20.heap.size ≤ w21.heap.size) := Lib.hid hb.size
          have HRk21 := Lib.hid (HRk0.out.below HB21.out (Nat.le_refl _))
          have HRz21 := Lib.hid (HRz20.out.below hb (Nat.le_refl _))
          have HKz21 := Lib.hid ((hb.block _ (lt_of_block HKz20.out)).trans HKz20.out)
          have HBs19_21 : Hid (Below w19.heap.size w19 w21) := Lib.hid (HBs19_20.out.trans (hb.mono HBs19_20.out.size))
          clear hb
          have ltz := lt_of_block HKz21.out
          obtain ⟨cz0, cz1, cz2, fz0, fz1, fz2⟩ := cell3 HKz21.out
          go_wp2_with fail
          refine (HS4.out _ _ HRz21.out).mono ?_
          rintro e w22 ⟨rfl, hb⟩
          have HB22 : Hid (Below w.heap.size w w22) := Lib.hid (HB21.out.trans (hb.mono HB21.out.size))
          have HZ22 : Hid (w21.heap.size ≤ w22.heap.size) := Lib.hid hb.size
          have HRk22 := Lib.hid (HRk0.out.below HB22.out (Nat.le_refl _))
          have HRz22 := Lib.hid (HRz21.out.below hb (Nat.le_refl _))
          have HKz22 := Lib.hid ((hb.block _ (lt_of_block HKz21.out)).trans HKz21.out)
          have HBs19_22 : Hid (Below w19.heap.size w19 w22) := Lib.hid (HBs19_21.out.trans (hb.mono HBs19_21.out.size))
          clear hb
          clear cz0 cz1 cz2 fz0 fz1 fz2 ltz
          have ltz := lt_of_block HKz22.out
          obtain ⟨cz0, cz1, cz2, fz0, fz1, fz2⟩ := cell3 HKz22.out
          go_wp2_with fail
          refine (HI5.out _ _ HRz22.out).mono ?_
          rintro e w23 ⟨⟨v, rfl, ho⟩, hb⟩
          have HB23 : Hid (Below w.heap.size w w23) := Lib.hid (HB22.out.trans (hb.mono HB22.out.size))
          have HZ23 : Hid (w22.heap.size ≤ w23.heap.size) := Lib.hid hb.size
          have HRk23 := Lib.hid (HRk0.out.below HB23.out (Nat.le_refl _))
          have HRz23 := Lib.hid (HRz22.out.below hb (Nat.le_refl _))
          have HKz23 := Lib.hid ((hb.block _ (lt_of_block HKz22.out)).trans HKz22.out)
          have HBs19_23 : Hid (Below w19.heap.size w19 w23) := Lib.hid (HBs19_22.out.trans (hb.mono HBs19_22.out.size))
          clear hb
          obtain ⟨qap, qcp, rfl⟩ : ∃ a c, v = .slice a cs.length c := by obtain ⟨a, c, e, _⟩ := ho; exact ⟨a, c, e⟩
          have HRp23 := Lib.hid (ho)
          have HBs23_23 : Hid (Below w23.heap.size w23 w23) := Lib.hid (Below.refl _ _)
          clear ho
          clear cz0 cz1 cz2 fz0 fz1 fz2 ltz
          have ltz := lt_of_block HKz23.out
          obtain ⟨cz0, cz1, cz2, fz0, fz1, fz2⟩ := cell3 HKz23.out
          go_wp2_with fail
          have hb : Below w23.heap.size w23 (w23.alloc (.cells #[.int .i64 cu, .int .i64 cl, .slice qap cs.length qcp] 28)) := (Below.refl _ _).alloc (Nat.le_refl _) _
          have hk : (w23.alloc (.cells #[.int .i64 cu, .int .i64 cl, .slice qap cs.length qcp] 28)).heap[w23.heap.size]? = some (.cells #[.int .i64 cu, .int .i64 cl, .slice qap cs.length qcp] 28 (0, 0)) := alloc_at rfl
          have hz : (w23.alloc (.cells #[.int .i64 cu, .int .i64 cl, .slice qap cs.length qcp] 28)).heap.size = w23.heap.size + 1 := by simp
          generalize w23.alloc (.cells #[.int .i64 cu, .int .i64 cl, .slice qap cs.length qcp] 28) = w24 at hb hk hz ⊢
          have HB24 : Hid (Below w.heap.size w w24) := Lib.hid (HB23.out.trans (hb.mono HB23.out.size))
          have HZ24 : Hid (w23.heap.size ≤ w24.heap.size) := Lib.hid hb.size
          have HRk24 := Lib.hid (HRk0.out.below HB24.out (Nat.le_refl _))
          have HRz24 := Lib.hid (HRz23.out.below hb (Nat.le_refl _))
          have HKz24 := Lib.hid ((hb.block _ (lt_of_block HKz23.out)).trans HKz23.out)
          have HRp24 := Lib.hid (HRp23.out.below hb (Nat.le_refl _))
          have HBs19_24 : Hid (Below w19.heap.size w19 w24) := Lib.hid (HBs19_23.out.trans (hb.mono HBs19_23.out.size))
          have HBs23_24 : Hid (Below w23.heap.size w23 w24) := Lib.hid (HBs23_23.out.trans (hb.mono HBs23_23.out.size))
          have HKp24 := Lib.hid hk
          replace HZ24 : Hid (w23.heap.size < w24.heap.size) := Lib.hid (by omega)
          have HE24 := Lib.hid hz
          clear hb hk hz
          refine (HS5.out _ _ HRz24.out).mono ?_
          rintro e w25 ⟨⟨v, rfl, ho⟩, hb⟩
          have HB25 : Hid (Below w.heap.size w w25) := Lib.hid (HB24.out.trans (hb.mono HB24.out.size))
          have HZ25 : Hid (w24.heap.size ≤ w25.heap.size) := Lib.hid hb.size
          have HRk25 := Lib.hid (HRk0.out.below HB25.out (Nat.le_refl _))
          have HRz25 := Lib.hid (HRz24.out.below hb (Nat.le_refl _))
          have HKz25 := Lib.hid ((hb.block _ (lt_of_block HKz24.out)).trans HKz24.out)
          have HRp25 := Lib.hid (HRp24.out.below hb (Nat.le_refl _))
          have HKp25 := Lib.hid ((hb.block _ (lt_of_block HKp24.out)).trans HKp24.out)
          have HBs19_25 : Hid (Below w19.heap.size w19 w25) := Lib.hid (HBs19_24.out.trans (hb.mono HBs19_24.out.size))
          have HBs23_25 : Hid (Below w23.heap.size w23 w25) := Lib.hid (HBs23_24.out.trans (hb.mono HBs23_24.out.size))
          clear hb
          obtain ⟨qae, qce, rfl⟩ : ∃ a c, v = .slice a cs.length c := by obtain ⟨a, c, e, _⟩ := ho; exact ⟨a, c, e⟩
          have HRe25 := Lib.hid (ho)
          have HBs25_25 : Hid (Below w25.heap.size w25 w25) := Lib.hid (Below.refl _ _)
          clear ho
          clear cz0 cz1 cz2 fz0 fz1 fz2 ltz
          have ltz := lt_of_block HKz25.out
          obtain ⟨cz0, cz1, cz2, fz0, fz1, fz2⟩ := cell3 HKz25.out
          have ltp := lt_of_block HKp25.out
          obtain ⟨cp0, cp1, cp2, fp0, fp1, fp2⟩ := cell3 HKp25.out
          go_wp2_with fail
          have hb : Below w25.heap.size w25 (w25.alloc (.cells #[.int .i64 cu, .int .i64 cl, .slice qae cs.length qce] 28)) := (Below.refl _ _).alloc (Nat.le_refl _) _
          have hk : (w25.alloc (.cells #[.int .i64 cu, .int .i64 cl, .slice qae cs.length qce] 28)).heap[w25.heap.size]? = some (.cells #[.int .i64 cu, .int .i64 cl, .slice qae cs.length qce] 28 (0, 0)) := alloc_at rfl
          have hz : (w25.alloc (.cells #[.int .i64 cu, .int .i64 cl, .slice qae cs.length qce] 28)).heap.size = w25.heap.size + 1 := by simp
          generalize w25.alloc (.cells #[.int .i64 cu, .int .i64 cl, .slice qae cs.length qce] 28) = w26 at hb hk hz ⊢
          have HB26 : Hid (Below w.heap.size w w26) := Lib.hid (HB25.out.trans (hb.mono HB25.out.size))
          have HZ26 : Hid (w25.heap.size ≤ w26.heap.size) := Lib.hid hb.size
          have HRk26 := Lib.hid (HRk0.out.below HB26.out (Nat.le_refl _))
          have HRz26 := Lib.hid (HRz25.out.below hb (Nat.le_refl _))
          have HKz26 := Lib.hid ((hb.block _ (lt_of_block HKz25.out)).trans HKz25.out)
          have HRp26 := Lib.hid (HRp25.out.below hb (Nat.le_refl _))
          have HKp26 := Lib.hid ((hb.block _ (lt_of_block HKp25.out)).trans HKp25.out)
          have HRe26 := Lib.hid (HRe25.out.below hb (Nat.le_refl _))
          have HBs19_26 : Hid (Below w19.heap.size w19 w26) := Lib.hid (HBs19_25.out.trans (hb.mono HBs19_25.out.size))
          have HBs23_26 : Hid (Below w23.heap.size w23 w26) := Lib.hid (HBs23_25.out.trans (hb.mono HBs23_25.out.size))
          have HBs25_26 : Hid (Below w25.heap.size w25 w26) := Lib.hid (HBs25_25.out.trans (hb.mono HBs25_25.out.size))
          have HKe26 := Lib.hid hk
          replace HZ26 : Hid (w25.heap.size < w26.heap.size) := Lib.hid (by omega)
          have HE26 := Lib.hid hz
          clear hb hk hz
          refine (vFrame_yes cu cl _ _ cs _ HRp26.out HRe26.out).mono ?_
          rintro e w27 ⟨rfl, hb⟩
          have HB27 : Hid (Below w.heap.size w w27) := Lib.hid (HB26.out.trans (hb.mono HB26.out.size))
          have HZ27 : Hid (w26.heap.size ≤ w27.heap.size) := Lib.hid hb.size
          have HRk27 := Lib.hid (HRk0.out.below HB27.out (Nat.le_refl _))
          have HRz27 := Lib.hid (HRz26.out.below hb (Nat.le_refl _))
          have HKz27 := Lib.hid ((hb.block _ (lt_of_block HKz26.out)).trans HKz26.out)
          have HRp27 := Lib.hid (HRp26.out.below hb (Nat.le_refl _))
          have HKp27 := Lib.hid ((hb.block _ (lt_of_block HKp26.out)).trans HKp26.out)
          have HRe27 := Lib.hid (HRe26.out.below hb (Nat.le_refl _))
          have HKe27 := Lib.hid ((hb.block _ (lt_of_block HKe26.out)).trans HKe26.out)
          have HBs19_27 : Hid (Below w19.heap.size w19 w27) := Lib.hid (HBs19_26.out.trans (hb.mono HBs19_26.out.size))
          have HBs23_27 : Hid (Below w23.heap.size w23 w27) := Lib.hid (HBs23_26.out.trans (hb.mono HBs23_26.out.size))
          have HBs25_27 : Hid (Below w25.heap.size w25 w27) := Lib.hid (HBs25_26.out.trans (hb.mono HBs25_26.out.size))
          clear hb
          clear cz0 cz1 cz2 fz0 fz1 fz2 ltz cp0 cp1 cp2 fp0 fp1 fp2 ltp
          have ltz := lt_of_block HKz27.out
          obtain ⟨cz0, cz1, cz2, fz0, fz1, fz2⟩ := cell3 HKz27.out
          have ltp := lt_of_block HKp27.out
          obtain ⟨cp0, cp1, cp2, fp0, fp1, fp2⟩ := cell3 HKp27.out
          have lte := lt_of_block HKe27.out
          obtain ⟨ce0, ce1, ce2, fe0, fe1, fe2⟩ := cell3 HKe27.out
          go_wp2_with fail
          refine (HI6.out _ _ HRp27.out).mono ?_
          rintro e w28 ⟨rfl, hb⟩
          have HB28 : Hid (Below w.heap.size w w28) := Lib.hid (HB27.out.trans (hb.mono HB27.out.size))
          have HZ28 : Hid (w27.heap.size ≤ w28.heap.size) := Lib.hid hb.size
          have HRk28 := Lib.hid (HRk0.out.below HB28.out (Nat.le_refl _))
          have HRz28 := Lib.hid (HRz27.out.below hb (Nat.le_refl _))
          have HKz28 := Lib.hid ((hb.block _ (lt_of_block HKz27.out)).trans HKz27.out)
          have HRp28 := Lib.hid (HRp27.out.below hb (Nat.le_refl _))
          have HKp28 := Lib.hid ((hb.block _ (lt_of_block HKp27.out)).trans HKp27.out)
          have HRe28 := Lib.hid (HRe27.out.below hb (Nat.le_refl _))
          have HKe28 := Lib.hid ((hb.block _ (lt_of_block HKe27.out)).trans HKe27.out)
          have HBs19_28 : Hid (Below w19.heap.size w19 w28) := Lib.hid (HBs19_27.out.trans (hb.mono HBs19_27.out.size))
          have HBs23_28 : Hid (Below w23.heap.size w23 w28) := Lib.hid (HBs23_27.out.trans (hb.mono HBs23_27.out.size))
          have HBs25_28 : Hid (Below w25.heap.size w25 w28) := Lib.hid (HBs25_27.out.trans (hb.mono HBs25_27.out.size))
          clear hb
          clear cz0 cz1 cz2 fz0 fz1 fz2 ltz cp0 cp1 cp2 fp0 fp1 fp2 ltp ce0 ce1 ce2 fe0 fe1 fe2 lte
          have ltz := lt_of_block HKz28.out
          obtain ⟨cz0, cz1, cz2, fz0, fz1, fz2⟩ := cell3 HKz28.out
          have ltp := lt_of_block HKp28.out
          obtain ⟨cp0, cp1, cp2, fp0, fp1, fp2⟩ := cell3 HKp28.out
          have lte := lt_of_block HKe28.out
          obtain ⟨ce0, ce1, ce2, fe0, fe1, fe2⟩ := cell3 HKe28.out
          go_wp2_with fail
          go_ret
          exact ⟨rfl, HB28.out⟩
        · obtain rfl := hn4 hg
          obtain rfl := hn5 hg
          clear hy4 hn4 hy5 hn5 hy6 hg
          clear cy0 cy1 cy2 fy0 fy1 fy2 lty
          go_wp2_with fail
          have hb : Below w19.heap.size w19 (w19.alloc (.cells #[.int .i64 zu, .int .i64 zl, .slice qaz zs.length qcz] 28)) := (Below.refl _ _).alloc (Nat.le_refl _) _
          have hk : (w19.alloc (.cells #[.int .i64 zu, .int .i64 zl, .slice qaz zs.length qcz] 28)).heap[w19.heap.size]? = some (.cells #[.int .i64 zu, .int .i64 zl, .slice qaz zs.length qcz] 28 (0, 0)) := alloc_at rfl
          have hz : (w19.alloc (.cells #[.int .i64 zu, .int .i64 zl, .slice qaz zs.length qcz] 28)).heap.size = w19.heap.size + 1 := by simp
          generalize w19.alloc (.cells #[.int .i64 zu, .int .i64 zl, .slice qaz zs.length qcz] 28) = w20 at hb hk hz ⊢
          have HB20 : Hid (Below w.heap.size w w20) := Lib.hid (HB19.out.trans (hb.mono HB19.out.size))
          have HZ20 : Hid (w19.heap.size ≤ w20.heap.size) := Lib.hid hb.size
          have HRk20 := Lib.hid (HRk0.out.below HB20.out (Nat.le_refl _))
          have HRz20 := Lib.hid (HRz19.out.below hb (Nat.le_refl _))
          have HBs19_20 : Hid (Below w19.heap.size w19 w20) := Lib.hid (HBs19_19.out.trans (hb.mono HBs19_19.out.size))
          have HKz20 := Lib.hid hk
          replace HZ20 : Hid (w19.heap.size < w20.heap.size) := Lib.hid (by omega)
          have HE20 := Lib.hid hz
          clear hb hk hz
          refine (HI4.out _ _ HRz20.out).mono ?_
          rintro e w21 ⟨rfl, hb⟩
          have HB21 : Hid (Below w.heap.size w w21) := Lib.hid (HB20.out.trans (hb.mono HB20.out.size))
          have HZ21 : Hid (w20.heap.size ≤ w21.heap.size) := Lib.hid hb.size
          have HRk21 := Lib.hid (HRk0.out.below HB21.out (Nat.le_refl _))
          have HRz21 := Lib.hid (HRz20.out.below hb (Nat.le_refl _))
          have HKz21 := Lib.hid ((hb.block _ (lt_of_block HKz20.out)).trans HKz20.out)
          have HBs19_21 : Hid (Below w19.heap.size w19 w21) := Lib.hid (HBs19_20.out.trans (hb.mono HBs19_20.out.size))
          clear hb
          have ltz := lt_of_block HKz21.out
          obtain ⟨cz0, cz1, cz2, fz0, fz1, fz2⟩ := cell3 HKz21.out
          go_wp2_with fail
          refine (HS4.out _ _ HRz21.out).mono ?_
          rintro e w22 ⟨rfl, hb⟩
          have HB22 : Hid (Below w.heap.size w w22) := Lib.hid (HB21.out.trans (hb.mono HB21.out.size))
          have HZ22 : Hid (w21.heap.size ≤ w22.heap.size) := Lib.hid hb.size
          have HRk22 := Lib.hid (HRk0.out.below HB22.out (Nat.le_refl _))
          have HRz22 := Lib.hid (HRz21.out.below hb (Nat.le_refl _))
          have HKz22 := Lib.hid ((hb.block _ (lt_of_block HKz21.out)).trans HKz21.out)
          have HBs19_22 : Hid (Below w19.heap.size w19 w22) := Lib.hid (HBs19_21.out.trans (hb.mono HBs19_21.out.size))
          clear hb
          clear cz0 cz1 cz2 fz0 fz1 fz2 ltz
          have ltz := lt_of_block HKz22.out
          obtain ⟨cz0, cz1, cz2, fz0, fz1, fz2⟩ := cell3 HKz22.out
          go_wp2_with fail
          refine (HI5.out _ _ HRz22.out).mono ?_
          rintro e w23 ⟨⟨v, rfl, ho⟩, hb⟩
          have HB23 : Hid (Below w.heap.size w w23) := Lib.hid (HB22.out.trans (hb.mono HB22.out.size))
          have HZ23 : Hid (w22.heap.size ≤ w23.heap.size) := Lib.hid hb.size
          have HRk23 := Lib.hid (HRk0.out.below HB23.out (Nat.le_refl _))
          have HRz23 := Lib.hid (HRz22.out.below hb (Nat.le_refl _))
          have HKz23 := Lib.hid ((hb.block _ (lt_of_block HKz22.out)).trans HKz22.out)
          have HBs19_23 : Hid (Below w19.heap.size w19 w23) := Lib.hid (HBs19_22.out.trans (hb.mono HBs19_22.out.size))
          clear hb
          obtain ⟨qap, qcp, rfl⟩ : ∃ a c, v = .slice a cs.length c := by obtain ⟨a, c, e, _⟩ := ho; exact ⟨a, c, e⟩
          have HRp23 := Lib.hid (ho)
          have HBs23_23 : Hid (Below w23.heap.size w23 w23) := Lib.hid (Below.refl _ _)
          clear ho
          clear cz0 cz1 cz2 fz0 fz1 fz2 ltz
          have ltz := lt_of_block HKz23.out
          obtain ⟨cz0, cz1, cz2, fz0, fz1, fz2⟩ := cell3 HKz23.out
          go_wp2_with fail
          have hb : Below w23.heap.size w23 (w23.alloc (.cells #[.int .i64 cu, .int .i64 cl, .slice qap cs.length qcp] 28)) := (Below.refl _ _).alloc (Nat.le_refl _) _
          have hk : (w23.alloc (.cells #[.int .i64 cu, .int .i64 cl, .slice qap cs.length qcp] 28)).heap[w23.heap.size]? = some (.cells #[.int .i64 cu, .int .i64 cl, .slice qap cs.length qcp] 28 (0, 0)) := alloc_at rfl
          have hz : (w23.alloc (.cells #[.int .i64 cu, .int .i64 cl, .slice qap cs.length qcp] 28)).heap.size = w23.heap.size + 1 := by simp
          generalize w23.alloc (.cells #[.int .i64 cu, .int .i64 cl, .slice qap cs.length qcp] 28) = w24 at hb hk hz ⊢
          have HB24 : Hid (Below w.heap.size w w24) := Lib.hid (HB23.out.trans (hb.mono HB23.out.size))
          have HZ24 : Hid (w23.heap.size ≤ w24.heap.size) := Lib.hid hb.size
          have HRk24 := Lib.hid (HRk0.out.below HB24.out (Nat.le_refl _))
          have HRz24 := Lib.hid (HRz23.out.below hb (Nat.le_refl _))
          have HKz24 := Lib.hid ((hb.block _ (lt_of_block HKz23.out)).trans HKz23.out)
          have HRp24 := Lib.hid (HRp23.out.below hb (Nat.le_refl _))
          have HBs19_24 : Hid (Below w19.heap.size w19 w24) := Lib.hid (HBs19_23.out.trans (hb.mono HBs19_23.out.size))
          have HBs23_24 : Hid (Below w23.heap.size w23 w24) := Lib.hid (HBs23_23.out.trans (hb.mono HBs23_23.out.size))
          have HKp24 := Lib.hid hk
          replace HZ24 : Hid (w23.heap.size < w24.heap.size) := Lib.hid (by omega)
          have HE24 := Lib.hid hz
          clear hb hk hz
          refine (HS5.out _ _ HRz24.out).mono ?_
          rintro e w25 ⟨⟨v, rfl, ho⟩, hb⟩
          have HB25 : Hid (Below w.heap.size w w25) := Lib.hid (HB24.out.trans (hb.mono HB24.out.size))
          have HZ25 : Hid (w24.heap.size ≤ w25.heap.size) := Lib.hid hb.size
          have HRk25 := Lib.hid (HRk0.out.below HB25.out (Nat.le_refl _))
          have HRz25 := Lib.hid (HRz24.out.below hb (Nat.le_refl _))
          have HKz25 := Lib.hid ((hb.block _ (lt_of_block HKz24.out)).trans HKz24.out)
          have HRp25 := Lib.hid (HRp24.out.below hb (Nat.le_refl _))
          have HKp25 := Lib.hid ((hb.block _ (lt_of_block HKp24.out)).trans HKp24.out)
          have HBs19_25 : Hid (Below w19.heap.size w19 w25) := Lib.hid (HBs19_24.out.trans (hb.mono HBs19_24.out.size))
          have HBs23_25 : Hid (Below w23.heap.size w23 w25) := Lib.hid (HBs23_24.out.trans (hb.mono HBs23_24.out.size))
          clear hb
          obtain ⟨qae, qce, rfl⟩ : ∃ a c, v = .slice a cs.length c := by obtain ⟨a, c, e, _⟩ := ho; exact ⟨a, c, e⟩
          have HRe25 := Lib.hid (ho)
          have HBs25_25 : Hid (Below w25.heap.size w25 w25) := Lib.hid (Below.refl _ _)
          clear ho
          clear cz0 cz1 cz2 fz0 fz1 fz2 ltz
          have ltz := lt_of_block HKz25.out
          obtain ⟨cz0, cz1, cz2, fz0, fz1, fz2⟩ := cell3 HKz25.out
          have ltp := lt_of_block HKp25.out
          obtain ⟨cp0, cp1, cp2, fp0, fp1, fp2⟩ := cell3 HKp25.out
          go_wp2_with fail
          have hb : Below w25.heap.size w25 (w25.alloc (.cells #[.int .i64 cu, .int .i64 cl, .slice qae cs.length qce] 28)) := (Below.refl _ _).alloc (Nat.le_refl _) _
          have hk : (w25.alloc (.cells #[.int .i64 cu, .int .i64 cl, .slice qae cs.length qce] 28)).heap[w25.heap.size]? = some (.cells #[.int .i64 cu, .int .i64 cl, .slice qae cs.length qce] 28 (0, 0)) := alloc_at rfl
          have hz : (w25.alloc (.cells #[.int .i64 cu, .int .i64 cl, .slice qae cs.length qce] 28)).heap.size = w25.heap.size + 1 := by simp
          generalize w25.alloc (.cells #[.int .i64 cu, .int .i64 cl, .slice qae cs.length qce] 28) = w26 at hb hk hz ⊢
          have HB26 : Hid (Below w.heap.size w w26) := Lib.hid (HB25.out.trans (hb.mono HB25.out.size))
          have HZ26 : Hid (w25.heap.size ≤ w26.heap.size) := Lib.hid hb.size
          have HRk26 := Lib.hid (HRk0.out.below HB26.out (Nat.le_refl _))
          have HRz26 := Lib.hid (HRz25.out.below hb (Nat.le_refl _))
          have HKz26 := Lib.hid ((hb.block _ (lt_of_block HKz25.out)).trans HKz25.out)
          have HRp26 := Lib.hid (HRp25.out.below hb (Nat.le_refl _))
          have HKp26 := Lib.hid ((hb.block _ (lt_of_block HKp25.out)).trans HKp25.out)
          have HRe26 := Lib.hid (HRe25.out.below hb (Nat.le_refl _))
          have HBs19_26 : Hid (Below w19.heap.size w19 w26) := Lib.hid (HBs19_25.out.trans (hb.mono HBs19_25.out.size))
          have HBs23_26 : Hid (Below w23.heap.size w23 w26) := Lib.hid (HBs23_25.out.trans (hb.mono HBs23_25.out.size))
          have HBs25_26 : Hid (Below w25.heap.size w25 w26) := Lib.hid (HBs25_25.out.trans (hb.mono HBs25_25.out.size))
          have HKe26 := Lib.hid hk
          replace HZ26 : Hid (w25.heap.size < w26.heap.size) := Lib.hid (by omega)
          have HE26 := Lib.hid hz
          clear hb hk hz
          refine (vFrame_yes cu cl _ _ cs _ HRp26.out HRe26.out).mono ?_
          rintro e w27 ⟨rfl, hb⟩
          have HB27 : Hid (Below w.heap.size w w27) := Lib.hid (HB26.out.trans (hb.mono HB26.out.size))
          have HZ27 : Hid (w26.heap.size ≤ w27.heap.size) := Lib.hid hb.size
          have HRk27 := Lib.hid (HRk0.out.below HB27.out (Nat.le_refl _))
          have HRz27 := Lib.hid (HRz26.out.below hb (Nat.le_refl _))
          have HKz27 := Lib.hid ((hb.block _ (lt_of_block HKz26.out)).trans HKz26.out)
          have HRp27 := Lib.hid (HRp26.out.below hb (Nat.le_refl _))
          have HKp27 := Lib.hid ((hb.block _ (lt_of_block HKp26.out)).trans HKp26.out)
          have HRe27 := Lib.hid (HRe26.out.below hb (Nat.le_refl _))
          have HKe27 := Lib.hid ((hb.block _ (lt_of_block HKe26.out)).trans HKe26.out)
          have HBs19_27 : Hid (Below w19.heap.size w19 w27) := Lib.hid (HBs19_26.out.trans (hb.mono HBs19_26.out.size))
          have HBs23_27 : Hid (Below w23.heap.size w23 w27) := Lib.hid (HBs23_26.out.trans (hb.mono HBs23_26.out.size))
          have HBs25_27 : Hid (Below w25.heap.size w25 w27) := Lib.hid (HBs25_26.out.trans (hb.mono HBs25_26.out.size))
          clear hb
          clear cz0 cz1 cz2 fz0 fz1 fz2 ltz cp0 cp1 cp2 fp0 fp1 fp2 ltp
          have ltz := lt_of_block HKz27.out
          obtain ⟨cz0, cz1, cz2, fz0, fz1, fz2⟩ := cell3 HKz27.out
          have ltp := lt_of_block HKp27.out
          obtain ⟨cp0, cp1, cp2, fp0, fp1, fp2⟩ := cell3 HKp27.out
          have lte := lt_of_block HKe27.out
          obtain ⟨ce0, ce1, ce2, fe0, fe1, fe2⟩ := cell3 HKe27.out
          go_wp2_with fail
          go_ret
          exact ⟨rfl, HB27.out⟩
      | false =>
        clear hy2 hv2
        clear cx0 cx1 cx2 fx0 fx1 fx2 ltx cs0 cs1 cs2 fs0 fs1 fs2 lts
        have lts := lt_of_block HKs13.out
        obtain ⟨cs0, cs1, cs2, fs0, fs1, fs2⟩ := cell3 HKs13.out
        go_wp2_with fail
        refine (drawRodValue_any _ L _ HRk13.out).mono ?_
        rintro e w14 ⟨⟨yu, yl, yv, ys, j, rfl, ho, -⟩, hb⟩
        have HB14 : Hid (Below w.heap.size w w14) := Lib.hid (HB13.out.trans (hb.mono HB13.out.size))
        have HZ14 : Hid (w13.heap.size ≤ w14.heap.size) := Lib.hid hb.size
        have HRk14 := Lib.hid (HRk0.out.below HB14.out (Nat.le_refl _))
        clear hb
        obtain ⟨qay, qcy, rfl⟩ : ∃ a c, yv = .slice a ys.length c := by obtain ⟨a, c, e, _⟩ := ho; exact ⟨a, c, e⟩
        have HRy14 := Lib.hid (ho)
        have HBs14_14 : Hid (Below w14.heap.size w14 w14) := Lib.hid (Below.refl _ _)
        clear ho
        obtain ⟨n3, b3, hS, hI, -⟩ := value_same yu yl ys j
        have HS3 := Lib.hid hS
        have HI3 := Lib.hid hI
        clear hS hI
        have hn33 : (n3 != n3) = false := by simp
        have hb33 : (b3 != b3) = false := by simp
        clear cs0 cs1 cs2 fs0 fs1 fs2 lts
        go_wp2_with fail
        have hb : Below w14.heap.size w14 (w14.alloc (.cells #[.int .i64 yu, .int .i64 yl, .slice qay ys.length qcy] 28)) := (Below.refl _ _).alloc (Nat.le_refl _) _
        have hk : (w14.alloc (.cells #[.int .i64 yu, .int .i64 yl, .slice qay ys.length qcy] 28)).heap[w14.heap.size]? = some (.cells #[.int .i64 yu, .int .i64 yl, .slice qay ys.length qcy] 28 (0, 0)) := alloc_at rfl
        have hz : (w14.alloc (.cells #[.int .i64 yu, .int .i64 yl, .slice qay ys.length qcy] 28)).heap.size = w14.heap.size + 1 := by simp
        generalize w14.alloc (.cells #[.int .i64 yu, .int .i64 yl, .slice qay ys.length qcy] 28) = w15 at hb hk hz ⊢
        have HB15 : Hid (Below w.heap.size w w15) := Lib.hid (HB14.out.trans (hb.mono HB14.out.size))
        have HZ15 : Hid (w14.heap.size ≤ w15.heap.size) := Lib.hid hb.size
        have HRk15 := Lib.hid (HRk0.out.below HB15.out (Nat.le_refl _))
        have HRy15 := Lib.hid (HRy14.out.below hb (Nat.le_refl _))
        have HBs14_15 : Hid (Below w14.heap.size w14 w15) := Lib.hid (HBs14_14.out.trans (hb.mono HBs14_14.out.size))
        have HKy15 := Lib.hid hk
        replace HZ15 : Hid (w14.heap.size < w15.heap.size) := Lib.hid (by omega)
        have HE15 := Lib.hid hz
        clear hb hk hz
        refine (HI3.out _ _ HRy15.out).mono ?_
        rintro e w16 ⟨rfl, hb⟩
        have HB16 : Hid (Below w.heap.size w w16) := Lib.hid (HB15.out.trans (hb.mono HB15.out.size))
        have HZ16 : Hid (w15.heap.size ≤ w16.heap.size) := Lib.hid hb.size
        have HRk16 := Lib.hid (HRk0.out.below HB16.out (Nat.le_refl _))
        have HRy16 := Lib.hid (HRy15.out.below hb (Nat.le_refl _))
        have HKy16 := Lib.hid ((hb.block _ (lt_of_block HKy15.out)).trans HKy15.out)
        have HBs14_16 : Hid (Below w14.heap.size w14 w16) := Lib.hid (HBs14_15.out.trans (hb.mono HBs14_15.out.size))
        clear hb
        have lty := lt_of_block HKy16.out
        obtain ⟨cy0, cy1, cy2, fy0, fy1, fy2⟩ := cell3 HKy16.out
        go_wp2_with fail
        refine (HS3.out _ _ HRy16.out).mono ?_
        rintro e w17 ⟨rfl, hb⟩
        have HB17 : Hid (Below w.heap.size w w17) := Lib.hid (HB16.out.trans (hb.mono HB16.out.size))
        have HZ17 : Hid (w16.heap.size ≤ w17.heap.size) := Lib.hid hb.size
        have HRk17 := Lib.hid (HRk0.out.below HB17.out (Nat.le_refl _))
        have HRy17 := Lib.hid (HRy16.out.below hb (Nat.le_refl _))
        have HKy17 := Lib.hid ((hb.block _ (lt_of_block HKy16.out)).trans HKy16.out)
        have HBs14_17 : Hid (Below w14.heap.size w14 w17) := Lib.hid (HBs14_16.out.trans (hb.mono HBs14_16.out.size))
        clear hb
        clear cy0 cy1 cy2 fy0 fy1 fy2 lty
        have lty := lt_of_block HKy17.out
        obtain ⟨cy0, cy1, cy2, fy0, fy1, fy2⟩ := cell3 HKy17.out
        go_wp2_with fail
        refine (drawNumberOn_any _ L _ HRk17.out).mono ?_
        rintro e w18 ⟨⟨zu, zl, zv, zs, rfl, ho, -⟩, hb⟩
        have HB18 : Hid (Below w.heap.size w w18) := Lib.hid (HB17.out.trans (hb.mono HB17.out.size))
        have HZ18 : Hid (w17.heap.size ≤ w18.heap.size) := Lib.hid hb.size
        have HRk18 := Lib.hid (HRk0.out.below HB18.out (Nat.le_refl _))
        clear hb
        obtain ⟨qaz, qcz, rfl⟩ : ∃ a c, zv = .slice a zs.length c := by obtain ⟨a, c, e, _⟩ := ho; exact ⟨a, c, e⟩
        have HRz18 := Lib.hid (ho)
        have HBs18_18 : Hid (Below w18.heap.size w18 w18) := Lib.hid (Below.refl _ _)
        clear ho
        obtain ⟨n4, b4, hS, hI, hy4, hn4⟩ := number_same zu zl zs
        obtain ⟨cu, cl, cs, b5, hS5, hI5, hy5, hn5⟩ := cleared_same zu zl zs
        obtain ⟨n6, b6, -, hI6, hy6, -⟩ := number_same cu cl cs
        have HS4 := Lib.hid hS
        have HI4 := Lib.hid hI
        have HS5 := Lib.hid hS5
        have HI5 := Lib.hid hI5
        have HI6 := Lib.hid hI6
        clear hS hI hS5 hI5 hI6
        have hn44 : (n4 != n4) = false := by simp
        by_cases hg : goodF zu zl zs
        · obtain ⟨-, rfl⟩ := hy4 hg
          obtain ⟨rfl, hg6, hz6⟩ := hy5 hg
          obtain ⟨rfl, rfl⟩ := hy6 hg6
          clear hy4 hn4 hy5 hn5 hy6 hg6 hg
          have HZ6 := Lib.hid hz6
          clear hz6
          generalize numF cs = n6 at HZ6 HI6
          obtain rfl : n6 = 0 := HZ6.out
          clear cy0 cy1 cy2 fy0 fy1 fy2 lty
          go_wp2_with fail
          have hb : Below w18.heap.size w18 (w18.alloc (.cells #[.int .i64 zu, .int .i64 zl, .slice qaz zs.length qcz] 28)) := (Below.refl _ _).alloc (Nat.le_refl _) _
          have hk : (w18.alloc (.cells #[.int .i64 zu, .int .i64 zl, .slice qaz zs.length qcz] 28)).heap[w18.heap.size]? = some (.cells #[.int .i64 zu, .int .i64 zl, .slice qaz zs.length qcz] 28 (0, 0)) := alloc_at rfl
          have hz : (w18.alloc (.cells #[.int .i64 zu, .int .i64 zl, .slice qaz zs.length qcz] 28)).heap.size = w18.heap.size + 1 := by simp
          generalize w18.alloc (.cells #[.int .i64 zu, .int .i64 zl, .slice qaz zs.length qcz] 28) = w19 at hb hk hz ⊢
          have HB19 : Hid (Below w.heap.size w w19) := Lib.hid (HB18.out.trans (hb.mono HB18.out.size))
          have HZ19 : Hid (w18.heap.size ≤ w19.heap.size) := Lib.hid hb.size
          have HRk19 := Lib.hid (HRk0.out.below HB19.out (Nat.le_refl _))
          have HRz19 := Lib.hid (HRz18.out.below hb (Nat.le_refl _))
          have HBs18_19 : Hid (Below w18.heap.size w18 w19) := Lib.hid (HBs18_18.out.trans (hb.mono HBs18_18.out.size))
          have HKz19 := Lib.hid hk
          replace HZ19 : Hid (w18.heap.size < w19.heap.size) := Lib.hid (by omega)
          have HE19 := Lib.hid hz
          clear hb hk hz
          refine (HI4.out _ _ HRz19.out).mono ?_
          rintro e w20 ⟨rfl, hb⟩
          have HB20 : Hid (Below w.heap.size w w20) := Lib.hid (HB19.out.trans (hb.mono HB19.out.size))
          have HZ20 : Hid (w19.heap.size ≤ w20.heap.size) := Lib.hid hb.size
          have HRk20 := Lib.hid (HRk0.out.below HB20.out (Nat.le_refl _))
          have HRz20 := Lib.hid (HRz19.out.below hb (Nat.le_refl _))
          have HKz20 := Lib.hid ((hb.block _ (lt_of_block HKz19.out)).trans HKz19.out)
          have HBs18_20 : Hid (Below w18.heap.size w18 w20) := Lib.hid (HBs18_19.out.trans (hb.mono HBs18_19.out.size))
          clear hb
          have ltz := lt_of_block HKz20.out
          obtain ⟨cz0, cz1, cz2, fz0, fz1, fz2⟩ := cell3 HKz20.out
          go_wp2_with fail
          refine (HS4.out _ _ HRz20.out).mono ?_
          rintro e w21 ⟨rfl, hb⟩
          have HB21 : Hid (Below w.heap.size w w21) := Lib.hid (HB20.out.trans (hb.mono HB20.out.size))
          have HZ21 : Hid (w20.heap.size ≤ w21.heap.size) := Lib.hid hb.size
          have HRk21 := Lib.hid (HRk0.out.below HB21.out (Nat.le_refl _))
          have HRz21 := Lib.hid (HRz20.out.below hb (Nat.le_refl _))
          have HKz21 := Lib.hid ((hb.block _ (lt_of_block HKz20.out)).trans HKz20.out)
          have HBs18_21 : Hid (Below w18.heap.size w18 w21) := Lib.hid (HBs18_20.out.trans (hb.mono HBs18_20.out.size))
          clear hb
          clear cz0 cz1 cz2 fz0 fz1 fz2 ltz
          have ltz := lt_of_block HKz21.out
          obtain ⟨cz0, cz1, cz2, fz0, fz1, fz2⟩ := cell3 HKz21.out
          go_wp2_with fail
          refine (HI5.out _ _ HRz21.out).mono ?_
          rintro e w22 ⟨⟨v, rfl, ho⟩, hb⟩
          have HB22 : Hid (Below w.heap.size w w22) := Lib.hid (HB21.out.trans (hb.mono HB21.out.size))
          have HZ22 : Hid (w21.heap.size ≤ w22.heap.size) := Lib.hid hb.size
          have HRk22 := Lib.hid (HRk0.out.below HB22.out (Nat.le_refl _))
          have HRz22 := Lib.hid (HRz21.out.below hb (Nat.le_refl _))
          have HKz22 := Lib.hid ((hb.block _ (lt_of_block HKz21.out)).trans HKz21.out)
          have HBs18_22 : Hid (Below w18.heap.size w18 w22) := Lib.hid (HBs18_21.out.trans (hb.mono HBs18_21.out.size))
          clear hb
          obtain ⟨qap, qcp, rfl⟩ : ∃ a c, v = .slice a cs.length c := by obtain ⟨a, c, e, _⟩ := ho; exact ⟨a, c, e⟩
          have HRp22 := Lib.hid (ho)
          have HBs22_22 : Hid (Below w22.heap.size w22 w22) := Lib.hid (Below.refl _ _)
          clear ho
          clear cz0 cz1 cz2 fz0 fz1 fz2 ltz
          have ltz := lt_of_block HKz22.out
          obtain ⟨cz0, cz1, cz2, fz0, fz1, fz2⟩ := cell3 HKz22.out
          go_wp2_with fail
          have hb : Below w22.heap.size w22 (w22.alloc (.cells #[.int .i64 cu, .int .i64 cl, .slice qap cs.length qcp] 28)) := (Below.refl _ _).alloc (Nat.le_refl _) _
          have hk : (w22.alloc (.cells #[.int .i64 cu, .int .i64 cl, .slice qap cs.length qcp] 28)).heap[w22.heap.size]? = some (.cells #[.int .i64 cu, .int .i64 cl, .slice qap cs.length qcp] 28 (0, 0)) := alloc_at rfl
          have hz : (w22.alloc (.cells #[.int .i64 cu, .int .i64 cl, .slice qap cs.length qcp] 28)).heap.size = w22.heap.size + 1 := by simp
          generalize w22.alloc (.cells #[.int .i64 cu, .int .i64 cl, .slice qap cs.length qcp] 28) = w23 at hb hk hz ⊢
          have HB23 : Hid (Below w.heap.size w w23) := Lib.hid (HB22.out.trans (hb.mono HB22.out.size))
          have HZ23 : Hid (w22.heap.size ≤ w23.heap.size) := Lib.hid hb.size
          have HRk23 := Lib.hid (HRk0.out.below HB23.out (Nat.le_refl _))
          have HRz23 := Lib.hid (HRz22.out.below hb (Nat.le_refl _))
          have HKz23 := Lib.hid ((hb.block _ (lt_of_block HKz22.out)).trans HKz22.out)
          have HRp23 := Lib.hid (HRp22.out.below hb (Nat.le_refl _))
          have HBs18_23 : Hid (Below w18.heap.size w18 w23) := Lib.hid (HBs18_22.out.trans (hb.mono HBs18_22.out.size))
          have HBs22_23 : Hid (Below w22.heap.size w22 w23) := Lib.hid (HBs22_22.out.trans (hb.mono HBs22_22.out.size))
          have HKp23 := Lib.hid hk
          replace HZ23 : Hid (w22.heap.size < w23.heap.size) := Lib.hid (by omega)
          have HE23 := Lib.hid hz
          clear hb hk hz
          refine (HS5.out _ _ HRz23.out).mono ?_
          rintro e w24 ⟨⟨v, rfl, ho⟩, hb⟩
          have HB24 : Hid (Below w.heap.size w w24) := Lib.hid (HB23.out.trans (hb.mono HB23.out.size))
          have HZ24 : Hid (w23.heap.size ≤ w24.heap.size) := Lib.hid hb.size
          have HRk24 := Lib.hid (HRk0.out.below HB24.out (Nat.le_refl _))
          have HRz24 := Lib.hid (HRz23.out.below hb (Nat.le_refl _))
          have HKz24 := Lib.hid ((hb.block _ (lt_of_block HKz23.out)).trans HKz23.out)
          have HRp24 := Lib.hid (HRp23.out.below hb (Nat.le_refl _))
          have HKp24 := Lib.hid ((hb.block _ (lt_of_block HKp23.out)).trans HKp23.out)
          have HBs18_24 : Hid (Below w18.heap.size w18 w24) := Lib.hid (HBs18_23.out.trans (hb.mono HBs18_23.out.size))
          have HBs22_24 : Hid (Below w22.heap.size w22 w24) := Lib.hid (HBs22_23.out.trans (hb.mono HBs22_23.out.size))
          clear hb
          obtain ⟨qae, qce, rfl⟩ : ∃ a c, v = .slice a cs.length c := by obtain ⟨a, c, e, _⟩ := ho; exact ⟨a, c, e⟩
          have HRe24 := Lib.hid (ho)
          have HBs24_24 : Hid (Below w24.heap.size w24 w24) := Lib.hid (Below.refl _ _)
          clear ho
          clear cz0 cz1 cz2 fz0 fz1 fz2 ltz
          have ltz := lt_of_block HKz24.out
          obtain ⟨cz0, cz1, cz2, fz0, fz1, fz2⟩ := cell3 HKz24.out
          have ltp := lt_of_block HKp24.out
          obtain ⟨cp0, cp1, cp2, fp0, fp1, fp2⟩ := cell3 HKp24.out
          go_wp2_with fail
          have hb : Below w24.heap.size w24 (w24.alloc (.cells #[.int .i64 cu, .int .i64 cl, .slice qae cs.length qce] 28)) := (Below.refl _ _).alloc (Nat.le_refl _) _
          have hk : (w24.alloc (.cells #[.int .i64 cu, .int .i64 cl, .slice qae cs.length qce] 28)).heap[w24.heap.size]? = some (.cells #[.int .i64 cu, .int .i64 cl, .slice qae cs.length qce] 28 (0, 0)) := alloc_at rfl
          have hz : (w24.alloc (.cells #[.int .i64 cu, .int .i64 cl, .slice qae cs.length qce] 28)).heap.size = w24.heap.size + 1 := by simp
          generalize w24.alloc (.cells #[.int .i64 cu, .int .i64 cl, .slice qae cs.length qce] 28) = w25 at hb hk hz ⊢
          have HB25 : Hid (Below w.heap.size w w25) := Lib.hid (HB24.out.trans (hb.mono HB24.out.size))
          have HZ25 : Hid (w24.heap.size ≤ w25.heap.size) := Lib.hid hb.size
          have HRk25 := Lib.hid (HRk0.out.below HB25.out (Nat.le_refl _))
          have HRz25 := Lib.hid (HRz24.out.below hb (Nat.le_refl _))
          have HKz25 := Lib.hid ((hb.block _ (lt_of_block HKz24.out)).trans HKz24.out)
          have HRp25 := Lib.hid (HRp24.out.below hb (Nat.le_refl _))
          have HKp25 := Lib.hid ((hb.block _ (lt_of_block HKp24.out)).trans HKp24.out)
          have HRe25 := Lib.hid (HRe24.out.below hb (Nat.le_refl _))
          have HBs18_25 : Hid (Below w18.heap.size w18 w25) := Lib.hid (HBs18_24.out.trans (hb.mono HBs18_24.out.size))
          have HBs22_25 : Hid (Below w22.heap.size w22 w25) := Lib.hid (HBs22_24.out.trans (hb.mono HBs22_24.out.size))
          have HBs24_25 : Hid (Below w24.heap.size w24 w25) := Lib.hid (HBs24_24.out.trans (hb.mono HBs24_24.out.size))
          have HKe25 := Lib.hid hk
          replace HZ25 : Hid (w24.heap.size < w25.heap.size) := Lib.hid (by omega)
          have HE25 := Lib.hid hz
          clear hb hk hz
          refine (vFrame_yes cu cl _ _ cs _ HRp25.out HRe25.out).mono ?_
          rintro e w26 ⟨rfl, hb⟩
          have HB26 : Hid (Below w.heap.size w w26) := Lib.hid (HB25.out.trans (hb.mono HB25.out.size))
          have HZ26 : Hid (w25.heap.size ≤ w26.heap.size) := Lib.hid hb.size
          have HRk26 := Lib.hid (HRk0.out.below HB26.out (Nat.le_refl _))
          have HRz26 := Lib.hid (HRz25.out.below hb (Nat.le_refl _))
          have HKz26 := Lib.hid ((hb.block _ (lt_of_block HKz25.out)).trans HKz25.out)
          have HRp26 := Lib.hid (HRp25.out.below hb (Nat.le_refl _))
          have HKp26 := Lib.hid ((hb.block _ (lt_of_block HKp25.out)).trans HKp25.out)
          have HRe26 := Lib.hid (HRe25.out.below hb (Nat.le_refl _))
          have HKe26 := Lib.hid ((hb.block _ (lt_of_block HKe25.out)).trans HKe25.out)
          have HBs18_26 : Hid (Below w18.heap.size w18 w26) := Lib.hid (HBs18_25.out.trans (hb.mono HBs18_25.out.size))
          have HBs22_26 : Hid (Below w22.heap.size w22 w26) := Lib.hid (HBs22_25.out.trans (hb.mono HBs22_25.out.size))
          have HBs24_26 : Hid (Below w24.heap.size w24 w26) := Lib.hid (HBs24_25.out.trans (hb.mono HBs24_25.out.size))
          clear hb
          clear cz0 cz1 cz2 fz0 fz1 fz2 ltz cp0 cp1 cp2 fp0 fp1 fp2 ltp
          have ltz := lt_of_block HKz26.out
          obtain ⟨cz0, cz1, cz2, fz0, fz1, fz2⟩ := cell3 HKz26.out
          have ltp := lt_of_block HKp26.out
          obtain ⟨cp0, cp1, cp2, fp0, fp1, fp2⟩ := cell3 HKp26.out
          have lte := lt_of_block HKe26.out
          obtain ⟨ce0, ce1, ce2, fe0, fe1, fe2⟩ := cell3 HKe26.out
          go_wp2_with fail
          refine (HI6.out _ _ HRp26.out).mono ?_
          rintro e w27 ⟨rfl, hb⟩
          have HB27 : Hid (Below w.heap.size w w27) := Lib.hid (HB26.out.trans (hb.mono HB26.out.size))
          have HZ27 : Hid (w26.heap.size ≤ w27.heap.size) := Lib.hid hb.size
          have HRk27 := Lib.hid (HRk0.out.below HB27.out (Nat.le_refl _))
          have HRz27 := Lib.hid (HRz26.out.below hb (Nat.le_refl _))
          have HKz27 := Lib.hid ((hb.block _ (lt_of_block HKz26.out)).trans HKz26.out)
          have HRp27 := Lib.hid (HRp26.out.below hb (Nat.le_refl _))
          have HKp27 := Lib.hid ((hb.block _ (lt_of_block HKp26.out)).trans HKp26.out)
          have HRe27 := Lib.hid (HRe26.out.below hb (Nat.le_refl _))
          have HKe27 := Lib.hid ((hb.block _ (lt_of_block HKe26.out)).trans HKe26.out)
          have HBs18_27 : Hid (Below w18.heap.size w18 w27) := Lib.hid (HBs18_26.out.trans (hb.mono HBs18_26.out.size))
          have HBs22_27 : Hid (Below w22.heap.size w22 w27) := Lib.hid (HBs22_26.out.trans (hb.mono HBs22_26.out.size))
          have HBs24_27 : Hid (Below w24.heap.size w24 w27) := Lib.hid (HBs24_26.out.trans (hb.mono HBs24_26.out.size))
          clear hb
          clear cz0 cz1 cz2 fz0 fz1 fz2 ltz cp0 cp1 cp2 fp0 fp1 fp2 ltp ce0 ce1 ce2 fe0 fe1 fe2 lte
          have ltz := lt_of_block HKz27.out
          obtain ⟨cz0, cz1, cz2, fz0, fz1, fz2⟩ := cell3 HKz27.out
          have ltp := lt_of_block HKp27.out
          obtain ⟨cp0, cp1, cp2, fp0, fp1, fp2⟩ := cell3 HKp27.out
          have lte := lt_of_block HKe27.out
          obtain ⟨ce0, ce1, ce2, fe0, fe1, fe2⟩ := cell3 HKe27.out
          go_wp2_with fail
          go_ret
          exact ⟨rfl, HB27.out⟩
        · obtain rfl := hn4 hg
          obtain rfl := hn5 hg
          clear hy4 hn4 hy5 hn5 hy6 hg
          clear cy0 cy1 cy2 fy0 fy1 fy2 lty
          go_wp2_with fail
          have hb : Below w18.heap.size w18 (w18.alloc (.cells #[.int .i64 zu, .int .i64 zl, .slice qaz zs.length qcz] 28)) := (Below.refl _ _).alloc (Nat.le_refl _) _
          have hk : (w18.alloc (.cells #[.int .i64 zu, .int .i64 zl, .slice qaz zs.length qcz] 28)).heap[w18.heap.size]? = some (.cells #[.int .i64 zu, .int .i64 zl, .slice qaz zs.length qcz] 28 (0, 0)) := alloc_at rfl
          have hz : (w18.alloc (.cells #[.int .i64 zu, .int .i64 zl, .slice qaz zs.length qcz] 28)).heap.size = w18.heap.size + 1 := by simp
          generalize w18.alloc (.cells #[.int .i64 zu, .int .i64 zl, .slice qaz zs.length qcz] 28) = w19 at hb hk hz ⊢
          have HB19 : Hid (Below w.heap.size w w19) := Lib.hid (HB18.out.trans (hb.mono HB18.out.size))
          have HZ19 : Hid (w18.heap.size ≤ w19.heap.size) := Lib.hid hb.size
          have HRk19 := Lib.hid (HRk0.out.below HB19.out (Nat.le_refl _))
          have HRz19 := Lib.hid (HRz18.out.below hb (Nat.le_refl _))
          have HBs18_19 : Hid (Below w18.heap.size w18 w19) := Lib.hid (HBs18_18.out.trans (hb.mono HBs18_18.out.size))
          have HKz19 := Lib.hid hk
          replace HZ19 : Hid (w18.heap.size < w19.heap.size) := Lib.hid (by omega)
          have HE19 := Lib.hid hz
          clear hb hk hz
          refine (HI4.out _ _ HRz19.out).mono ?_
          rintro e w20 ⟨rfl, hb⟩
          have HB20 : Hid (Below w.heap.size w w20) := Lib.hid (HB19.out.trans (hb.mono HB19.out.size))
          have HZ20 : Hid (w19.heap.size ≤ w20.heap.size) := Lib.hid hb.size
          have HRk20 := Lib.hid (HRk0.out.below HB20.out (Nat.le_refl _))
          have HRz20 := Lib.hid (HRz19.out.below hb (Nat.le_refl _))
          have HKz20 := Lib.hid ((hb.block _ (lt_of_block HKz19.out)).trans HKz19.out)
          have HBs18_20 : Hid (Below w18.heap.size w18 w20) := Lib.hid (HBs18_19.out.trans (hb.mono HBs18_19.out.size))
          clear hb
          have ltz := lt_of_block HKz20.out
          obtain ⟨cz0, cz1, cz2, fz0, fz1, fz2⟩ := cell3 HKz20.out
          go_wp2_with fail
          refine (HS4.out _ _ HRz20.out).mono ?_
          rintro e w21 ⟨rfl, hb⟩
          have HB21 : Hid (Below w.heap.size w w21) := Lib.hid (HB20.out.trans (hb.mono HB20.out.size))
          have HZ21 : Hid (w20.heap.size ≤ w21.heap.size) := Lib.hid hb.size
          have HRk21 := Lib.hid (HRk0.out.below HB21.out (Nat.le_refl _))
          have HRz21 := Lib.hid (HRz20.out.below hb (Nat.le_refl _))
          have HKz21 := Lib.hid ((hb.block _ (lt_of_block HKz20.out)).trans HKz20.out)
          have HBs18_21 : Hid (Below w18.heap.size w18 w21) := Lib.hid (HBs18_20.out.trans (hb.mono HBs18_20.out.size))
          clear hb
          clear cz0 cz1 cz2 fz0 fz1 fz2 ltz
          have ltz := lt_of_block HKz21.out
          obtain ⟨cz0, cz1, cz2, fz0, fz1, fz2⟩ := cell3 HKz21.out
          go_wp2_with fail
          refine (HI5.out _ _ HRz21.out).mono ?_
          rintro e w22 ⟨⟨v, rfl, ho⟩, hb⟩
          have HB22 : Hid (Below w.heap.size w w22) := Lib.hid (HB21.out.trans (hb.mono HB21.out.size))
          have HZ22 : Hid (w21.heap.size ≤ w22.heap.size) := Lib.hid hb.size
          have HRk22 := Lib.hid (HRk0.out.below HB22.out (Nat.le_refl _))
          have HRz22 := Lib.hid (HRz21.out.below hb (Nat.le_refl _))
          have HKz22 := Lib.hid ((hb.block _ (lt_of_block HKz21.out)).trans HKz21.out)
          have HBs18_22 : Hid (Below w18.heap.size w18 w22) := Lib.hid (HBs18_21.out.trans (hb.mono HBs18_21.out.size))
          clear hb
          obtain ⟨qap, qcp, rfl⟩ : ∃ a c, v = .slice a cs.length c := by obtain ⟨a, c, e, _⟩ := ho; exact ⟨a, c, e⟩
          have HRp22 := Lib.hid (ho)
          have HBs22_22 : Hid (Below w22.heap.size w22 w22) := Lib.hid (Below.refl _ _)
          clear ho
          clear cz0 cz1 cz2 fz0 fz1 fz2 ltz
          have ltz := lt_of_block HKz22.out
          obtain ⟨cz0, cz1, cz2, fz0, fz1, fz2⟩ := cell3 HKz22.out
          go_wp2_with fail
          have hb : Below w22.heap.size w22 (w22.alloc (.cells #[.int .i64 cu, .int .i64 cl, .slice qap cs.length qcp] 28)) := (Below.refl _ _).alloc (Nat.le_refl _) _
          have hk : (w22.alloc (.cells #[.int .i64 cu, .int .i64 cl, .slice qap cs.length qcp] 28)).heap[w22.heap.size]? = some (.cells #[.int .i64 cu, .int .i64 cl, .slice qap cs.length qcp] 28 (0, 0)) := alloc_at rfl
          have hz : (w22.alloc (.cells #[.int .i64 cu, .int .i64 cl, .slice qap cs.length qcp] 28)).heap.size = w22.heap.size + 1 := by simp
          generalize w22.alloc (.cells #[.int .i64 cu, .int .i64 cl, .slice qap cs.length qcp] 28) = w23 at hb hk hz ⊢
          have HB23 : Hid (Below w.heap.size w w23) := Lib.hid (HB22.out.trans (hb.mono HB22.out.size))
          have HZ23 : Hid (w22.heap.size ≤ w23.heap.size) := Lib.hid hb.size
          have HRk23 := Lib.hid (HRk0.out.below HB23.out (Nat.le_refl _))
          have HRz23 := Lib.hid (HRz22.out.below hb (Nat.le_refl _))
          have HKz23 := Lib.hid ((hb.block _ (lt_of_block HKz22.out)).trans HKz22.out)
          have HRp23 := Lib.hid (HRp22.out.below hb (Nat.le_refl _))
          have HBs18_23 : Hid (Below w18.heap.size w18 w23) := Lib.hid (HBs18_22.out.trans (hb.mono HBs18_22.out.size))
          have HBs22_23 : Hid (Below w22.heap.size w22 w23) := Lib.hid (HBs22_22.out.trans (hb.mono HBs22_22.out.size))
          have HKp23 := Lib.hid hk
          replace HZ23 : Hid (w22.heap.size < w23.heap.size) := Lib.hid (by omega)
          have HE23 := Lib.hid hz
          clear hb hk hz
          refine (HS5.out _ _ HRz23.out).mono ?_
          rintro e w24 ⟨⟨v, rfl, ho⟩, hb⟩
          have HB24 : Hid (Below w.heap.size w w24) := Lib.hid (HB23.out.trans (hb.mono HB23.out.size))
          have HZ24 : Hid (w23.heap.size ≤ w24.heap.size) := Lib.hid hb.size
          have HRk24 := Lib.hid (HRk0.out.below HB24.out (Nat.le_refl _))
          have HRz24 := Lib.hid (HRz23.out.below hb (Nat.le_refl _))
          have HKz24 := Lib.hid ((hb.block _ (lt_of_block HKz23.out)).trans HKz23.out)
          have HRp24 := Lib.hid (HRp23.out.below hb (Nat.le_refl _))
          have HKp24 := Lib.hid ((hb.block _ (lt_of_block HKp23.out)).trans HKp23.out)
          have HBs18_24 : Hid (Below w18.heap.size w18 w24) := Lib.hid (HBs18_23.out.trans (hb.mono HBs18_23.out.size))
          have HBs22_24 : Hid (Below w22.heap.size w22 w24) := Lib.hid (HBs22_23.out.trans (hb.mono HBs22_23.out.size))
          clear hb
          obtain ⟨qae, qce, rfl⟩ : ∃ a c, v = .slice a cs.length c := by obtain ⟨a, c, e, _⟩ := ho; exact ⟨a, c, e⟩
          have HRe24 := Lib.hid (ho)
          have HBs24_24 : Hid (Below w24.heap.size w24 w24) := Lib.hid (Below.refl _ _)
          clear ho
          clear cz0 cz1 cz2 fz0 fz1 fz2 ltz
          have ltz := lt_of_block HKz24.out
          obtain ⟨cz0, cz1, cz2, fz0, fz1, fz2⟩ := cell3 HKz24.out
          have ltp := lt_of_block HKp24.out
          obtain ⟨cp0, cp1, cp2, fp0, fp1, fp2⟩ := cell3 HKp24.out
          go_wp2_with fail
          have hb : Below w24.heap.size w24 (w24.alloc (.cells #[.int .i64 cu, .int .i64 cl, .slice qae cs.length qce] 28)) := (Below.refl _ _).alloc (Nat.le_refl _) _
          have hk : (w24.alloc (.cells #[.int .i64 cu, .int .i64 cl, .slice qae cs.length qce] 28)).heap[w24.heap.size]? = some (.cells #[.int .i64 cu, .int .i64 cl, .slice qae cs.length qce] 28 (0, 0)) := alloc_at rfl
          have hz : (w24.alloc (.cells #[.int .i64 cu, .int .i64 cl, .slice qae cs.length qce] 28)).heap.size = w24.heap.size + 1 := by simp
          generalize w24.alloc (.cells #[.int .i64 cu, .int .i64 cl, .slice qae cs.length qce] 28) = w25 at hb hk hz ⊢
          have HB25 : Hid (Below w.heap.size w w25) := Lib.hid (HB24.out.trans (hb.mono HB24.out.size))
          have HZ25 : Hid (w24.heap.size ≤ w25.heap.size) := Lib.hid hb.size
          have HRk25 := Lib.hid (HRk0.out.below HB25.out (Nat.le_refl _))
          have HRz25 := Lib.hid (HRz24.out.below hb (Nat.le_refl _))
          have HKz25 := Lib.hid ((hb.block _ (lt_of_block HKz24.out)).trans HKz24.out)
          have HRp25 := Lib.hid (HRp24.out.below hb (Nat.le_refl _))
          have HKp25 := Lib.hid ((hb.block _ (lt_of_block HKp24.out)).trans HKp24.out)
          have HRe25 := Lib.hid (HRe24.out.below hb (Nat.le_refl _))
          have HBs18_25 : Hid (Below w18.heap.size w18 w25) := Lib.hid (HBs18_24.out.trans (hb.mono HBs18_24.out.size))
          have HBs22_25 : Hid (Below w22.heap.size w22 w25) := Lib.hid (HBs22_24.out.trans (hb.mono HBs22_24.out.size))
          have HBs24_25 : Hid (Below w24.heap.size w24 w25) := Lib.hid (HBs24_24.out.trans (hb.mono HBs24_24.out.size))
          have HKe25 := Lib.hid hk
          replace HZ25 : Hid (w24.heap.size < w25.heap.size) := Lib.hid (by omega)
          have HE25 := Lib.hid hz
          clear hb hk hz
          refine (vFrame_yes cu cl _ _ cs _ HRp25.out HRe25.out).mono ?_
          rintro e w26 ⟨rfl, hb⟩
          have HB26 : Hid (Below w.heap.size w w26) := Lib.hid (HB25.out.trans (hb.mono HB25.out.size))
          have HZ26 : Hid (w25.heap.size ≤ w26.heap.size) := Lib.hid hb.size
          have HRk26 := Lib.hid (HRk0.out.below HB26.out (Nat.le_refl _))
          have HRz26 := Lib.hid (HRz25.out.below hb (Nat.le_refl _))
          have HKz26 := Lib.hid ((hb.block _ (lt_of_block HKz25.out)).trans HKz25.out)
          have HRp26 := Lib.hid (HRp25.out.below hb (Nat.le_refl _))
          have HKp26 := Lib.hid ((hb.block _ (lt_of_block HKp25.out)).trans HKp25.out)
          have HRe26 := Lib.hid (HRe25.out.below hb (Nat.le_refl _))
          have HKe26 := Lib.hid ((hb.block _ (lt_of_block HKe25.out)).trans HKe25.out)
          have HBs18_26 : Hid (Below w18.heap.size w18 w26) := Lib.hid (HBs18_25.out.trans (hb.mono HBs18_25.out.size))
          have HBs22_26 : Hid (Below w22.heap.size w22 w26) := Lib.hid (HBs22_25.out.trans (hb.mono HBs22_25.out.size))
          have HBs24_26 : Hid (Below w24.heap.size w24 w26) := Lib.hid (HBs24_25.out.trans (hb.mono HBs24_25.out.size))
          clear hb
          clear cz0 cz1 cz2 fz0 fz1 fz2 ltz cp0 cp1 cp2 fp0 fp1 fp2 ltp
          have ltz := lt_of_block HKz26.out
          obtain ⟨cz0, cz1, cz2, fz0, fz1, fz2⟩ := cell3 HKz26.out
          have ltp := lt_of_block HKp26.out
          obtain ⟨cp0, cp1, cp2, fp0, fp1, fp2⟩ := cell3 HKp26.out
          have lte := lt_of_block HKe26.out
          obtain ⟨ce0, ce1, ce2, fe0, fe1, fe2⟩ := cell3 HKe26.out
          go_wp2_with fail
          go_ret
          exact ⟨rfl, HB26.out⟩
end Go.Proofs.Ytjaiolbneodheaa
