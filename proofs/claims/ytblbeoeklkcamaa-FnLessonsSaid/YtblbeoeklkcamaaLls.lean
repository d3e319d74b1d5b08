/- The law FnLessons. -/
import Derived.Test.YtblbeoeklkcamaaVle
import Derived.Test.YtblbeoeklkcamaaTcl
import Derived.Test.YtblbeoeklkcamaaDlf
import Derived.Test.YtblbeoeklkcamaaLi4
import Derived.Test.YtblbeoeklkcamaaLi6
import Derived.Test.YtblbeoeklkcamaaLi7
import Derived.Test.YtblbeoeklkcamaaLi8
import Derived.Test.YtblbeoeklkcamaaLe6
import Derived.Test.YtblbeoeklkcamaaLe7
import Derived.Test.YtblbeoeklkcamaaLe5
namespace Go.Proofs.Ytblbeoeklkcamaa
set_option linter.unusedVariables false
open Go.RowKit
set_option linter.unusedSimpArgs false

theorem implPairs_any (v : Value) (ps : List Les) (w : World) (h : RowsR 7 lesC w v ps) (ys : List (List Int)) (t : Bool) (hp : PrF ps ys t) :
    Calls Try.prog 18 #[v] w fun e w' => (∃ sq, e = .returned (.tuple #[sq, .bool t]) ∧ SSR w' sq ys) ∧ Below w.heap.size w w' := by
  rcases hp with ⟨ho, rfl, rfl⟩ | ⟨ho, rfl, rfl⟩
  · exact (implPairs_ok v ps w h ho).mono fun e w' ⟨⟨sq, vs, h1, h2⟩, h3⟩ => ⟨⟨sq, h1, h2.reads⟩, h3⟩
  · exact (implPairs_no v ps w h ho).mono fun e w' ⟨⟨sq, vs, h1, h2⟩, h3⟩ => ⟨⟨sq, h1, h2.reads⟩, h3⟩
theorem specPairs_any (v : Value) (ps : List Les) (w : World) (h : RowsR 7 lesC w v ps) (ys : List (List Int)) (t : Bool) (hp : PrF ps ys t) :
    Calls Try.prog 28 #[v] w fun e w' => (∃ sq, e = .returned (.tuple #[sq, .bool t]) ∧ SSR w' sq ys) ∧ Below w.heap.size w w' := by
  rcases hp with ⟨ho, rfl, rfl⟩ | ⟨ho, rfl, rfl⟩
  · exact (specPairs_ok v ps w h ho).mono fun e w' ⟨⟨sq, vs, h1, h2⟩, h3⟩ => ⟨⟨sq, h1, h2.reads⟩, h3⟩
  · exact (specPairs_no v ps w h ho).mono fun e w' ⟨⟨sq, vs, h1, h2⟩, h3⟩ => ⟨⟨sq, h1, h2.reads⟩, h3⟩
set_option maxRecDepth 100000 in
set_option maxHeartbeats 12800000 in
theorem lawLessons (w : World) (ad : Option Addr) (cp : Nat) (L : List UInt8) (h : SlR w (.slice ad L.length cp) (L.map fun c => .int .u8 (c.toNat : Int))) :
    Calls Try.prog 3 #[.slice ad L.length cp] w fun e w' => e = .returned (.bool true) ∧ Below w.heap.size w w' := by
  have hm : L.length ≤ 9223372036854775807 := by
    obtain ⟨a, c, e, ⟨m, _⟩, _⟩ := h
    rw [List.length_map] at m
    exact m
  have HB0 : Hid (Below w.heap.size w w) := Lib.hid (Below.refl _ _)
  have HRk0 := Lib.hid (h)
  clear h
  by_cases hbig : (65536 : Int) < (L.length : Int)
  · go_enter Try.func3, Try.ntmps3
    go_wp2_with fail
    refine (rBig_any ad L.length cp _ true (decide_eq_true hbig)).mono ?_
    rintro e w' ⟨rfl, hw⟩
    subst w'
    go_wp2_with fail
    go_ret
    exact ⟨rfl, Below.refl _ _⟩
  · go_enter Try.func3, Try.ntmps3
    go_wp2_with fail
    refine (rBig_any ad L.length cp _ false (decide_eq_false (by omega))).mono ?_
    rintro e w' ⟨rfl, hw⟩
    subst w'
    go_wp2_with fail
    refine (drawFirstSlot_any _ L _ HRk0.out).mono ?_
    rintro e w1 ⟨⟨v, ps, id, rfl, ho, hl⟩, hb⟩
    have HB1 : Hid (Below w.heap.size w w1) := Lib.hid (HB0.out.trans (hb.mono HB0.out.size))
    have HZ1 : Hid (w.heap.size ≤ w1.heap.size) := Lib.hid hb.size
    have HRk1 := Lib.hid (HRk0.out.below HB1.out (Nat.le_refl _))
    clear hb
    obtain ⟨qap, qcp, rfl⟩ := ho.form
    have HRp1 := Lib.hid (ho)
    have HBs1_1 : Hid (Below w1.heap.size w1 w1) := Lib.hid (Below.refl _ _)
    clear ho
    obtain ⟨d, b, t, hs⟩ := slF_or ps id
    have HSL := Lib.hid hs
    have hned : (d != d) = false := by simp
    have hneb : (b != b) = false := by simp
    have hnet : (t != t) = false := by simp
    clear hs hl
    go_wp2_with fail
    refine (implSlot_any _ ps id d b t _ HRp1.out HSL.out).mono ?_
    rintro e w2 ⟨rfl, hb⟩
    have HB2 : Hid (Below w.heap.size w w2) := Lib.hid (HB1.out.trans (hb.mono HB1.out.size))
    have HZ2 : Hid (w1.heap.size ≤ w2.heap.size) := Lib.hid hb.size
    have HRk2 := Lib.hid (HRk0.out.below HB2.out (Nat.le_refl _))
    have HRp2 := Lib.hid (HRp1.out.below hb (Nat.le_refl _))
    have HBs1_2 : Hid (Below w1.heap.size w1 w2) := Lib.hid (HBs1_1.out.trans (hb.mono HBs1_1.out.size))
    clear hb
    go_wp2_with fail
    refine (specSlot_any _ ps id d b t _ HRp2.out HSL.out).mono ?_
    rintro e w3 ⟨rfl, hb⟩
    have HB3 : Hid (Below w.heap.size w w3) := Lib.hid (HB2.out.trans (hb.mono HB2.out.size))
    have HZ3 : Hid (w2.heap.size ≤ w3.heap.size) := Lib.hid hb.size
    have HRk3 := Lib.hid (HRk0.out.below HB3.out (Nat.le_refl _))
    have HRp3 := Lib.hid (HRp2.out.below hb (Nat.le_refl _))
    have HBs1_3 : Hid (Below w1.heap.size w1 w3) := Lib.hid (HBs1_2.out.trans (hb.mono HBs1_2.out.size))
    clear hb
    cases t with
    | false =>
      go_wp2_with fail
      refine (drawFreeRooms_any _ L _ HRk3.out).mono ?_
      rintro e w4 ⟨⟨v, ls, x1, y1, z1, rfl, ho, hl1⟩, hb⟩
      have HB4 : Hid (Below w.heap.size w w4) := Lib.hid (HB3.out.trans (hb.mono HB3.out.size))
      have HZ4 : Hid (w3.heap.size ≤ w4.heap.size) := Lib.hid hb.size
      have HRk4 := Lib.hid (HRk0.out.below HB4.out (Nat.le_refl _))
      clear hb
      obtain ⟨qal, qcl, rfl⟩ := ho.form
      have HRl4 := Lib.hid (ho)
      have HBs4_4 : Hid (Below w4.heap.size w4 w4) := Lib.hid (Below.refl _ _)
      clear ho
      obtain ⟨fs, ft, hf⟩ := frF_or ls x1 y1 z1
      have HF1 := Lib.hid hf
      have hneft : (ft != ft) = false := by simp
      clear hf hl1
      go_wp2_with fail
      refine (implFree_any _ ls x1 y1 z1 _ HRl4.out fs ft HF1.out).mono ?_
      rintro e w5 ⟨⟨v, rfl, ho⟩, hb⟩
      have HB5 : Hid (Below w.heap.size w w5) := Lib.hid (HB4.out.trans (hb.mono HB4.out.size))
      have HZ5 : Hid (w4.heap.size ≤ w5.heap.size) := Lib.hid hb.size
      have HRk5 := Lib.hid (HRk0.out.below HB5.out (Nat.le_refl _))
      have HRl5 := Lib.hid (HRl4.out.below hb (Nat.le_refl _))
      have HBs4_5 : Hid (Below w4.heap.size w4 w5) := Lib.hid (HBs4_4.out.trans (hb.mono HBs4_4.out.size))
      clear hb
      obtain ⟨qaf, qcf, rfl⟩ := own_form ho
      have HRf5 := Lib.hid ((RowsR.of_own inC_len ho))
      have HBs5_5 : Hid (Below w5.heap.size w5 w5) := Lib.hid (Below.refl _ _)
      clear ho
      go_wp2_with fail
      refine (specFree_any _ ls x1 y1 z1 _ HRl5.out fs ft HF1.out).mono ?_
      rintro e w6 ⟨⟨v, rfl, ho⟩, hb⟩
      have HB6 : Hid (Below w.heap.size w w6) := Lib.hid (HB5.out.trans (hb.mono HB5.out.size))
      have HZ6 : Hid (w5.heap.size ≤ w6.heap.size) := Lib.hid hb.size
      have HRk6 := Lib.hid (HRk0.out.below HB6.out (Nat.le_refl _))
      have HRl6 := Lib.hid (HRl5.out.below hb (Nat.le_refl _))
      have HRf6 := Lib.hid (HRf5.out.below hb (Nat.le_refl _))
      have HBs4_6 : Hid (Below w4.heap.size w4 w6) := Lib.hid (HBs4_5.out.trans (hb.mono HBs4_5.out.size))
      have HBs5_6 : Hid (Below w5.heap.size w5 w6) := Lib.hid (HBs5_5.out.trans (hb.mono HBs5_5.out.size))
      clear hb
      obtain ⟨qag, qcg, rfl⟩ := own_form ho
      have HRg6 := Lib.hid ((RowsR.of_own inC_len ho))
      have HBs6_6 : Hid (Below w6.heap.size w6 w6) := Lib.hid (Below.refl _ _)
      clear ho
      go_wp2_with fail
      refine (rInts_yes _ _ fs _ HRf6.out HRg6.out).mono ?_
      rintro e w7 ⟨rfl, hb⟩
      have HB7 : Hid (Below w.heap.size w w7) := Lib.hid (HB6.out.trans (hb.mono HB6.out.size))
      have HZ7 : Hid (w6.heap.size ≤ w7.heap.size) := Lib.hid hb.size
      have HRk7 := Lib.hid (HRk0.out.below HB7.out (Nat.le_refl _))
      have HRf7 := Lib.hid (HRf6.out.below hb (Nat.le_refl _))
      have HRg7 := Lib.hid (HRg6.out.below hb (Nat.le_refl _))
      have HBs5_7 : Hid (Below w5.heap.size w5 w7) := Lib.hid (HBs5_6.out.trans (hb.mono HBs5_6.out.size))
      have HBs6_7 : Hid (Below w6.heap.size w6 w7) := Lib.hid (HBs6_6.out.trans (hb.mono HBs6_6.out.size))
      clear hb
      go_wp2_with fail
      refine (drawDayOfClass_any _ L _ HRk7.out).mono ?_
      rintro e w8 ⟨⟨v, us, x2, y2, rfl, ho, hl2⟩, hb⟩
      have HB8 : Hid (Below w.heap.size w w8) := Lib.hid (HB7.out.trans (hb.mono HB7.out.size))
      have HZ8 : Hid (w7.heap.size ≤ w8.heap.size) := Lib.hid hb.size
      have HRk8 := Lib.hid (HRk0.out.below HB8.out (Nat.le_refl _))
      clear hb
      obtain ⟨qau, qcu, rfl⟩ := ho.form
      have HRu8 := Lib.hid (ho)
      have HBs8_8 : Hid (Below w8.heap.size w8 w8) := Lib.hid (Below.refl _ _)
      clear ho
      obtain ⟨ds, dt, hd⟩ := dyF_or us x2 y2
      have HD2 := Lib.hid hd
      have hnedt : (dt != dt) = false := by simp
      clear hd hl2
      go_wp2_with fail
      refine (implDay_any _ us x2 y2 _ HRu8.out ds dt HD2.out).mono ?_
      rintro e w9 ⟨⟨v, rfl, ho⟩, hb⟩
      have HB9 : Hid (Below w.heap.size w w9) := Lib.hid (HB8.out.trans (hb.mono HB8.out.size))
      have HZ9 : Hid (w8.heap.size ≤ w9.heap.size) := Lib.hid hb.size
      have HRk9 := Lib.hid (HRk0.out.below HB9.out (Nat.le_refl _))
      have HRu9 := Lib.hid (HRu8.out.below hb (Nat.le_refl _))
      have HBs8_9 : Hid (Below w8.heap.size w8 w9) := Lib.hid (HBs8_8.out.trans (hb.mono HBs8_8.out.size))
      clear hb
      obtain ⟨qam, qcm, rfl⟩ := own_form ho
      have HRm9 := Lib.hid ((RowsR.of_own inC_len ho))
      have HBs9_9 : Hid (Below w9.heap.size w9 w9) := Lib.hid (Below.refl _ _)
      clear ho
      go_wp2_with fail
      refine (specDay_any _ us x2 y2 _ HRu9.out ds dt HD2.out).mono ?_
      rintro e w10 ⟨⟨v, rfl, ho⟩, hb⟩
      have HB10 : Hid (Below w.heap.size w w10) := Lib.hid (HB9.out.trans (hb.mono HB9.out.size))
      have HZ10 : Hid (w9.heap.size ≤ w10.heap.size) := Lib.hid hb.size
      have HRk10 := Lib.hid (HRk0.out.below HB10.out (Nat.le_refl _))
      have HRu10 := Lib.hid (HRu9.out.below hb (Nat.le_refl _))
      have HRm10 := Lib.hid (HRm9.out.below hb (Nat.le_refl _))
      have HBs8_10 : Hid (Below w8.heap.size w8 w10) := Lib.hid (HBs8_9.out.trans (hb.mono HBs8_9.out.size))
      have HBs9_10 : Hid (Below w9.heap.size w9 w10) := Lib.hid (HBs9_9.out.trans (hb.mono HBs9_9.out.size))
      clear hb
      obtain ⟨qan, qcn, rfl⟩ := own_form ho
      have HRn10 := Lib.hid ((RowsR.of_own inC_len ho))
      have HBs10_10 : Hid (Below w10.heap.size w10 w10) := Lib.hid (Below.refl _ _)
      clear ho
      go_wp2_with fail
      refine (rInts_yes _ _ ds _ HRm10.out HRn10.out).mono ?_
      rintro e w11 ⟨rfl, hb⟩
      have HB11 : Hid (Below w.heap.size w w11) := Lib.hid (HB10.out.trans (hb.mono HB10.out.size))
      have HZ11 : Hid (w10.heap.size ≤ w11.heap.size) := Lib.hid hb.size
      have HRk11 := Lib.hid (HRk0.out.below HB11.out (Nat.le_refl _))
      have HRm11 := Lib.hid (HRm10.out.below hb (Nat.le_refl _))
      have HRn11 := Lib.hid (HRn10.out.below hb (Nat.le_refl _))
      have HBs9_11 : Hid (Below w9.heap.size w9 w11) := Lib.hid (HBs9_10.out.trans (hb.mono HBs9_10.out.size))
      have HBs10_11 : Hid (Below w10.heap.size w10 w11) := Lib.hid (HBs10_10.out.trans (hb.mono HBs10_10.out.size))
      clear hb
      go_wp2_with fail
      refine (drawClashingPairs_any _ L _ HRk11.out).mono ?_
      rintro e w12 ⟨⟨v, vs, rfl, ho, hl3⟩, hb⟩
      have HB12 : Hid (Below w.heap.size w w12) := Lib.hid (HB11.out.trans (hb.mono HB11.out.size))
      have HZ12 : Hid (w11.heap.size ≤ w12.heap.size) := Lib.hid hb.size
      have HRk12 := Lib.hid (HRk0.out.below HB12.out (Nat.le_refl _))
      clear hb
      obtain ⟨qav, qcv, rfl⟩ := ho.form
      have HRv12 := Lib.hid (ho)
      have HBs12_12 : Hid (Below w12.heap.size w12 w12) := Lib.hid (Below.refl _ _)
      clear ho
      obtain ⟨rs, rt, hr, hrt⟩ := prF_or vs
      have HR3 := Lib.hid hr
      have HT3 := Lib.hid hrt
      have hert : (rt == rt) = true := by simp
      clear hr hrt hl3
      go_wp2_with fail
      refine (implPairs_any _ vs _ HRv12.out rs rt HR3.out).mono ?_
      rintro e w13 ⟨⟨v, rfl, ho⟩, hb⟩
      have HB13 : Hid (Below w.heap.size w w13) := Lib.hid (HB12.out.trans (hb.mono HB12.out.size))
      have HZ13 : Hid (w12.heap.size ≤ w13.heap.size) := Lib.hid hb.size
      have HRk13 := Lib.hid (HRk0.out.below HB13.out (Nat.le_refl _))
      have HRv13 := Lib.hid (HRv12.out.below hb (Nat.le_refl _))
      have HBs12_13 : Hid (Below w12.heap.size w12 w13) := Lib.hid (HBs12_12.out.trans (hb.mono HBs12_12.out.size))
      clear hb
      obtain ⟨qax, qcx, rfl⟩ := ho.form
      have HRx13 := Lib.hid (ho)
      have HBs13_13 : Hid (Below w13.heap.size w13 w13) := Lib.hid (Below.refl _ _)
      clear ho
      go_wp2_with fail
      refine (specPairs_any _ vs _ HRv13.out rs rt HR3.out).mono ?_
      rintro e w14 ⟨⟨v, rfl, ho⟩, hb⟩
      have HB14 : Hid (Below w.heap.size w w14) := Lib.hid (HB13.out.trans (hb.mono HB13.out.size))
      have HZ14 : Hid (w13.heap.size ≤ w14.heap.size) := Lib.hid hb.size
      have HRk14 := Lib.hid (HRk0.out.below HB14.out (Nat.le_refl _))
      have HRv14 := Lib.hid (HRv13.out.below hb (Nat.le_refl _))
      have HRx14 := Lib.hid (HRx13.out.below hb (Nat.le_refl _))
      have HBs12_14 : Hid (Below w12.heap.size w12 w14) := Lib.hid (HBs12_13.out.trans (hb.mono HBs12_13.out.size))
      have HBs13_14 : Hid (Below w13.heap.size w13 w14) := Lib.hid (HBs13_13.out.trans (hb.mono HBs13_13.out.size))
      clear hb
      obtain ⟨qay, qcy, rfl⟩ := ho.form
      have HRy14 := Lib.hid (ho)
      have HBs14_14 : Hid (Below w14.heap.size w14 w14) := Lib.hid (Below.refl _ _)
      clear ho
      go_wp2_with fail
      refine (rTable_yes _ _ rs _ HRx14.out HRy14.out).mono ?_
      rintro e w15 ⟨rfl, hb⟩
      have HB15 : Hid (Below w.heap.size w w15) := Lib.hid (HB14.out.trans (hb.mono HB14.out.size))
      have HZ15 : Hid (w14.heap.size ≤ w15.heap.size) := Lib.hid hb.size
      have HRk15 := Lib.hid (HRk0.out.below HB15.out (Nat.le_refl _))
      have HRv15 := Lib.hid (HRv14.out.below hb (Nat.le_refl _))
      have HRx15 := Lib.hid (HRx14.out.below hb (Nat.le_refl _))
      have HRy15 := Lib.hid (HRy14.out.below hb (Nat.le_refl _))
      have HBs12_15 : Hid (Below w12.heap.size w12 w15) := Lib.hid (HBs12_14.out.trans (hb.mono HBs12_14.out.size))
      have HBs13_15 : Hid (Below w13.heap.size w13 w15) := Lib.hid (HBs13_14.out.trans (hb.mono HBs13_14.out.size))
      have HBs14_15 : Hid (Below w14.heap.size w14 w15) := Lib.hid (HBs14_14.out.trans (hb.mono HBs14_14.out.size))
      clear hb
      go_wp2_with fail
      refine (iGood_any _ vs _ HRv15.out rt HT3.out).mono ?_
      rintro e w16 ⟨rfl, hb⟩
      have HB16 : Hid (Below w.heap.size w w16) := Lib.hid (HB15.out.trans (hb.mono HB15.out.size))
      have HZ16 : Hid (w15.heap.size ≤ w16.heap.size) := Lib.hid hb.size
      have HRk16 := Lib.hid (HRk0.out.below HB16.out (Nat.le_refl _))
      have HRv16 := Lib.hid (HRv15.out.below hb (Nat.le_refl _))
      have HBs12_16 : Hid (Below w12.heap.size w12 w16) := Lib.hid (HBs12_15.out.trans (hb.mono HBs12_15.out.size))
      clear hb
      go_wp2_with fail
      go_ret
      exact ⟨ret_bool (by first | (simp; done) | rfl), HB16.out⟩
    | true =>
      obtain ⟨qs, xs, ys, hsh, hpx, hpy, hle, hno⟩ := slot_facts HSL.out
      have HSH := Lib.hid hsh
      have HPX := Lib.hid hpx
      have HPY := Lib.hid hpy
      have HNO := Lib.hid hno
      have hgt : decide ((xs.length : Int) < (ys.length : Int)) = false := decide_eq_false (by omega)
      clear hsh hpx hpy hno hle
      go_wp2_with fail
      refine (implShift_any _ ps id d b _ HRp3.out qs true HSH.out).mono ?_
      rintro e w4 ⟨⟨v, rfl, ho⟩, hb⟩
      have HB4 : Hid (Below w.heap.size w w4) := Lib.hid (HB3.out.trans (hb.mono HB3.out.size))
      have HZ4 : Hid (w3.heap.size ≤ w4.heap.size) := Lib.hid hb.size
      have HRk4 := Lib.hid (HRk0.out.below HB4.out (Nat.le_refl _))
      have HRp4 := Lib.hid (HRp3.out.below hb (Nat.le_refl _))
      have HBs1_4 : Hid (Below w1.heap.size w1 w4) := Lib.hid (HBs1_3.out.trans (hb.mono HBs1_3.out.size))
      clear hb
      obtain ⟨qaq, qcq, rfl⟩ := own_form ho
      have HRq4 := Lib.hid ((RowsR.of_own lesC_len ho))
      have HBs4_4 : Hid (Below w4.heap.size w4 w4) := Lib.hid (Below.refl _ _)
      clear ho
      go_wp2_with fail
      refine (implPairs_any _ ps _ HRp4.out xs true HPX.out).mono ?_
      rintro e w5 ⟨⟨v, rfl, ho⟩, hb⟩
      have HB5 : Hid (Below w.heap.size w w5) := Lib.hid (HB4.out.trans (hb.mono HB4.out.size))
      have HZ5 : Hid (w4.heap.size ≤ w5.heap.size) := Lib.hid hb.size
      have HRk5 := Lib.hid (HRk0.out.below HB5.out (Nat.le_refl _))
      have HRp5 := Lib.hid (HRp4.out.below hb (Nat.le_refl _))
      have HRq5 := Lib.hid (HRq4.out.below hb (Nat.le_refl _))
      have HBs1_5 : Hid (Below w1.heap.size w1 w5) := Lib.hid (HBs1_4.out.trans (hb.mono HBs1_4.out.size))
      have HBs4_5 : Hid (Below w4.heap.size w4 w5) := Lib.hid (HBs4_4.out.trans (hb.mono HBs4_4.out.size))
      clear hb
      obtain ⟨qax, qcx, rfl⟩ := ho.form
      clear ho
      go_wp2_with fail
      refine (implPairs_any _ qs _ HRq5.out ys true HPY.out).mono ?_
      rintro e w6 ⟨⟨v, rfl, ho⟩, hb⟩
      have HB6 : Hid (Below w.heap.size w w6) := Lib.hid (HB5.out.trans (hb.mono HB5.out.size))
      have HZ6 : Hid (w5.heap.size ≤ w6.heap.size) := Lib.hid hb.size
      have HRk6 := Lib.hid (HRk0.out.below HB6.out (Nat.le_refl _))
      have HRq6 := Lib.hid (HRq5.out.below hb (Nat.le_refl _))
      have HBs4_6 : Hid (Below w4.heap.size w4 w6) := Lib.hid (HBs4_5.out.trans (hb.mono HBs4_5.out.size))
      clear hb
      obtain ⟨vs, u1, u2, u3⟩ := ho
      obtain ⟨qay, qcy, rfl⟩ := u1.form
      have RY := Lib.hid u1.at
      have UY := Lib.hid u3
      have hmy : vs.length ≤ 9223372036854775807 := by obtain ⟨_, _, _, ⟨m, _⟩, _⟩ := u1; exact m
      have hgt' : decide (xs.length < vs.length) = false := decide_eq_false (by rw [u2]; have := of_decide_eq_false hgt; omega)
      have UL := Lib.hid u2
      clear u1 u2 u3 hgt
      have HRK := Lib.hid HRk6.out
      have HBW := Lib.hid HB6.out
      go_wp2_with fail
      go_loopw [17] (fun iv wr => ∃ j : Nat, j ≤ vs.length ∧ iv = .int .i64 j ∧ Below w6.heap.size w6 wr) (fun iv _ => vs.length - (intOf iv).toNat)
      case atStart => exact ⟨0, Nat.zero_le _, rfl, Below.refl _ _⟩
      case round =>
        rename World => w60
        obtain ⟨j, q1, rfl, hb⟩ := hrel
        have HBL := Lib.hid hb
        by_cases hlt : j < vs.length
        · obtain ⟨e1, o1, rfl, l1, k1⟩ := RY.out _ hb j hlt
          have p0 : w60.cell? ⟨e1, o1 + j, none⟩ = some (vs.getD j undef) := by have := k1 0 (by omega); rw [Nat.mul_one] at this; rw [getD_at _ _ _ hlt]; exact this
          have HC := Lib.hid (fun w' (hb' : Below w6.heap.size w6 w') => rHas_any (vs.getD j undef) (ys.getD j []) id false w' ((UY.out j hlt).below hb' (Nat.le_refl _)) (by
            have hjy : j < ys.length := by rw [← UL.out]; exact hlt
            have e : ys.getD j [] = ys[j] := by simp [List.getD, hjy]
            constructor
            · intro h; simp at h
            · intro h; rw [e] at h; exact absurd h (HNO.out _ (List.getElem_mem hjy))))
          have z1 : (0 : Int) ≤ (j : Int) := by omega
          have z2 : (j : Int) < (vs.length : Int) := by omega
          generalize vs.getD j undef = u at p0 HC
          clear k1 hb
          go_wp2_with fail
          refine (HC.out _ HBL.out).mono ?_
          rintro e w61 ⟨rfl, hb61⟩
          have HB61 := Lib.hid (HBL.out.trans (hb61.mono HBL.out.size))
          clear hb61 p0
          go_wp2_with fail
          go_roundw
          case rel => exact ⟨j + 1, by omega, by go_num, HB61.out⟩
          case measure => simp [intOf]; omega
        · have z2 : ¬ (j : Int) < (vs.length : Int) := by omega
          have hb9 := HBW.out.trans (hb.mono HBW.out.size)
          have hrk := HRK.out.below hb (Nat.le_refl _)
          have HB60 : Hid (Below w.heap.size w w60) := Lib.hid hb9
          have HRk60 := Lib.hid (HRk0.out.below HB60.out (Nat.le_refl _))
          have HRk60 := Lib.hid (hrk)
          have HBs60_60 : Hid (Below w60.heap.size w60 w60) := Lib.hid (Below.refl _ _)
          clear hb hb9 hrk
          go_wp2_with fail
          refine (drawFreeRooms_any _ L _ HRk60.out).mono ?_
          rintro e w61 ⟨⟨v, ls, x1, y1, z1, rfl, ho, hl1⟩, hb⟩
          have HB61 : Hid (Below w.heap.size w w61) := Lib.hid (HB60.out.trans (hb.mono HB60.out.size))
          have HZ61 : Hid (w60.heap.size ≤ w61.heap.size) := Lib.hid hb.size
          have HRk61 := Lib.hid (HRk0.out.below HB61.out (Nat.le_refl _))
          have HBs60_61 : Hid (Below w60.heap.size w60 w61) := Lib.hid (HBs60_60.out.trans (hb.mono HBs60_60.out.size))
          clear hb
          obtain ⟨qal, qcl, rfl⟩ := ho.form
          have HRl61 := Lib.hid (ho)
          have HBs61_61 : Hid (Below w61.heap.size w61 w61) := Lib.hid (Below.refl _ _)
          clear ho
          obtain ⟨fs, ft, hf⟩ := frF_or ls x1 y1 z1
          have HF1 := Lib.hid hf
          have hneft : (ft != ft) = false := by simp
          clear hf hl1
          go_wp2_with fail
          refine (implFree_any _ ls x1 y1 z1 _ HRl61.out fs ft HF1.out).mono ?_
          rintro e w62 ⟨⟨v, rfl, ho⟩, hb⟩
          have HB62 : Hid (Below w.heap.size w w62) := Lib.hid (HB61.out.trans (hb.mono HB61.out.size))
          have HZ62 : Hid (w61.heap.size ≤ w62.heap.size) := Lib.hid hb.size
          have HRk62 := Lib.hid (HRk0.out.below HB62.out (Nat.le_refl _))
          have HRl62 := Lib.hid (HRl61.out.below hb (Nat.le_refl _))
          have HBs60_62 : Hid (Below w60.heap.size w60 w62) := Lib.hid (HBs60_61.out.trans (hb.mono HBs60_61.out.size))
          have HBs61_62 : Hid (Below w61.heap.size w61 w62) := Lib.hid (HBs61_61.out.trans (hb.mono HBs61_61.out.size))
          clear hb
          obtain ⟨qaf, qcf, rfl⟩ := own_form ho
          have HRf62 := Lib.hid ((RowsR.of_own inC_len ho))
          have HBs62_62 : Hid (Below w62.heap.size w62 w62) := Lib.hid (Below.refl _ _)
          clear ho
          go_wp2_with fail
          refine (specFree_any _ ls x1 y1 z1 _ HRl62.out fs ft HF1.out).mono ?_
          rintro e w63 ⟨⟨v, rfl, ho⟩, hb⟩
          have HB63 : Hid (Below w.heap.size w w63) := Lib.hid (HB62.out.trans (hb.mono HB62.out.size))
          have HZ63 : Hid (w62.heap.size ≤ w63.heap.size) := Lib.hid hb.size
          have HRk63 := Lib.hid (HRk0.out.below HB63.out (Nat.le_refl _))
          have HRl63 := Lib.hid (HRl62.out.below hb (Nat.le_refl _))
          have HRf63 := Lib.hid (HRf62.out.below hb (Nat.le_refl _))
          have HBs60_63 : Hid (Below w60.heap.size w60 w63) := Lib.hid (HBs60_62.out.trans (hb.mono HBs60_62.out.size))
          have HBs61_63 : Hid (Below w61.heap.size w61 w63) := Lib.hid (HBs61_62.out.trans (hb.mono HBs61_62.out.size))
          have HBs62_63 : Hid (Below w62.heap.size w62 w63) := Lib.hid (HBs62_62.out.trans (hb.mono HBs62_62.out.size))
          clear hb
          obtain ⟨qag, qcg, rfl⟩ := own_form ho
          have HRg63 := Lib.hid ((RowsR.of_own inC_len ho))
          have HBs63_63 : Hid (Below w63.heap.size w63 w63) := Lib.hid (Below.refl _ _)
          clear ho
          go_wp2_with fail
          refine (rInts_yes _ _ fs _ HRf63.out HRg63.out).mono ?_
          rintro e w64 ⟨rfl, hb⟩
          have HB64 : Hid (Below w.heap.size w w64) := Lib.hid (HB63.out.trans (hb.mono HB63.out.size))
          have HZ64 : Hid (w63.heap.size ≤ w64.heap.size) := Lib.hid hb.size
          have HRk64 := Lib.hid (HRk0.out.below HB64.out (Nat.le_refl _))
          have HRf64 := Lib.hid (HRf63.out.below hb (Nat.le_refl _))
          have HRg64 := Lib.hid (HRg63.out.below hb (Nat.le_refl _))
          have HBs60_64 : Hid (Below w60.heap.size w60 w64) := Lib.hid (HBs60_63.out.trans (hb.mono HBs60_63.out.size))
          have HBs62_64 : Hid (Below w62.heap.size w62 w64) := Lib.hid (HBs62_63.out.trans (hb.mono HBs62_63.out.size))
          have HBs63_64 : Hid (Below w63.heap.size w63 w64) := Lib.hid (HBs63_63.out.trans (hb.mono HBs63_63.out.size))
          clear hb
          go_wp2_with fail
          refine (drawDayOfClass_any _ L _ HRk64.out).mono ?_
          rintro e w65 ⟨⟨v, us, x2, y2, rfl, ho, hl2⟩, hb⟩
          have HB65 : Hid (Below w.heap.size w w65) := Lib.hid (HB64.out.trans (hb.mono HB64.out.size))
          have HZ65 : Hid (w64.heap.size ≤ w65.heap.size) := Lib.hid hb.size
          have HRk65 := Lib.hid (HRk0.out.below HB65.out (Nat.le_refl _))
          have HBs60_65 : Hid (Below w60.heap.size w60 w65) := Lib.hid (HBs60_64.out.trans (hb.mono HBs60_64.out.size))
          clear hb
          obtain ⟨qau, qcu, rfl⟩ := ho.form
          have HRu65 := Lib.hid (ho)
          have HBs65_65 : Hid (Below w65.heap.size w65 w65) := Lib.hid (Below.refl _ _)
          clear ho
          obtain ⟨ds, dt, hd⟩ := dyF_or us x2 y2
          have HD2 := Lib.hid hd
          have hnedt : (dt != dt) = false := by simp
          clear hd hl2
          go_wp2_with fail
          refine (implDay_any _ us x2 y2 _ HRu65.out ds dt HD2.out).mono ?_
          rintro e w66 ⟨⟨v, rfl, ho⟩, hb⟩
          have HB66 : Hid (Below w.heap.size w w66) := Lib.hid (HB65.out.trans (hb.mono HB65.out.size))
          have HZ66 : Hid (w65.heap.size ≤ w66.heap.size) := Lib.hid hb.size
          have HRk66 := Lib.hid (HRk0.out.below HB66.out (Nat.le_refl _))
          have HRu66 := Lib.hid (HRu65.out.below hb (Nat.le_refl _))
          have HBs60_66 : Hid (Below w60.heap.size w60 w66) := Lib.hid (HBs60_65.out.trans (hb.mono HBs60_65.out.size))
          have HBs65_66 : Hid (Below w65.heap.size w65 w66) := Lib.hid (HBs65_65.out.trans (hb.mono HBs65_65.out.size))
          clear hb
          obtain ⟨qam, qcm, rfl⟩ := own_form ho
          have HRm66 := Lib.hid ((RowsR.of_own inC_len ho))
          have HBs66_66 : Hid (Below w66.heap.size w66 w66) := Lib.hid (Below.refl _ _)
          clear ho
          go_wp2_with fail
          refine (specDay_any _ us x2 y2 _ HRu66.out ds dt HD2.out).mono ?_
          rintro e w67 ⟨⟨v, rfl, ho⟩, hb⟩
          have HB67 : Hid (Below w.heap.size w w67) := Lib.hid (HB66.out.trans (hb.mono HB66.out.size))
          have HZ67 : Hid (w66.heap.size ≤ w67.heap.size) := Lib.hid hb.size
          have HRk67 := Lib.hid (HRk0.out.below HB67.out (Nat.le_refl _))
          have HRu67 := Lib.hid (HRu66.out.below hb (Nat.le_refl _))
          have HRm67 := Lib.hid (HRm66.out.below hb (Nat.le_refl _))
          have HBs60_67 : Hid (Below w60.heap.size w60 w67) := Lib.hid (HBs60_66.out.trans (hb.mono HBs60_66.out.size))
          have HBs65_67 : Hid (Below w65.heap.size w65 w67) := Lib.hid (HBs65_66.out.trans (hb.mono HBs65_66.out.size))
          have HBs66_67 : Hid (Below w66.heap.size w66 w67) := Lib.hid (HBs66_66.out.trans (hb.mono HBs66_66.out.size))
          clear hb
          obtain ⟨qan, qcn, rfl⟩ := own_form ho
          have HRn67 := Lib.hid ((RowsR.of_own inC_len ho))
          have HBs67_67 : Hid (Below w67.heap.size w67 w67) := Lib.hid (Below.refl _ _)
          clear ho
          go_wp2_with fail
          refine (rInts_yes _ _ ds _ HRm67.out HRn67.out).mono ?_
          rintro e w68 ⟨rfl, hb⟩
          have HB68 : Hid (Below w.heap.size w w68) := Lib.hid (HB67.out.trans (hb.mono HB67.out.size))
          have HZ68 : Hid (w67.heap.size ≤ w68.heap.size) := Lib.hid hb.size
          have HRk68 := Lib.hid (HRk0.out.below HB68.out (Nat.le_refl _))
          have HRm68 := Lib.hid (HRm67.out.below hb (Nat.le_refl _))
          have HRn68 := Lib.hid (HRn67.out.below hb (Nat.le_refl _))
          have HBs60_68 : Hid (Below w60.heap.size w60 w68) := Lib.hid (HBs60_67.out.trans (hb.mono HBs60_67.out.size))
          have HBs66_68 : Hid (Below w66.heap.size w66 w68) := Lib.hid (HBs66_67.out.trans (hb.mono HBs66_67.out.size))
          have HBs67_68 : Hid (Below w67.heap.size w67 w68) := Lib.hid (HBs67_67.out.trans (hb.mono HBs67_67.out.size))
          clear hb
          go_wp2_with fail
          refine (drawClashingPairs_any _ L _ HRk68.out).mono ?_
          rintro e w69 ⟨⟨v, vs, rfl, ho, hl3⟩, hb⟩
          have HB69 : Hid (Below w.heap.size w w69) := Lib.hid (HB68.out.trans (hb.mono HB68.out.size))
          have HZ69 : Hid (w68.heap.size ≤ w69.heap.size) := Lib.hid hb.size
          have HRk69 := Lib.hid (HRk0.out.below HB69.out (Nat.le_refl _))
          have HBs60_69 : Hid (Below w60.heap.size w60 w69) := Lib.hid (HBs60_68.out.trans (hb.mono HBs60_68.out.size))
          clear hb
          obtain ⟨qav, qcv, rfl⟩ := ho.form
          have HRv69 := Lib.hid (ho)
          have HBs69_69 : Hid (Below w69.heap.size w69 w69) := Lib.hid (Below.refl _ _)
          clear ho
          obtain ⟨rs, rt, hr, hrt⟩ := prF_or vs
          have HR3 := Lib.hid hr
          have HT3 := Lib.hid hrt
          have hert : (rt == rt) = true := by simp
          clear hr hrt hl3
          go_wp2_with fail
          refine (implPairs_any _ vs _ HRv69.out rs rt HR3.out).mono ?_
          rintro e w70 ⟨⟨v, rfl, ho⟩, hb⟩
          have HB70 : Hid (Below w.heap.size w w70) := Lib.hid (HB69.out.trans (hb.mono HB69.out.size))
          have HZ70 : Hid (w69.heap.size ≤ w70.heap.size) := Lib.hid hb.size
          have HRk70 := Lib.hid (HRk0.out.below HB70.out (Nat.le_refl _))
          have HRv70 := Lib.hid (HRv69.out.below hb (Nat.le_refl _))
          have HBs60_70 : Hid (Below w60.heap.size w60 w70) := Lib.hid (HBs60_69.out.trans (hb.mono HBs60_69.out.size))
          have HBs69_70 : Hid (Below w69.heap.size w69 w70) := Lib.hid (HBs69_69.out.trans (hb.mono HBs69_69.out.size))
          clear hb
          obtain ⟨qax, qcx, rfl⟩ := ho.form
          have HRx70 := Lib.hid (ho)
          have HBs70_70 : Hid (Below w70.heap.size w70 w70) := Lib.hid (Below.refl _ _)
          clear ho
          go_wp2_with fail
          refine (specPairs_any _ vs _ HRv70.out rs rt HR3.out).mono ?_
          rintro e w71 ⟨⟨v, rfl, ho⟩, hb⟩
          have HB71 : Hid (Below w.heap.size w w71) := Lib.hid (HB70.out.trans (hb.mono HB70.out.size))
          have HZ71 : Hid (w70.heap.size ≤ w71.heap.size) := Lib.hid hb.size
          have HRk71 := Lib.hid (HRk0.out.below HB71.out (Nat.le_refl _))
          have HRv71 := Lib.hid (HRv70.out.below hb (Nat.le_refl _))
          have HRx71 := Lib.hid (HRx70.out.below hb (Nat.le_refl _))
          have HBs60_71 : Hid (Below w60.heap.size w60 w71) := Lib.hid (HBs60_70.out.trans (hb.mono HBs60_70.out.size))
          have HBs69_71 : Hid (Below w69.heap.size w69 w71) := Lib.hid (HBs69_70.out.trans (hb.mono HBs69_70.out.size))
          have HBs70_71 : Hid (Below w70.heap.size w70 w71) := Lib.hid (HBs70_70.out.trans (hb.mono HBs70_70.out.size))
          clear hb
          obtain ⟨qay, qcy, rfl⟩ := ho.form
          have HRy71 := Lib.hid (ho)
          have HBs71_71 : Hid (Below w71.heap.size w71 w71) := Lib.hid (Below.refl _ _)
          clear ho
          go_wp2_with fail
          refine (rTable_yes _ _ rs _ HRx71.out HRy71.out).mono ?_
          rintro e w72 ⟨rfl, hb⟩
          have HB72 : Hid (Below w.heap.size w w72) := Lib.hid (HB71.out.trans (hb.mono HB71.out.size))
          have HZ72 : Hid (w71.heap.size ≤ w72.heap.size) := Lib.hid hb.size
          have HRk72 := Lib.hid (HRk0.out.below HB72.out (Nat.le_refl _))
          have HRv72 := Lib.hid (HRv71.out.below hb (Nat.le_refl _))
          have HRx72 := Lib.hid (HRx71.out.below hb (Nat.le_refl _))
          have HRy72 := Lib.hid (HRy71.out.below hb (Nat.le_refl _))
          have HBs60_72 : Hid (Below w60.heap.size w60 w72) := Lib.hid (HBs60_71.out.trans (hb.mono HBs60_71.out.size))
          have HBs69_72 : Hid (Below w69.heap.size w69 w72) := Lib.hid (HBs69_71.out.trans (hb.mono HBs69_71.out.size))
          have HBs70_72 : Hid (Below w70.heap.size w70 w72) := Lib.hid (HBs70_71.out.trans (hb.mono HBs70_71.out.size))
          have HBs71_72 : Hid (Below w71.heap.size w71 w72) := Lib.hid (HBs71_71.out.trans (hb.mono HBs71_71.out.size))
          clear hb
          go_wp2_with fail
          refine (iGood_any _ vs _ HRv72.out rt HT3.out).mono ?_
          rintro e w73 ⟨rfl, hb⟩
          have HB73 : Hid (Below w.heap.size w w73) := Lib.hid (HB72.out.trans (hb.mono HB72.out.size))
          have HZ73 : Hid (w72.heap.size ≤ w73.heap.size) := Lib.hid hb.size
          have HRk73 := Lib.hid (HRk0.out.below HB73.out (Nat.le_refl _))
          have HRv73 := Lib.hid (HRv72.out.below hb (Nat.le_refl _))
          have HBs60_73 : Hid (Below w60.heap.size w60 w73) := Lib.hid (HBs60_72.out.trans (hb.mono HBs60_72.out.size))
          have HBs69_73 : Hid (Below w69.heap.size w69 w73) := Lib.hid (HBs69_72.out.trans (hb.mono HBs69_72.out.size))
          clear hb
          go_wp2_with fail
          go_ret
          exact ⟨ret_bool (by first | (simp; done) | rfl), HB73.out⟩
end Go.Proofs.Ytblbeoeklkcamaa
