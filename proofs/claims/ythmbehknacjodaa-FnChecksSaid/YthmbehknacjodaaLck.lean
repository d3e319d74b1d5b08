/- The law FnChecks. -/
import Derived.Test.YthmbehknacjodaaKm
import Derived.Test.YthmbehknacjodaaVin
import Derived.Test.YthmbehknacjodaaKw
import Derived.Test.YthmbehknacjodaaKv
import Derived.Test.YthmbehknacjodaaK9b
import Derived.Test.YthmbehknacjodaaK9d
import Derived.Test.YthmbehknacjodaaK9c
import Derived.Test.YthmbehknacjodaaK9e
namespace Go.Proofs.Ythmbehknacjodaa
set_option linter.unusedVariables false
open Go.RowKit
set_option linter.unusedSimpArgs false

def BoB (f : Nat) (av : Array Value) (w : World) (c b : Bool) : Prop :=
  Calls Try.prog f av w fun e w' => e = .returned (.tuple #[.bool c, .bool b]) ∧ Below w.heap.size w w'
def RdB (f : Nat) (av : Array Value) (w : World) (ms : List (Int × Int)) (b : Bool) : Prop :=
  Calls Try.prog f av w fun e w' => (∃ v, e = .returned (.tuple #[v, .bool b]) ∧ RodsR w' v ms) ∧ Below w.heap.size w w'
theorem ofOwnR {f : Nat} {av : Array Value} {w : World} {ms : List (Int × Int)} {b : Bool} (h : Calls Try.prog f av w fun e w' => (∃ v, e = .returned (.tuple #[v, .bool b]) ∧ w'.ownsRow w.heap.size 77 2 v ms.length (flat ms)) ∧ Below w.heap.size w w') : RdB f av w ms b :=
  h.mono fun _ _ ⟨⟨v, he, ho⟩, hb⟩ => ⟨⟨v, he, RodsR.of_own ho⟩, hb⟩
theorem nat_of {x : Int} (h : 0 ≤ x) : ∃ n : Nat, x = (n : Int) := ⟨x.toNat, by omega⟩
theorem wd_same (x y z : Int) (hx : -1 ≤ x ∧ x ≤ 10000) (hy : -1 ≤ y ∧ y ≤ 10000) : ∃ (qs : List Int) (b : Bool),
    (∀ w, IsB 37 #[.int .i64 x, .int .i64 y, .int .i64 z] w qs b) ∧ (∀ w, IsB 36 #[.int .i64 x, .int .i64 y, .int .i64 z] w qs b) ∧
    IntKind.i64.wrap (x * y) = x * y ∧
    (b = true → (qs = [] ∧ z = x * y ∧ (∀ w, BoB 38 #[.int .i64 x, .int .i64 y, .int .i64 z] w true true)) ∨ (qs ≠ [] ∧ z ≠ x * y)) := by
  have hw : IntKind.i64.wrap (x * y) = x * y := by
    have h1 : (x + 1) * (10000 - y) ≥ 0 := Int.mul_nonneg (by omega) (by omega)
    have h2 : (10000 - x) * (10000 - y) ≥ 0 := Int.mul_nonneg (by omega) (by omega)
    rw [Int.add_mul, Int.one_mul, Int.mul_sub] at h1
    rw [Int.sub_mul, Int.mul_sub x] at h2
    rw [IntKind.wrap_i64]; omega
  by_cases h : okFs x y ∧ (0 ≤ z ∧ z ≤ 99999999)
  · obtain ⟨⟨⟨h1, h2⟩, h3, h4⟩, h5, h6⟩ := h
    obtain ⟨a, rfl⟩ := nat_of h1
    obtain ⟨b, rfl⟩ := nat_of h3
    obtain ⟨n, rfl⟩ := nat_of h5
    have ht := mul_top (show a ≤ 9999 by omega) (show b ≤ 9999 by omega)
    have hab : ((a * b : Nat) : Int) = (a : Int) * (b : Int) := Int.natCast_mul a b
    refine ⟨wrL 8 0 (a * b) n, true, fun w => speWrongDigits_yes a b n w (by omega) (by omega) (by omega), fun w => ofOwnI (impWrongDigits_yes a b n w (by omega) (by omega) (by omega)), hw, fun _ => ?_⟩
    have hn := wrL_nil 8 0 (a * b) n (by omega) (by omega)
    by_cases hq : wrL 8 0 (a * b) n = []
    · refine .inl ⟨hq, by have := hn.1 hq; omega, fun w => ?_⟩
      have he := impCastingOut_yes a b (n : Int) w (by omega) (by omega) (by omega)
      have e1 : (((a : Int) * (b : Int)) % 9 == (n : Int) % 9) = true := by rw [hn.1 hq, hab]; simp
      rw [e1] at he
      exact he
    · exact .inr ⟨hq, fun e => hq (hn.2 (by omega))⟩
  · exact ⟨[], false, fun w => speWrongDigits_no x y z w h, fun w => ofOwnI (impWrongDigits_no x y z w h), hw, fun h => by cases h⟩
theorem co_same (x y z : Int) : ∃ (c b : Bool), (∀ w, BoB 40 #[.int .i64 x, .int .i64 y, .int .i64 z] w c b) ∧ (∀ w, BoB 38 #[.int .i64 x, .int .i64 y, .int .i64 z] w c b) := by
  by_cases h : okFs x y ∧ 0 ≤ z
  · obtain ⟨⟨⟨h1, h2⟩, h3, h4⟩, h5⟩ := h
    obtain ⟨a, rfl⟩ := nat_of h1
    obtain ⟨b, rfl⟩ := nat_of h3
    exact ⟨_, _, fun w => speCastingOut_yes a b z w (by omega) (by omega) h5, fun w => impCastingOut_yes a b z w (by omega) (by omega) h5⟩
  · exact ⟨_, _, fun w => speCastingOut_no x y z w h, fun w => impCastingOut_no x y z w h⟩
theorem dp_same (n d : Int) : ∃ (qs : List Int) (b : Bool), (∀ w, IsB 43 #[.int .i64 n, .int .i64 d] w qs b) ∧ (∀ w, IsB 42 #[.int .i64 n, .int .i64 d] w qs b) ∧
    (b = true → ∃ D : Int, (∀ x ∈ qs, 0 ≤ x) ∧ qs.sum ≤ 9223372036854775807 ∧ (∀ w, Calls Try.prog 44 #[.int .i64 n] w fun e w' => e = .returned (.int .i64 D) ∧ Below w.heap.size w w') ∧ qs.sum = d * D ∧ IntKind.i64.wrap (d * D) = d * D) := by
  by_cases h : (0 ≤ n ∧ n ≤ 9999) ∧ (0 ≤ d ∧ d ≤ 9)
  · obtain ⟨⟨h1, h2⟩, h3, h4⟩ := h
    obtain ⟨a, rfl⟩ := nat_of h1
    have hs := dpL_sum d a
    have hd := dsN_le a
    have m1 : 0 ≤ d * (dsN a : Int) := Int.mul_nonneg h3 (by omega)
    have m2 : d * (dsN a : Int) ≤ 9 * (dsN a : Int) := Int.mul_le_mul_of_nonneg_right h4 (by omega)
    refine ⟨dpL d (dgL a), true, fun w => speDigitProducts_yes a d w (by omega) ⟨h3, h4⟩, fun w => ofOwnI (impDigitProducts_yes a d w (by omega) ⟨h3, h4⟩), fun _ => ⟨(dsN a : Int), fun x hx => ?_, by omega, fun w => vDigitSum_yes a w (by omega), hs, by rw [IntKind.wrap_i64]; omega⟩⟩
    obtain ⟨e, he, rfl⟩ := List.mem_map.1 hx
    exact Int.mul_nonneg h3 (dgL_bd a e he).1
  · exact ⟨[], false, fun w => speDigitProducts_no n d w h, fun w => ofOwnI (impDigitProducts_no n d w h), fun h => by cases h⟩
theorem tc_same (x y : Int) : ∃ (n : Int) (b : Bool), (∀ w, InB 29 #[.int .i64 x, .int .i64 y] w n b) ∧ (∀ w, InB 28 #[.int .i64 x, .int .i64 y] w n b) ∧ 0 ≤ n := by
  by_cases h : okFs x y
  · obtain ⟨⟨h1, h2⟩, h3, h4⟩ := h
    obtain ⟨a, rfl⟩ := nat_of h1
    obtain ⟨b, rfl⟩ := nat_of h3
    exact ⟨_, _, fun w => speTimesCarries_yes a b w (by omega) (by omega), fun w => impTimesCarries_yes a b w (by omega) (by omega), by omega⟩
  · exact ⟨_, _, fun w => speTimesCarries_no x y w h, fun w => impTimesCarries_no x y w h, by omega⟩
theorem bd_same (x y : Int) : ∃ (rs : List (Int × Int)) (b : Bool), (∀ w, RdB 25 #[.int .i64 x, .int .i64 y] w rs b) ∧ (∀ w, RdB 24 #[.int .i64 x, .int .i64 y] w rs b) := by
  by_cases h : okFs x y
  · obtain ⟨⟨h1, h2⟩, h3, h4⟩ := h
    obtain ⟨a, rfl⟩ := nat_of h1
    obtain ⟨b, rfl⟩ := nat_of h3
    exact ⟨_, _, fun w => speByDoubling_yes a b w (by omega) (by omega), fun w => ofOwnR (impByDoubling_yes a b w (by omega) (by omega))⟩
  · exact ⟨_, _, fun w => speByDoubling_no x y w h, fun w => ofOwnR (impByDoubling_no x y w h)⟩
set_option maxRecDepth 100000 in
set_option maxHeartbeats 12800000 in
theorem lawChecks (w : World) (ad : Option Addr) (cp : Nat) (L : List UInt8) (h : SlR w (.slice ad L.length cp) (L.map fun c => .int .u8 (c.toNat : Int))) :
    Calls Try.prog 4 #[.slice ad L.length cp] w fun e w' => e = .returned (.bool true) ∧ Below w.heap.size w w' := by
  have hm : L.length ≤ 9223372036854775807 := by
    obtain ⟨a, c, e, ⟨m, _⟩, _⟩ := h
    rw [List.length_map] at m
    exact m
  have HB0 : Hid (Below w.heap.size w w) := Lib.hid (Below.refl _ _)
  have HRk0 := Lib.hid (h)
  clear h
  by_cases hbig : (65536 : Int) < (L.length : Int)
  · go_enter Try.func4, Try.ntmps4
    go_wp2_with fail
    refine (vBig_any ad L.length cp _ true (decide_eq_true hbig)).mono ?_
    rintro e w' ⟨rfl, hw⟩
    subst w'
    go_wp2_with fail
    go_ret
    exact ⟨rfl, Below.refl _ _⟩
  · go_enter Try.func4, Try.ntmps4
    go_wp2_with fail
    refine (vBig_any ad L.length cp _ false (decide_eq_false (by omega))).mono ?_
    rintro e w' ⟨rfl, hw⟩
    subst w'
    go_wp2_with fail
    refine (drawWrongDigits_any _ L _ HRk0.out).mono ?_
    rintro e w1 ⟨⟨x, y, z, rfl, hx, hy, -⟩, hb⟩
    have HB1 : Hid (Below w.heap.size w w1) := Lib.hid (HB0.out.trans (hb.mono HB0.out.size))
    have HZ1 : Hid (w.heap.size ≤ w1.heap.size) := Lib.hid hb.size
    have HRk1 := Lib.hid (HRk0.out.below HB1.out (Nat.le_refl _))
    clear hb
    obtain ⟨qs, b, hS, hI, hwm, hY⟩ := wd_same x y z hx hy
    have HS1 := Lib.hid hS
    have HI1 := Lib.hid hI
    clear hS hI hx hy
    have hb1 : (b != b) = false := by simp
    go_wp2_with fail
    refine (HI1.out _).mono ?_
    rintro e w2 ⟨⟨v, rfl, ho⟩, hb⟩
    have HB2 : Hid (Below w.heap.size w w2) := Lib.hid (HB1.out.trans (hb.mono HB1.out.size))
    have HZ2 : Hid (w1.heap.size ≤ w2.heap.size) := Lib.hid hb.size
    have HRk2 := Lib.hid (HRk0.out.below HB2.out (Nat.le_refl _))
    clear hb
    obtain ⟨qao, qco, rfl⟩ := ho.form
    have HRo2 := Lib.hid (ho)
    have HBs2_2 : Hid (Below w2.heap.size w2 w2) := Lib.hid (Below.refl _ _)
    clear ho
    go_wp2_with fail
    refine (HS1.out _).mono ?_
    rintro e w3 ⟨⟨v, rfl, ho⟩, hb⟩
    have HB3 : Hid (Below w.heap.size w w3) := Lib.hid (HB2.out.trans (hb.mono HB2.out.size))
    have HZ3 : Hid (w2.heap.size ≤ w3.heap.size) := Lib.hid hb.size
    have HRk3 := Lib.hid (HRk0.out.below HB3.out (Nat.le_refl _))
    have HRo3 := Lib.hid (HRo2.out.below hb (Nat.le_refl _))
    have HBs2_3 : Hid (Below w2.heap.size w2 w3) := Lib.hid (HBs2_2.out.trans (hb.mono HBs2_2.out.size))
    clear hb
    obtain ⟨qap, qcp, rfl⟩ := ho.form
    have HRp3 := Lib.hid (ho)
    have HBs3_3 : Hid (Below w3.heap.size w3 w3) := Lib.hid (Below.refl _ _)
    clear ho
    go_wp2_with fail
    refine (vInts_yes _ _ qs _ HRo3.out HRp3.out).mono ?_
    rintro e w4 ⟨rfl, hb⟩
    have HB4 : Hid (Below w.heap.size w w4) := Lib.hid (HB3.out.trans (hb.mono HB3.out.size))
    have HZ4 : Hid (w3.heap.size ≤ w4.heap.size) := Lib.hid hb.size
    have HRk4 := Lib.hid (HRk0.out.below HB4.out (Nat.le_refl _))
    have HRo4 := Lib.hid (HRo3.out.below hb (Nat.le_refl _))
    have HRp4 := Lib.hid (HRp3.out.below hb (Nat.le_refl _))
    have HBs2_4 : Hid (Below w2.heap.size w2 w4) := Lib.hid (HBs2_3.out.trans (hb.mono HBs2_3.out.size))
    have HBs3_4 : Hid (Below w3.heap.size w3 w4) := Lib.hid (HBs3_3.out.trans (hb.mono HBs3_3.out.size))
    clear hb
    cases b with
    | true =>
      rcases hY rfl with ⟨hq, hz, hco⟩ | ⟨hq, hz⟩
      · clear hY
        have HCO := Lib.hid hco
        clear hco
        have hql : ((qs.length : Int) == 0) = true := by rw [hq]; rfl
        have hzz : (z == x * y) = true := by rw [hz]; simp
        clear hq hz
        go_wp2_with fail
        refine (HCO.out _).mono ?_
        rintro e w5 ⟨rfl, hb⟩
        have HB5 : Hid (Below w.heap.size w w5) := Lib.hid (HB4.out.trans (hb.mono HB4.out.size))
        have HZ5 : Hid (w4.heap.size ≤ w5.heap.size) := Lib.hid hb.size
        have HRk5 := Lib.hid (HRk0.out.below HB5.out (Nat.le_refl _))
        clear hb
        go_wp2_with fail
        refine (drawCastingOut_any _ L _ HRk5.out).mono ?_
        rintro e w6 ⟨⟨x2, y2, z2, rfl, -, -, -⟩, hb⟩
        have HB6 : Hid (Below w.heap.size w w6) := Lib.hid (HB5.out.trans (hb.mono HB5.out.size))
        have HZ6 : Hid (w5.heap.size ≤ w6.heap.size) := Lib.hid hb.size
        have HRk6 := Lib.hid (HRk0.out.below HB6.out (Nat.le_refl _))
        clear hb
        obtain ⟨c2, b2, hS, hI⟩ := co_same x2 y2 z2
        have HS2 := Lib.hid hS
        have HI2 := Lib.hid hI
        clear hS hI
        have hb2 : (b2 != b2) = false := by simp
        have hc2 : (c2 != c2) = false := by simp
        go_wp2_with fail
        refine (HI2.out _).mono ?_
        rintro e w7 ⟨rfl, hb⟩
        have HB7 : Hid (Below w.heap.size w w7) := Lib.hid (HB6.out.trans (hb.mono HB6.out.size))
        have HZ7 : Hid (w6.heap.size ≤ w7.heap.size) := Lib.hid hb.size
        have HRk7 := Lib.hid (HRk0.out.below HB7.out (Nat.le_refl _))
        clear hb
        go_wp2_with fail
        refine (HS2.out _).mono ?_
        rintro e w8 ⟨rfl, hb⟩
        have HB8 : Hid (Below w.heap.size w w8) := Lib.hid (HB7.out.trans (hb.mono HB7.out.size))
        have HZ8 : Hid (w7.heap.size ≤ w8.heap.size) := Lib.hid hb.size
        have HRk8 := Lib.hid (HRk0.out.below HB8.out (Nat.le_refl _))
        clear hb
        go_wp2_with fail
        refine (drawDigitProducts_any _ L _ HRk8.out).mono ?_
        rintro e w9 ⟨⟨n3, d3, rfl, -, -⟩, hb⟩
        have HB9 : Hid (Below w.heap.size w w9) := Lib.hid (HB8.out.trans (hb.mono HB8.out.size))
        have HZ9 : Hid (w8.heap.size ≤ w9.heap.size) := Lib.hid hb.size
        have HRk9 := Lib.hid (HRk0.out.below HB9.out (Nat.le_refl _))
        clear hb
        obtain ⟨qs3, b3, hS, hI, hY3⟩ := dp_same n3 d3
        have HS3 := Lib.hid hS
        have HI3 := Lib.hid hI
        clear hS hI
        have hb3 : (b3 != b3) = false := by simp
        go_wp2_with fail
        refine (HI3.out _).mono ?_
        rintro e w10 ⟨⟨v, rfl, ho⟩, hb⟩
        have HB10 : Hid (Below w.heap.size w w10) := Lib.hid (HB9.out.trans (hb.mono HB9.out.size))
        have HZ10 : Hid (w9.heap.size ≤ w10.heap.size) := Lib.hid hb.size
        have HRk10 := Lib.hid (HRk0.out.below HB10.out (Nat.le_refl _))
        clear hb
        obtain ⟨qar, qcr, rfl⟩ := ho.form
        have HRr10 := Lib.hid (ho)
        have HBs10_10 : Hid (Below w10.heap.size w10 w10) := Lib.hid (Below.refl _ _)
        clear ho
        go_wp2_with fail
        refine (HS3.out _).mono ?_
        rintro e w11 ⟨⟨v, rfl, ho⟩, hb⟩
        have HB11 : Hid (Below w.heap.size w w11) := Lib.hid (HB10.out.trans (hb.mono HB10.out.size))
        have HZ11 : Hid (w10.heap.size ≤ w11.heap.size) := Lib.hid hb.size
        have HRk11 := Lib.hid (HRk0.out.below HB11.out (Nat.le_refl _))
        have HRr11 := Lib.hid (HRr10.out.below hb (Nat.le_refl _))
        have HBs10_11 : Hid (Below w10.heap.size w10 w11) := Lib.hid (HBs10_10.out.trans (hb.mono HBs10_10.out.size))
        clear hb
        obtain ⟨qas, qcs, rfl⟩ := ho.form
        have HRs11 := Lib.hid (ho)
        have HBs11_11 : Hid (Below w11.heap.size w11 w11) := Lib.hid (Below.refl _ _)
        clear ho
        go_wp2_with fail
        refine (vInts_yes _ _ qs3 _ HRr11.out HRs11.out).mono ?_
        rintro e w12 ⟨rfl, hb⟩
        have HB12 : Hid (Below w.heap.size w w12) := Lib.hid (HB11.out.trans (hb.mono HB11.out.size))
        have HZ12 : Hid (w11.heap.size ≤ w12.heap.size) := Lib.hid hb.size
        have HRk12 := Lib.hid (HRk0.out.below HB12.out (Nat.le_refl _))
        have HRr12 := Lib.hid (HRr11.out.below hb (Nat.le_refl _))
        have HRs12 := Lib.hid (HRs11.out.below hb (Nat.le_refl _))
        have HBs10_12 : Hid (Below w10.heap.size w10 w12) := Lib.hid (HBs10_11.out.trans (hb.mono HBs10_11.out.size))
        have HBs11_12 : Hid (Below w11.heap.size w11 w12) := Lib.hid (HBs11_11.out.trans (hb.mono HBs11_11.out.size))
        clear hb
        cases b3 with
        | true =>
          obtain ⟨D3, hnn, hle, hds, hsum, hw3⟩ := hY3 rfl
          have HNN := Lib.hid hnn
          have HLE := Lib.hid hle
          have HDS := Lib.hid hds
          have hne : (d3 * D3 != d3 * D3) = false := by simp
          have HSUM := Lib.hid hsum
          clear hY3 hnn hle hds hsum
          go_wp2_with fail
          refine (vSum_yes _ qs3 _ HRr12.out HNN.out HLE.out).mono ?_
          rintro e w13 ⟨rfl, hb⟩
          have HB13 : Hid (Below w.heap.size w w13) := Lib.hid (HB12.out.trans (hb.mono HB12.out.size))
          have HZ13 : Hid (w12.heap.size ≤ w13.heap.size) := Lib.hid hb.size
          have HRk13 := Lib.hid (HRk0.out.below HB13.out (Nat.le_refl _))
          have HRr13 := Lib.hid (HRr12.out.below hb (Nat.le_refl _))
          have HBs10_13 : Hid (Below w10.heap.size w10 w13) := Lib.hid (HBs10_12.out.trans (hb.mono HBs10_12.out.size))
          clear hb
          rw [HSUM.out]
          go_wp2_with fail
          refine (HDS.out _).mono ?_
          rintro e w14 ⟨rfl, hb⟩
          have HB14 : Hid (Below w.heap.size w w14) := Lib.hid (HB13.out.trans (hb.mono HB13.out.size))
          have HZ14 : Hid (w13.heap.size ≤ w14.heap.size) := Lib.hid hb.size
          have HRk14 := Lib.hid (HRk0.out.below HB14.out (Nat.le_refl _))
          clear hb
          go_wp2_with fail
          refine (drawTimesCarries_any _ L _ HRk14.out).mono ?_
          rintro e w15 ⟨⟨x4, y4, rfl, -, -⟩, hb⟩
          have HB15 : Hid (Below w.heap.size w w15) := Lib.hid (HB14.out.trans (hb.mono HB14.out.size))
          have HZ15 : Hid (w14.heap.size ≤ w15.heap.size) := Lib.hid hb.size
          have HRk15 := Lib.hid (HRk0.out.below HB15.out (Nat.le_refl _))
          clear hb
          obtain ⟨n4, b4, hS, hI, -⟩ := tc_same x4 y4
          have HS4 := Lib.hid hS
          have HI4 := Lib.hid hI
          clear hS hI
          have hb4 : (b4 != b4) = false := by simp
          have hn4 : (n4 != n4) = false := by simp
          go_wp2_with fail
          refine (HI4.out _).mono ?_
          rintro e w16 ⟨rfl, hb⟩
          have HB16 : Hid (Below w.heap.size w w16) := Lib.hid (HB15.out.trans (hb.mono HB15.out.size))
          have HZ16 : Hid (w15.heap.size ≤ w16.heap.size) := Lib.hid hb.size
          have HRk16 := Lib.hid (HRk0.out.below HB16.out (Nat.le_refl _))
          clear hb
          go_wp2_with fail
          refine (HS4.out _).mono ?_
          rintro e w17 ⟨rfl, hb⟩
          have HB17 : Hid (Below w.heap.size w w17) := Lib.hid (HB16.out.trans (hb.mono HB16.out.size))
          have HZ17 : Hid (w16.heap.size ≤ w17.heap.size) := Lib.hid hb.size
          have HRk17 := Lib.hid (HRk0.out.below HB17.out (Nat.le_refl _))
          clear hb
          go_wp2_with fail
          refine (drawByDoubling_any _ L _ HRk17.out).mono ?_
          rintro e w18 ⟨⟨x5, y5, rfl, -, -⟩, hb⟩
          have HB18 : Hid (Below w.heap.size w w18) := Lib.hid (HB17.out.trans (hb.mono HB17.out.size))
          have HZ18 : Hid (w17.heap.size ≤ w18.heap.size) := Lib.hid hb.size
          have HRk18 := Lib.hid (HRk0.out.below HB18.out (Nat.le_refl _))
          clear hb
          obtain ⟨rs5, b5, hS, hI⟩ := bd_same x5 y5
          have HS5 := Lib.hid hS
          have HI5 := Lib.hid hI
          clear hS hI
          have hb5 : (b5 == b5) = true := by simp
          go_wp2_with fail
          refine (HI5.out _).mono ?_
          rintro e w19 ⟨⟨v, rfl, ho⟩, hb⟩
          have HB19 : Hid (Below w.heap.size w w19) := Lib.hid (HB18.out.trans (hb.mono HB18.out.size))
          have HZ19 : Hid (w18.heap.size ≤ w19.heap.size) := Lib.hid hb.size
          have HRk19 := Lib.hid (HRk0.out.below HB19.out (Nat.le_refl _))
          clear hb
          obtain ⟨qai, qci, rfl⟩ : ∃ a c, v = .slice a rs5.length c := by obtain ⟨a, c, e, _⟩ := ho; exact ⟨a, c, e⟩
          have HRi19 := Lib.hid (ho)
          have HBs19_19 : Hid (Below w19.heap.size w19 w19) := Lib.hid (Below.refl _ _)
          clear ho
          go_wp2_with fail
          refine (HS5.out _).mono ?_
          rintro e w20 ⟨⟨v, rfl, ho⟩, hb⟩
          have HB20 : Hid (Below w.heap.size w w20) := Lib.hid (HB19.out.trans (hb.mono HB19.out.size))
          have HZ20 : Hid (w19.heap.size ≤ w20.heap.size) := Lib.hid hb.size
          have HRk20 := Lib.hid (HRk0.out.below HB20.out (Nat.le_refl _))
          have HRi20 := Lib.hid (HRi19.out.below hb (Nat.le_refl _))
          have HBs19_20 : Hid (Below w19.heap.size w19 w20) := Lib.hid (HBs19_19.out.trans (hb.mono HBs19_19.out.size))
          clear hb
          obtain ⟨qaj, qcj, rfl⟩ : ∃ a c, v = .slice a rs5.length c := by obtain ⟨a, c, e, _⟩ := ho; exact ⟨a, c, e⟩
          have HRj20 := Lib.hid (ho)
          have HBs20_20 : Hid (Below w20.heap.size w20 w20) := Lib.hid (Below.refl _ _)
          clear ho
          go_wp2_with fail
          refine (vPairs_yes _ _ rs5 _ HRi20.out HRj20.out).mono ?_
          rintro e w21 ⟨rfl, hb⟩
          have HB21 : Hid (Below w.heap.size w w21) := Lib.hid (HB20.out.trans (hb.mono HB20.out.size))
          have HZ21 : Hid (w20.heap.size ≤ w21.heap.size) := Lib.hid hb.size
          have HRk21 := Lib.hid (HRk0.out.below HB21.out (Nat.le_refl _))
          have HRi21 := Lib.hid (HRi20.out.below hb (Nat.le_refl _))
          have HRj21 := Lib.hid (HRj20.out.below hb (Nat.le_refl _))
          have HBs19_21 : Hid (Below w19.heap.size w19 w21) := Lib.hid (HBs19_20.out.trans (hb.mono HBs19_20.out.size))
          have HBs20_21 : Hid (Below w20.heap.size w20 w21) := Lib.hid (HBs20_20.out.trans (hb.mono HBs20_20.out.size))
          clear hb
          go_wp2_with fail
          go_ret
          exact ⟨rfl, HB21.out⟩
        | false =>
          clear hY3
          go_wp2_with fail
          refine (drawTimesCarries_any _ L _ HRk12.out).mono ?_
          rintro e w13 ⟨⟨x4, y4, rfl, -, -⟩, hb⟩
          have HB13 : Hid (Below w.heap.size w w13) := Lib.hid (HB12.out.trans (hb.mono HB12.out.size))
          have HZ13 : Hid (w12.heap.size ≤ w13.heap.size) := Lib.hid hb.size
          have HRk13 := Lib.hid (HRk0.out.below HB13.out (Nat.le_refl _))
          clear hb
          obtain ⟨n4, b4, hS, hI, -⟩ := tc_same x4 y4
          have HS4 := Lib.hid hS
          have HI4 := Lib.hid hI
          clear hS hI
          have hb4 : (b4 != b4) = false := by simp
          have hn4 : (n4 != n4) = false := by simp
          go_wp2_with fail
          refine (HI4.out _).mono ?_
          rintro e w14 ⟨rfl, hb⟩
          have HB14 : Hid (Below w.heap.size w w14) := Lib.hid (HB13.out.trans (hb.mono HB13.out.size))
          have HZ14 : Hid (w13.heap.size ≤ w14.heap.size) := Lib.hid hb.size
          have HRk14 := Lib.hid (HRk0.out.below HB14.out (Nat.le_refl _))
          clear hb
          go_wp2_with fail
          refine (HS4.out _).mono ?_
          rintro e w15 ⟨rfl, hb⟩
          have HB15 : Hid (Below w.heap.size w w15) := Lib.hid (HB14.out.trans (hb.mono HB14.out.size))
          have HZ15 : Hid (w14.heap.size ≤ w15.heap.size) := Lib.hid hb.size
          have HRk15 := Lib.hid (HRk0.out.below HB15.out (Nat.le_refl _))
          clear hb
          go_wp2_with fail
          refine (drawByDoubling_any _ L _ HRk15.out).mono ?_
          rintro e w16 ⟨⟨x5, y5, rfl, -, -⟩, hb⟩
          have HB16 : Hid (Below w.heap.size w w16) := Lib.hid (HB15.out.trans (hb.mono HB15.out.size))
          have HZ16 : Hid (w15.heap.size ≤ w16.heap.size) := Lib.hid hb.size
          have HRk16 := Lib.hid (HRk0.out.below HB16.out (Nat.le_refl _))
          clear hb
          obtain ⟨rs5, b5, hS, hI⟩ := bd_same x5 y5
          have HS5 := Lib.hid hS
          have HI5 := Lib.hid hI
          clear hS hI
          have hb5 : (b5 == b5) = true := by simp
          go_wp2_with fail
          refine (HI5.out _).mono ?_
          rintro e w17 ⟨⟨v, rfl, ho⟩, hb⟩
          have HB17 : Hid (Below w.heap.size w w17) := Lib.hid (HB16.out.trans (hb.mono HB16.out.size))
          have HZ17 : Hid (w16.heap.size ≤ w17.heap.size) := Lib.hid hb.size
          have HRk17 := Lib.hid (HRk0.out.below HB17.out (Nat.le_refl _))
          clear hb
          obtain ⟨qai, qci, rfl⟩ : ∃ a c, v = .slice a rs5.length c := by obtain ⟨a, c, e, _⟩ := ho; exact ⟨a, c, e⟩
          have HRi17 := Lib.hid (ho)
          have HBs17_17 : Hid (Below w17.heap.size w17 w17) := Lib.hid (Below.refl _ _)
          clear ho
          go_wp2_with fail
          refine (HS5.out _).mono ?_
          rintro e w18 ⟨⟨v, rfl, ho⟩, hb⟩
          have HB18 : Hid (Below w.heap.size w w18) := Lib.hid (HB17.out.trans (hb.mono HB17.out.size))
          have HZ18 : Hid (w17.heap.size ≤ w18.heap.size) := Lib.hid hb.size
          have HRk18 := Lib.hid (HRk0.out.below HB18.out (Nat.le_refl _))
          have HRi18 := Lib.hid (HRi17.out.below hb (Nat.le_refl _))
          have HBs17_18 : Hid (Below w17.heap.size w17 w18) := Lib.hid (HBs17_17.out.trans (hb.mono HBs17_17.out.size))
          clear hb
          obtain ⟨qaj, qcj, rfl⟩ : ∃ a c, v = .slice a rs5.length c := by obtain ⟨a, c, e, _⟩ := ho; exact ⟨a, c, e⟩
          have HRj18 := Lib.hid (ho)
          have HBs18_18 : Hid (Below w18.heap.size w18 w18) := Lib.hid (Below.refl _ _)
          clear ho
          go_wp2_with fail
          refine (vPairs_yes _ _ rs5 _ HRi18.out HRj18.out).mono ?_
          rintro e w19 ⟨rfl, hb⟩
          have HB19 : Hid (Below w.heap.size w w19) := Lib.hid (HB18.out.trans (hb.mono HB18.out.size))
          have HZ19 : Hid (w18.heap.size ≤ w19.heap.size) := Lib.hid hb.size
          have HRk19 := Lib.hid (HRk0.out.below HB19.out (Nat.le_refl _))
          have HRi19 := Lib.hid (HRi18.out.below hb (Nat.le_refl _))
          have HRj19 := Lib.hid (HRj18.out.below hb (Nat.le_refl _))
          have HBs17_19 : Hid (Below w17.heap.size w17 w19) := Lib.hid (HBs17_18.out.trans (hb.mono HBs17_18.out.size))
          have HBs18_19 : Hid (Below w18.heap.size w18 w19) := Lib.hid (HBs18_18.out.trans (hb.mono HBs18_18.out.size))
          clear hb
          go_wp2_with fail
          go_ret
          exact ⟨rfl, HB19.out⟩
      · clear hY
        have hq1 : qs.length ≠ 0 := fun e => hq (List.length_eq_zero_iff.1 e)
        have hql : ((qs.length : Int) == 0) = false := beq_eq_false_iff_ne.2 (by omega)
        have hzz : (z == x * y) = false := beq_eq_false_iff_ne.2 hz
        clear hq hz hq1
        go_wp2_with fail
        refine (drawCastingOut_any _ L _ HRk4.out).mono ?_
        rintro e w5 ⟨⟨x2, y2, z2, rfl, -, -, -⟩, hb⟩
        have HB5 : Hid (Below w.heap.size w w5) := Lib.hid (HB4.out.trans (hb.mono HB4.out.size))
        have HZ5 : Hid (w4.heap.size ≤ w5.heap.size) := Lib.hid hb.size
        have HRk5 := Lib.hid (HRk0.out.below HB5.out (Nat.le_refl _))
        clear hb
        obtain ⟨c2, b2, hS, hI⟩ := co_same x2 y2 z2
        have HS2 := Lib.hid hS
        have HI2 := Lib.hid hI
        clear hS hI
        have hb2 : (b2 != b2) = false := by simp
        have hc2 : (c2 != c2) = false := by simp
        go_wp2_with fail
        refine (HI2.out _).mono ?_
        rintro e w6 ⟨rfl, hb⟩
        have HB6 : Hid (Below w.heap.size w w6) := Lib.hid (HB5.out.trans (hb.mono HB5.out.size))
        have HZ6 : Hid (w5.heap.size ≤ w6.heap.size) := Lib.hid hb.size
        have HRk6 := Lib.hid (HRk0.out.below HB6.out (Nat.le_refl _))
        clear hb
        go_wp2_with fail
        refine (HS2.out _).mono ?_
        rintro e w7 ⟨rfl, hb⟩
        have HB7 : Hid (Below w.heap.size w w7) := Lib.hid (HB6.out.trans (hb.mono HB6.out.size))
        have HZ7 : Hid (w6.heap.size ≤ w7.heap.size) := Lib.hid hb.size
        have HRk7 := Lib.hid (HRk0.out.below HB7.out (Nat.le_refl _))
        clear hb
        go_wp2_with fail
        refine (drawDigitProducts_any _ L _ HRk7.out).mono ?_
        rintro e w8 ⟨⟨n3, d3, rfl, -, -⟩, hb⟩
        have HB8 : Hid (Below w.heap.size w w8) := Lib.hid (HB7.out.trans (hb.mono HB7.out.size))
        have HZ8 : Hid (w7.heap.size ≤ w8.heap.size) := Lib.hid hb.size
        have HRk8 := Lib.hid (HRk0.out.below HB8.out (Nat.le_refl _))
        clear hb
        obtain ⟨qs3, b3, hS, hI, hY3⟩ := dp_same n3 d3
        have HS3 := Lib.hid hS
        have HI3 := Lib.hid hI
        clear hS hI
        have hb3 : (b3 != b3) = false := by simp
        go_wp2_with fail
        refine (HI3.out _).mono ?_
        rintro e w9 ⟨⟨v, rfl, ho⟩, hb⟩
        have HB9 : Hid (Below w.heap.size w w9) := Lib.hid (HB8.out.trans (hb.mono HB8.out.size))
        have HZ9 : Hid (w8.heap.size ≤ w9.heap.size) := Lib.hid hb.size
        have HRk9 := Lib.hid (HRk0.out.below HB9.out (Nat.le_refl _))
        clear hb
        obtain ⟨qar, qcr, rfl⟩ := ho.form
        have HRr9 := Lib.hid (ho)
        have HBs9_9 : Hid (Below w9.heap.size w9 w9) := Lib.hid (Below.refl _ _)
        clear ho
        go_wp2_with fail
        refine (HS3.out _).mono ?_
        rintro e w10 ⟨⟨v, rfl, ho⟩, hb⟩
        have HB10 : Hid (Below w.heap.size w w10) := Lib.hid (HB9.out.trans (hb.mono HB9.out.size))
        have HZ10 : Hid (w9.heap.size ≤ w10.heap.size) := Lib.hid hb.size
        have HRk10 := Lib.hid (HRk0.out.below HB10.out (Nat.le_refl _))
        have HRr10 := Lib.hid (HRr9.out.below hb (Nat.le_refl _))
        have HBs9_10 : Hid (Below w9.heap.size w9 w10) := Lib.hid (HBs9_9.out.trans (hb.mono HBs9_9.out.size))
        clear hb
        obtain ⟨qas, qcs, rfl⟩ := ho.form
        have HRs10 := Lib.hid (ho)
        have HBs10_10 : Hid (Below w10.heap.size w10 w10) := Lib.hid (Below.refl _ _)
        clear ho
        go_wp2_with fail
        refine (vInts_yes _ _ qs3 _ HRr10.out HRs10.out).mono ?_
        rintro e w11 ⟨rfl, hb⟩
        have HB11 : Hid (Below w.heap.size w w11) := Lib.hid (HB10.out.trans (hb.mono HB10.out.size))
        have HZ11 : Hid (w10.heap.size ≤ w11.heap.size) := Lib.hid hb.size
        have HRk11 := Lib.hid (HRk0.out.below HB11.out (Nat.le_refl _))
        have HRr11 := Lib.hid (HRr10.out.below hb (Nat.le_refl _))
        have HRs11 := Lib.hid (HRs10.out.below hb (Nat.le_refl _))
        have HBs9_11 : Hid (Below w9.heap.size w9 w11) := Lib.hid (HBs9_10.out.trans (hb.mono HBs9_10.out.size))
        have HBs10_11 : Hid (Below w10.heap.size w10 w11) := Lib.hid (HBs10_10.out.trans (hb.mono HBs10_10.out.size))
        clear hb
        cases b3 with
        | true =>
          obtain ⟨D3, hnn, hle, hds, hsum, hw3⟩ := hY3 rfl
          have HNN := Lib.hid hnn
          have HLE := Lib.hid hle
          have HDS := Lib.hid hds
          have hne : (d3 * D3 != d3 * D3) = false := by simp
          have HSUM := Lib.hid hsum
          clear hY3 hnn hle hds hsum
          go_wp2_with fail
          refine (vSum_yes _ qs3 _ HRr11.out HNN.out HLE.out).mono ?_
          rintro e w12 ⟨rfl, hb⟩
          have HB12 : Hid (Below w.heap.size w w12) := Lib.hid (HB11.out.trans (hb.mono HB11.out.size))
          have HZ12 : Hid (w11.heap.size ≤ w12.heap.size) := Lib.hid hb.size
          have HRk12 := Lib.hid (HRk0.out.below HB12.out (Nat.le_refl _))
          have HRr12 := Lib.hid (HRr11.out.below hb (Nat.le_refl _))
          have HBs9_12 : Hid (Below w9.heap.size w9 w12) := Lib.hid (HBs9_11.out.trans (hb.mono HBs9_11.out.size))
          clear hb
          rw [HSUM.out]
          go_wp2_with fail
          refine (HDS.out _).mono ?_
          rintro e w13 ⟨rfl, hb⟩
          have HB13 : Hid (Below w.heap.size w w13) := Lib.hid (HB12.out.trans (hb.mono HB12.out.size))
          have HZ13 : Hid (w12.heap.size ≤ w13.heap.size) := Lib.hid hb.size
          have HRk13 := Lib.hid (HRk0.out.below HB13.out (Nat.le_refl _))
          clear hb
          go_wp2_with fail
          refine (drawTimesCarries_any _ L _ HRk13.out).mono ?_
          rintro e w14 ⟨⟨x4, y4, rfl, -, -⟩, hb⟩
          have HB14 : Hid (Below w.heap.size w w14) := Lib.hid (HB13.out.trans (hb.mono HB13.out.size))
          have HZ14 : Hid (w13.heap.size ≤ w14.heap.size) := Lib.hid hb.size
          have HRk14 := Lib.hid (HRk0.out.below HB14.out (Nat.le_refl _))
          clear hb
          obtain ⟨n4, b4, hS, hI, -⟩ := tc_same x4 y4
          have HS4 := Lib.hid hS
          have HI4 := Lib.hid hI
          clear hS hI
          have hb4 : (b4 != b4) = false := by simp
          have hn4 : (n4 != n4) = false := by simp
          go_wp2_with fail
          refine (HI4.out _).mono ?_
          rintro e w15 ⟨rfl, hb⟩
          have HB15 : Hid (Below w.heap.size w w15) := Lib.hid (HB14.out.trans (hb.mono HB14.out.size))
          have HZ15 : Hid (w14.heap.size ≤ w15.heap.size) := Lib.hid hb.size
          have HRk15 := Lib.hid (HRk0.out.below HB15.out (Nat.le_refl _))
          clear hb
          go_wp2_with fail
          refine (HS4.out _).mono ?_
          rintro e w16 ⟨rfl, hb⟩
          have HB16 : Hid (Below w.heap.size w w16) := Lib.hid (HB15.out.trans (hb.mono HB15.out.size))
          have HZ16 : Hid (w15.heap.size ≤ w16.heap.size) := Lib.hid hb.size
          have HRk16 := Lib.hid (HRk0.out.below HB16.out (Nat.le_refl _))
          clear hb
          go_wp2_with fail
          refine (drawByDoubling_any _ L _ HRk16.out).mono ?_
          rintro e w17 ⟨⟨x5, y5, rfl, -, -⟩, hb⟩
          have HB17 : Hid (Below w.heap.size w w17) := Lib.hid (HB16.out.trans (hb.mono HB16.out.size))
          have HZ17 : Hid (w16.heap.size ≤ w17.heap.size) := Lib.hid hb.size
          have HRk17 := Lib.hid (HRk0.out.below HB17.out (Nat.le_refl _))
          clear hb
          obtain ⟨rs5, b5, hS, hI⟩ := bd_same x5 y5
          have HS5 := Lib.hid hS
          have HI5 := Lib.hid hI
          clear hS hI
          have hb5 : (b5 == b5) = true := by simp
          go_wp2_with fail
          refine (HI5.out _).mono ?_
          rintro e w18 ⟨⟨v, rfl, ho⟩, hb⟩
          have HB18 : Hid (Below w.heap.size w w18) := Lib.hid (HB17.out.trans (hb.mono HB17.out.size))
          have HZ18 : Hid (w17.heap.size ≤ w18.heap.size) := Lib.hid hb.size
          have HRk18 := Lib.hid (HRk0.out.below HB18.out (Nat.le_refl _))
          clear hb
          obtain ⟨qai, qci, rfl⟩ : ∃ a c, v = .slice a rs5.length c := by obtain ⟨a, c, e, _⟩ := ho; exact ⟨a, c, e⟩
          have HRi18 := Lib.hid (ho)
          have HBs18_18 : Hid (Below w18.heap.size w18 w18) := Lib.hid (Below.refl _ _)
          clear ho
          go_wp2_with fail
          refine (HS5.out _).mono ?_
          rintro e w19 ⟨⟨v, rfl, ho⟩, hb⟩
          have HB19 : Hid (Below w.heap.size w w19) := Lib.hid (HB18.out.trans (hb.mono HB18.out.size))
          have HZ19 : Hid (w18.heap.size ≤ w19.heap.size) := Lib.hid hb.size
          have HRk19 := Lib.hid (HRk0.out.below HB19.out (Nat.le_refl _))
          have HRi19 := Lib.hid (HRi18.out.below hb (Nat.le_refl _))
          have HBs18_19 : Hid (Below w18.heap.size w18 w19) := Lib.hid (HBs18_18.out.trans (hb.mono HBs18_18.out.size))
          clear hb
          obtain ⟨qaj, qcj, rfl⟩ : ∃ a c, v = .slice a rs5.length c := by obtain ⟨a, c, e, _⟩ := ho; exact ⟨a, c, e⟩
          have HRj19 := Lib.hid (ho)
          have HBs19_19 : Hid (Below w19.heap.size w19 w19) := Lib.hid (Below.refl _ _)
          clear ho
          go_wp2_with fail
          refine (vPairs_yes _ _ rs5 _ HRi19.out HRj19.out).mono ?_
          rintro e w20 ⟨rfl, hb⟩
          have HB20 : Hid (Below w.heap.size w w20) := Lib.hid (HB19.out.trans (hb.mono HB19.out.size))
          have HZ20 : Hid (w19.heap.size ≤ w20.heap.size) := Lib.hid hb.size
          have HRk20 := Lib.hid (HRk0.out.below HB20.out (Nat.le_refl _))
          have HRi20 := Lib.hid (HRi19.out.below hb (Nat.le_refl _))
          have HRj20 := Lib.hid (HRj19.out.below hb (Nat.le_refl _))
          have HBs18_20 : Hid (Below w18.heap.size w18 w20) := Lib.hid (HBs18_19.out.trans (hb.mono HBs18_19.out.size))
          have HBs19_20 : Hid (Below w19.heap.size w19 w20) := Lib.hid (HBs19_19.out.trans (hb.mono HBs19_19.out.size))
          clear hb
          go_wp2_with fail
          go_ret
          exact ⟨rfl, HB20.out⟩
        | false =>
          clear hY3
          go_wp2_with fail
          refine (drawTimesCarries_any _ L _ HRk11.out).mono ?_
          rintro e w12 ⟨⟨x4, y4, rfl, -, -⟩, hb⟩
          have HB12 : Hid (Below w.heap.size w w12) := Lib.hid (HB11.out.trans (hb.mono HB11.out.size))
          have HZ12 : Hid (w11.heap.size ≤ w12.heap.size) := Lib.hid hb.size
          have HRk12 := Lib.hid (HRk0.out.below HB12.out (Nat.le_refl _))
          clear hb
          obtain ⟨n4, b4, hS, hI, -⟩ := tc_same x4 y4
          have HS4 := Lib.hid hS
          have HI4 := Lib.hid hI
          clear hS hI
          have hb4 : (b4 != b4) = false := by simp
          have hn4 : (n4 != n4) = false := by simp
          go_wp2_with fail
          refine (HI4.out _).mono ?_
          rintro e w13 ⟨rfl, hb⟩
          have HB13 : Hid (Below w.heap.size w w13) := Lib.hid (HB12.out.trans (hb.mono HB12.out.size))
          have HZ13 : Hid (w12.heap.size ≤ w13.heap.size) := Lib.hid hb.size
          have HRk13 := Lib.hid (HRk0.out.below HB13.out (Nat.le_refl _))
          clear hb
          go_wp2_with fail
          refine (HS4.out _).mono ?_
          rintro e w14 ⟨rfl, hb⟩
          have HB14 : Hid (Below w.heap.size w w14) := Lib.hid (HB13.out.trans (hb.mono HB13.out.size))
          have HZ14 : Hid (w13.heap.size ≤ w14.heap.size) := Lib.hid hb.size
          have HRk14 := Lib.hid (HRk0.out.below HB14.out (Nat.le_refl _))
          clear hb
          go_wp2_with fail
          refine (drawByDoubling_any _ L _ HRk14.out).mono ?_
          rintro e w15 ⟨⟨x5, y5, rfl, -, -⟩, hb⟩
          have HB15 : Hid (Below w.heap.size w w15) := Lib.hid (HB14.out.trans (hb.mono HB14.out.size))
          have HZ15 : Hid (w14.heap.size ≤ w15.heap.size) := Lib.hid hb.size
          have HRk15 := Lib.hid (HRk0.out.below HB15.out (Nat.le_refl _))
          clear hb
          obtain ⟨rs5, b5, hS, hI⟩ := bd_same x5 y5
          have HS5 := Lib.hid hS
          have HI5 := Lib.hid hI
          clear hS hI
          have hb5 : (b5 == b5) = true := by simp
          go_wp2_with fail
          refine (HI5.out _).mono ?_
          rintro e w16 ⟨⟨v, rfl, ho⟩, hb⟩
          have HB16 : Hid (Below w.heap.size w w16) := Lib.hid (HB15.out.trans (hb.mono HB15.out.size))
          have HZ16 : Hid (w15.heap.size ≤ w16.heap.size) := Lib.hid hb.size
          have HRk16 := Lib.hid (HRk0.out.below HB16.out (Nat.le_refl _))
          clear hb
          obtain ⟨qai, qci, rfl⟩ : ∃ a c, v = .slice a rs5.length c := by obtain ⟨a, c, e, _⟩ := ho; exact ⟨a, c, e⟩
          have HRi16 := Lib.hid (ho)
          have HBs16_16 : Hid (Below w16.heap.size w16 w16) := Lib.hid (Below.refl _ _)
          clear ho
          go_wp2_with fail
          refine (HS5.out _).mono ?_
          rintro e w17 ⟨⟨v, rfl, ho⟩, hb⟩
          have HB17 : Hid (Below w.heap.size w w17) := Lib.hid (HB16.out.trans (hb.mono HB16.out.size))
          have HZ17 : Hid (w16.heap.size ≤ w17.heap.size) := Lib.hid hb.size
          have HRk17 := Lib.hid (HRk0.out.below HB17.out (Nat.le_refl _))
          have HRi17 := Lib.hid (HRi16.out.below hb (Nat.le_refl _))
          have HBs16_17 : Hid (Below w16.heap.size w16 w17) := Lib.hid (HBs16_16.out.trans (hb.mono HBs16_16.out.size))
          clear hb
          obtain ⟨qaj, qcj, rfl⟩ : ∃ a c, v = .slice a rs5.length c := by obtain ⟨a, c, e, _⟩ := ho; exact ⟨a, c, e⟩
          have HRj17 := Lib.hid (ho)
          have HBs17_17 : Hid (Below w17.heap.size w17 w17) := Lib.hid (Below.refl _ _)
          clear ho
          go_wp2_with fail
          refine (vPairs_yes _ _ rs5 _ HRi17.out HRj17.out).mono ?_
          rintro e w18 ⟨rfl, hb⟩
          have HB18 : Hid (Below w.heap.size w w18) := Lib.hid (HB17.out.trans (hb.mono HB17.out.size))
          have HZ18 : Hid (w17.heap.size ≤ w18.heap.size) := Lib.hid hb.size
          have HRk18 := Lib.hid (HRk0.out.below HB18.out (Nat.le_refl _))
          have HRi18 := Lib.hid (HRi17.out.below hb (Nat.le_refl _))
          have HRj18 := Lib.hid (HRj17.out.below hb (Nat.le_refl _))
          have HBs16_18 : Hid (Below w16.heap.size w16 w18) := Lib.hid (HBs16_17.out.trans (hb.mono HBs16_17.out.size))
          have HBs17_18 : Hid (Below w17.heap.size w17 w18) := Lib.hid (HBs17_17.out.trans (hb.mono HBs17_17.out.size))
          clear hb
          go_wp2_with fail
          go_ret
          exact ⟨rfl, HB18.out⟩
    | false =>
      clear hY
      go_wp2_with fail
      refine (drawCastingOut_any _ L _ HRk4.out).mono ?_
      rintro e w5 ⟨⟨x2, y2, z2, rfl, -, -, -⟩, hb⟩
      have HB5 : Hid (Below w.heap.size w w5) := Lib.hid (HB4.out.trans (hb.mono HB4.out.size))
      have HZ5 : Hid (w4.heap.size ≤ w5.heap.size) := Lib.hid hb.size
      have HRk5 := Lib.hid (HRk0.out.below HB5.out (Nat.le_refl _))
      clear hb
      obtain ⟨c2, b2, hS, hI⟩ := co_same x2 y2 z2
      have HS2 := Lib.hid hS
      have HI2 := Lib.hid hI
      clear hS hI
      have hb2 : (b2 != b2) = false := by simp
      have hc2 : (c2 != c2) = false := by simp
      go_wp2_with fail
      refine (HI2.out _).mono ?_
      rintro e w6 ⟨rfl, hb⟩
      have HB6 : Hid (Below w.heap.size w w6) := Lib.hid (HB5.out.trans (hb.mono HB5.out.size))
      have HZ6 : Hid (w5.heap.size ≤ w6.heap.size) := Lib.hid hb.size
      have HRk6 := Lib.hid (HRk0.out.below HB6.out (Nat.le_refl _))
      clear hb
      go_wp2_with fail
      refine (HS2.out _).mono ?_
      rintro e w7 ⟨rfl, hb⟩
      have HB7 : Hid (Below w.heap.size w w7) := Lib.hid (HB6.out.trans (hb.mono HB6.out.size))
      have HZ7 : Hid (w6.heap.size ≤ w7.heap.size) := Lib.hid hb.size
      have HRk7 := Lib.hid (HRk0.out.below HB7.out (Nat.le_refl _))
      clear hb
      go_wp2_with fail
      refine (drawDigitProducts_any _ L _ HRk7.out).mono ?_
      rintro e w8 ⟨⟨n3, d3, rfl, -, -⟩, hb⟩
      have HB8 : Hid (Below w.heap.size w w8) := Lib.hid (HB7.out.trans (hb.mono HB7.out.size))
      have HZ8 : Hid (w7.heap.size ≤ w8.heap.size) := Lib.hid hb.size
      have HRk8 := Lib.hid (HRk0.out.below HB8.out (Nat.le_refl _))
      clear hb
      obtain ⟨qs3, b3, hS, hI, hY3⟩ := dp_same n3 d3
      have HS3 := Lib.hid hS
      have HI3 := Lib.hid hI
      clear hS hI
      have hb3 : (b3 != b3) = false := by simp
      go_wp2_with fail
      refine (HI3.out _).mono ?_
      rintro e w9 ⟨⟨v, rfl, ho⟩, hb⟩
      have HB9 : Hid (Below w.heap.size w w9) := Lib.hid (HB8.out.trans (hb.mono HB8.out.size))
      have HZ9 : Hid (w8.heap.size ≤ w9.heap.size) := Lib.hid hb.size
      have HRk9 := Lib.hid (HRk0.out.below HB9.out (Nat.le_refl _))
      clear hb
      obtain ⟨qar, qcr, rfl⟩ := ho.form
      have HRr9 := Lib.hid (ho)
      have HBs9_9 : Hid (Below w9.heap.size w9 w9) := Lib.hid (Below.refl _ _)
      clear ho
      go_wp2_with fail
      refine (HS3.out _).mono ?_
      rintro e w10 ⟨⟨v, rfl, ho⟩, hb⟩
      have HB10 : Hid (Below w.heap.size w w10) := Lib.hid (HB9.out.trans (hb.mono HB9.out.size))
      have HZ10 : Hid (w9.heap.size ≤ w10.heap.size) := Lib.hid hb.size
      have HRk10 := Lib.hid (HRk0.out.below HB10.out (Nat.le_refl _))
      have HRr10 := Lib.hid (HRr9.out.below hb (Nat.le_refl _))
      have HBs9_10 : Hid (Below w9.heap.size w9 w10) := Lib.hid (HBs9_9.out.trans (hb.mono HBs9_9.out.size))
      clear hb
      obtain ⟨qas, qcs, rfl⟩ := ho.form
      have HRs10 := Lib.hid (ho)
      have HBs10_10 : Hid (Below w10.heap.size w10 w10) := Lib.hid (Below.refl _ _)
      clear ho
      go_wp2_with fail
      refine (vInts_yes _ _ qs3 _ HRr10.out HRs10.out).mono ?_
      rintro e w11 ⟨rfl, hb⟩
      have HB11 : Hid (Below w.heap.size w w11) := Lib.hid (HB10.out.trans (hb.mono HB10.out.size))
      have HZ11 : Hid (w10.heap.size ≤ w11.heap.size) := Lib.hid hb.size
      have HRk11 := Lib.hid (HRk0.out.below HB11.out (Nat.le_refl _))
      have HRr11 := Lib.hid (HRr10.out.below hb (Nat.le_refl _))
      have HRs11 := Lib.hid (HRs10.out.below hb (Nat.le_refl _))
      have HBs9_11 : Hid (Below w9.heap.size w9 w11) := Lib.hid (HBs9_10.out.trans (hb.mono HBs9_10.out.size))
      have HBs10_11 : Hid (Below w10.heap.size w10 w11) := Lib.hid (HBs10_10.out.trans (hb.mono HBs10_10.out.size))
      clear hb
      cases b3 with
      | true =>
        obtain ⟨D3, hnn, hle, hds, hsum, hw3⟩ := hY3 rfl
        have HNN := Lib.hid hnn
        have HLE := Lib.hid hle
        have HDS := Lib.hid hds
        have hne : (d3 * D3 != d3 * D3) = false := by simp
        have HSUM := Lib.hid hsum
        clear hY3 hnn hle hds hsum
        go_wp2_with fail
        refine (vSum_yes _ qs3 _ HRr11.out HNN.out HLE.out).mono ?_
        rintro e w12 ⟨rfl, hb⟩
        have HB12 : Hid (Below w.heap.size w w12) := Lib.hid (HB11.out.trans (hb.mono HB11.out.size))
        have HZ12 : Hid (w11.heap.size ≤ w12.heap.size) := Lib.hid hb.size
        have HRk12 := Lib.hid (HRk0.out.below HB12.out (Nat.le_refl _))
        have HRr12 := Lib.hid (HRr11.out.below hb (Nat.le_refl _))
        have HBs9_12 : Hid (Below w9.heap.size w9 w12) := Lib.hid (HBs9_11.out.trans (hb.mono HBs9_11.out.size))
        clear hb
        rw [HSUM.out]
        go_wp2_with fail
        refine (HDS.out _).mono ?_
        rintro e w13 ⟨rfl, hb⟩
        have HB13 : Hid (Below w.heap.size w w13) := Lib.hid (HB12.out.trans (hb.mono HB12.out.size))
        have HZ13 : Hid (w12.heap.size ≤ w13.heap.size) := Lib.hid hb.size
        have HRk13 := Lib.hid (HRk0.out.below HB13.out (Nat.le_refl _))
        clear hb
        go_wp2_with fail
        refine (drawTimesCarries_any _ L _ HRk13.out).mono ?_
        rintro e w14 ⟨⟨x4, y4, rfl, -, -⟩, hb⟩
        have HB14 : Hid (Below w.heap.size w w14) := Lib.hid (HB13.out.trans (hb.mono HB13.out.size))
        have HZ14 : Hid (w13.heap.size ≤ w14.heap.size) := Lib.hid hb.size
        have HRk14 := Lib.hid (HRk0.out.below HB14.out (Nat.le_refl _))
        clear hb
        obtain ⟨n4, b4, hS, hI, -⟩ := tc_same x4 y4
        have HS4 := Lib.hid hS
        have HI4 := Lib.hid hI
        clear hS hI
        have hb4 : (b4 != b4) = false := by simp
        have hn4 : (n4 != n4) = false := by simp
        go_wp2_with fail
        refine (HI4.out _).mono ?_
        rintro e w15 ⟨rfl, hb⟩
        have HB15 : Hid (Below w.heap.size w w15) := Lib.hid (HB14.out.trans (hb.mono HB14.out.size))
        have HZ15 : Hid (w14.heap.size ≤ w15.heap.size) := Lib.hid hb.size
        have HRk15 := Lib.hid (HRk0.out.below HB15.out (Nat.le_refl _))
        clear hb
        go_wp2_with fail
        refine (HS4.out _).mono ?_
        rintro e w16 ⟨rfl, hb⟩
        have HB16 : Hid (Below w.heap.size w w16) := Lib.hid (HB15.out.trans (hb.mono HB15.out.size))
        have HZ16 : Hid (w15.heap.size ≤ w16.heap.size) := Lib.hid hb.size
        have HRk16 := Lib.hid (HRk0.out.below HB16.out (Nat.le_refl _))
        clear hb
        go_wp2_with fail
        refine (drawByDoubling_any _ L _ HRk16.out).mono ?_
        rintro e w17 ⟨⟨x5, y5, rfl, -, -⟩, hb⟩
        have HB17 : Hid (Below w.heap.size w w17) := Lib.hid (HB16.out.trans (hb.mono HB16.out.size))
        have HZ17 : Hid (w16.heap.size ≤ w17.heap.size) := Lib.hid hb.size
        have HRk17 := Lib.hid (HRk0.out.below HB17.out (Nat.le_refl _))
        clear hb
        obtain ⟨rs5, b5, hS, hI⟩ := bd_same x5 y5
        have HS5 := Lib.hid hS
        have HI5 := Lib.hid hI
        clear hS hI
        have hb5 : (b5 == b5) = true := by simp
        go_wp2_with fail
        refine (HI5.out _).mono ?_
        rintro e w18 ⟨⟨v, rfl, ho⟩, hb⟩
        have HB18 : Hid (Below w.heap.size w w18) := Lib.hid (HB17.out.trans (hb.mono HB17.out.size))
        have HZ18 : Hid (w17.heap.size ≤ w18.heap.size) := Lib.hid hb.size
        have HRk18 := Lib.hid (HRk0.out.below HB18.out (Nat.le_refl _))
        clear hb
        obtain ⟨qai, qci, rfl⟩ : ∃ a c, v = .slice a rs5.length c := by obtain ⟨a, c, e, _⟩ := ho; exact ⟨a, c, e⟩
        have HRi18 := Lib.hid (ho)
        have HBs18_18 : Hid (Below w18.heap.size w18 w18) := Lib.hid (Below.refl _ _)
        clear ho
        go_wp2_with fail
        refine (HS5.out _).mono ?_
        rintro e w19 ⟨⟨v, rfl, ho⟩, hb⟩
        have HB19 : Hid (Below w.heap.size w w19) := Lib.hid (HB18.out.trans (hb.mono HB18.out.size))
        have HZ19 : Hid (w18.heap.size ≤ w19.heap.size) := Lib.hid hb.size
        have HRk19 := Lib.hid (HRk0.out.below HB19.out (Nat.le_refl _))
        have HRi19 := Lib.hid (HRi18.out.below hb (Nat.le_refl _))
        have HBs18_19 : Hid (Below w18.heap.size w18 w19) := Lib.hid (HBs18_18.out.trans (hb.mono HBs18_18.out.size))
        clear hb
        obtain ⟨qaj, qcj, rfl⟩ : ∃ a c, v = .slice a rs5.length c := by obtain ⟨a, c, e, _⟩ := ho; exact ⟨a, c, e⟩
        have HRj19 := Lib.hid (ho)
        have HBs19_19 : Hid (Below w19.heap.size w19 w19) := Lib.hid (Below.refl _ _)
        clear ho
        go_wp2_with fail
        refine (vPairs_yes _ _ rs5 _ HRi19.out HRj19.out).mono ?_
        rintro e w20 ⟨rfl, hb⟩
        have HB20 : Hid (Below w.heap.size w w20) := Lib.hid (HB19.out.trans (hb.mono HB19.out.size))
        have HZ20 : Hid (w19.heap.size ≤ w20.heap.size) := Lib.hid hb.size
        have HRk20 := Lib.hid (HRk0.out.below HB20.out (Nat.le_refl _))
        have HRi20 := Lib.hid (HRi19.out.below hb (Nat.le_refl _))
        have HRj20 := Lib.hid (HRj19.out.below hb (Nat.le_refl _))
        have HBs18_20 : Hid (Below w18.heap.size w18 w20) := Lib.hid (HBs18_19.out.trans (hb.mono HBs18_19.out.size))
        have HBs19_20 : Hid (Below w19.heap.size w19 w20) := Lib.hid (HBs19_19.out.trans (hb.mono HBs19_19.out.size))
        clear hb
        go_wp2_with fail
        go_ret
        exact ⟨rfl, HB20.out⟩
      | false =>
        clear hY3
        go_wp2_with fail
        refine (drawTimesCarries_any _ L _ HRk11.out).mono ?_
        rintro e w12 ⟨⟨x4, y4, rfl, -, -⟩, hb⟩
        have HB12 : Hid (Below w.heap.size w w12) := Lib.hid (HB11.out.trans (hb.mono HB11.out.size))
        have HZ12 : Hid (w11.heap.size ≤ w12.heap.size) := Lib.hid hb.size
        have HRk12 := Lib.hid (HRk0.out.below HB12.out (Nat.le_refl _))
        clear hb
        obtain ⟨n4, b4, hS, hI, -⟩ := tc_same x4 y4
        have HS4 := Lib.hid hS
        have HI4 := Lib.hid hI
        clear hS hI
        have hb4 : (b4 != b4) = false := by simp
        have hn4 : (n4 != n4) = false := by simp
        go_wp2_with fail
        refine (HI4.out _).mono ?_
        rintro e w13 ⟨rfl, hb⟩
        have HB13 : Hid (Below w.heap.size w w13) := Lib.hid (HB12.out.trans (hb.mono HB12.out.size))
        have HZ13 : Hid (w12.heap.size ≤ w13.heap.size) := Lib.hid hb.size
        have HRk13 := Lib.hid (HRk0.out.below HB13.out (Nat.le_refl _))
        clear hb
        go_wp2_with fail
        refine (HS4.out _).mono ?_
        rintro e w14 ⟨rfl, hb⟩
        have HB14 : Hid (Below w.heap.size w w14) := Lib.hid (HB13.out.trans (hb.mono HB13.out.size))
        have HZ14 : Hid (w13.heap.size ≤ w14.heap.size) := Lib.hid hb.size
        have HRk14 := Lib.hid (HRk0.out.below HB14.out (Nat.le_refl _))
        clear hb
        go_wp2_with fail
        refine (drawByDoubling_any _ L _ HRk14.out).mono ?_
        rintro e w15 ⟨⟨x5, y5, rfl, -, -⟩, hb⟩
        have HB15 : Hid (Below w.heap.size w w15) := Lib.hid (HB14.out.trans (hb.mono HB14.out.size))
        have HZ15 : Hid (w14.heap.size ≤ w15.heap.size) := Lib.hid hb.size
        have HRk15 := Lib.hid (HRk0.out.below HB15.out (Nat.le_refl _))
        clear hb
        obtain ⟨rs5, b5, hS, hI⟩ := bd_same x5 y5
        have HS5 := Lib.hid hS
        have HI5 := Lib.hid hI
        clear hS hI
        have hb5 : (b5 == b5) = true := by simp
        go_wp2_with fail
        refine (HI5.out _).mono ?_
        rintro e w16 ⟨⟨v, rfl, ho⟩, hb⟩
        have HB16 : Hid (Below w.heap.size w w16) := Lib.hid (HB15.out.trans (hb.mono HB15.out.size))
        have HZ16 : Hid (w15.heap.size ≤ w16.heap.size) := Lib.hid hb.size
        have HRk16 := Lib.hid (HRk0.out.below HB16.out (Nat.le_refl _))
        clear hb
        obtain ⟨qai, qci, rfl⟩ : ∃ a c, v = .slice a rs5.length c := by obtain ⟨a, c, e, _⟩ := ho; exact ⟨a, c, e⟩
        have HRi16 := Lib.hid (ho)
        have HBs16_16 : Hid (Below w16.heap.size w16 w16) := Lib.hid (Below.refl _ _)
        clear ho
        go_wp2_with fail
        refine (HS5.out _).mono ?_
        rintro e w17 ⟨⟨v, rfl, ho⟩, hb⟩
        have HB17 : Hid (Below w.heap.size w w17) := Lib.hid (HB16.out.trans (hb.mono HB16.out.size))
        have HZ17 : Hid (w16.heap.size ≤ w17.heap.size) := Lib.hid hb.size
        have HRk17 := Lib.hid (HRk0.out.below HB17.out (Nat.le_refl _))
        have HRi17 := Lib.hid (HRi16.out.below hb (Nat.le_refl _))
        have HBs16_17 : Hid (Below w16.heap.size w16 w17) := Lib.hid (HBs16_16.out.trans (hb.mono HBs16_16.out.size))
        clear hb
        obtain ⟨qaj, qcj, rfl⟩ : ∃ a c, v = .slice a rs5.length c := by obtain ⟨a, c, e, _⟩ := ho; exact ⟨a, c, e⟩
        have HRj17 := Lib.hid (ho)
        have HBs17_17 : Hid (Below w17.heap.size w17 w17) := Lib.hid (Below.refl _ _)
        clear ho
        go_wp2_with fail
        refine (vPairs_yes _ _ rs5 _ HRi17.out HRj17.out).mono ?_
        rintro e w18 ⟨rfl, hb⟩
        have HB18 : Hid (Below w.heap.size w w18) := Lib.hid (HB17.out.trans (hb.mono HB17.out.size))
        have HZ18 : Hid (w17.heap.size ≤ w18.heap.size) := Lib.hid hb.size
        have HRk18 := Lib.hid (HRk0.out.below HB18.out (Nat.le_refl _))
        have HRi18 := Lib.hid (HRi17.out.below hb (Nat.le_refl _))
        have HRj18 := Lib.hid (HRj17.out.below hb (Nat.le_refl _))
        have HBs16_18 : Hid (Below w16.heap.size w16 w18) := Lib.hid (HBs16_17.out.trans (hb.mono HBs16_17.out.size))
        have HBs17_18 : Hid (Below w17.heap.size w17 w18) := Lib.hid (HBs17_17.out.trans (hb.mono HBs17_17.out.size))
        clear hb
        go_wp2_with fail
        go_ret
        exact ⟨rfl, HB18.out⟩
end Go.Proofs.Ythmbehknacjodaa
