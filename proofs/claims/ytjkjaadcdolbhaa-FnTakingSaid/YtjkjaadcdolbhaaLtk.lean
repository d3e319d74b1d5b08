/- The law FnTaking. -/
import Derived.Test.YtjkjaadcdolbhaaLad0
import Derived.Test.YtjkjaadcdolbhaaDgs
import Derived.Test.YtjkjaadcdolbhaaKt
import Derived.Test.YtjkjaadcdolbhaaMd8out
import Derived.Test.YtjkjaadcdolbhaaTkout
import Derived.Test.YtjkjaadcdolbhaaDsub
namespace Go.Proofs.Ytjkjaadcdolbhaa
set_option linter.unusedVariables false
open Go.RowKit
set_option linter.unusedSimpArgs false

theorem take_same (up lo : Int) (rs : List (Int × Int)) (z : Int) (hz : -9223372036854775808 ≤ z ∧ z ≤ 9223372036854775807) : ∃ (fu fl : Int) (qs : List (Int × Int)) (ms : List Mv) (b t : Bool) (n : Int),
    (∀ w sv, RodsR w sv rs → FrB 12 #[.agg #[.int .i64 up, .int .i64 lo, sv], .int .i64 z] w fu fl qs b) ∧ (∀ w sv, RodsR w sv rs → FrB 11 #[.agg #[.int .i64 up, .int .i64 lo, sv], .int .i64 z] w fu fl qs b) ∧
    (∀ w sv, RodsR w sv rs → MvB 15 #[.agg #[.int .i64 up, .int .i64 lo, sv], .int .i64 z] w ms t) ∧ (∀ w sv, RodsR w sv rs → MvB 14 #[.agg #[.int .i64 up, .int .i64 lo, sv], .int .i64 z] w ms t) ∧
    (∀ w sv, RodsR w sv rs → InB 18 #[.agg #[.int .i64 up, .int .i64 lo, sv], .int .i64 z] w n b) ∧ (∀ w sv, RodsR w sv rs → InB 17 #[.agg #[.int .i64 up, .int .i64 lo, sv], .int .i64 z] w n b) ∧
    (b = true → ∃ N : Int, (∀ w sv, RodsR w sv rs → InB 21 #[.agg #[.int .i64 up, .int .i64 lo, sv]] w N true) ∧ (∀ w sv, RodsR w sv qs → FrB 19 #[.agg #[.int .i64 fu, .int .i64 fl, sv], .int .i64 z] w up lo rs true) ∧
      ((0 ≤ z ∧ z ≤ N ∧ N ≤ 200000000) ∧ (0 ≤ n ∧ n ≤ 64) ∧ dsF 20 N - dsF 20 z + 9 * n = dsF 20 (N - z)) ∧ (t = true → ∀ w sv mv, RodsR w sv rs → RowsR 3 mvC w mv ms → FrB 20 #[.agg #[.int .i64 up, .int .i64 lo, sv], mv] w fu fl qs true)) := by
  by_cases hc : canT up lo rs z
  · have hst := tkR_std (digs rs.length z) 0 rs hc.2.1
    have hgd : goodF up lo (tkR 0 (digs rs.length z) rs) := stdF_good hst hc.1.2.1 hc.1.2.2.1 (by rw [tkR_len]; exact hc.1.2.2.2)
    have hbk := tk_back hc
    have hcs := tkC_small rs.length z rs hc.1.2.2.2.2
    have hnt := numF_top up lo rs hc.1
    have hN : (∀ w sv, RodsR w sv rs → InB 21 #[.agg #[.int .i64 up, .int .i64 lo, sv]] w (numF rs) true) := fun w sv h => implNumberOn_yes up lo sv rs w h hc.1
    have hA : (∀ w sv, RodsR w sv (tkR 0 (digs rs.length z) rs) → FrB 19 #[.agg #[.int .i64 up, .int .i64 lo, sv], .int .i64 z] w up lo rs true) := fun w sv h => by
      have := impAddNumber_yes up lo sv _ z w h hbk.1
      rw [hbk.2.1] at this
      exact ofOwn this
    have hD : (0 ≤ z ∧ z ≤ numF rs ∧ numF rs ≤ 200000000) ∧ (0 ≤ ((tkC 0 (digs rs.length z) rs : Nat) : Int) ∧ ((tkC 0 (digs rs.length z) rs : Nat) : Int) ≤ 64) ∧ dsF 20 (numF rs) - dsF 20 z + 9 * ((tkC 0 (digs rs.length z) rs : Nat) : Int) = dsF 20 (numF rs - z) := ⟨⟨hc.2.2.1, hc.2.2.2, hnt.2⟩, ⟨by omega, by omega⟩, tk_sums hc⟩
    by_cases hM : (tkM 0 (digs rs.length z) rs).length ≤ 60
    · refine ⟨up, lo, _, _, true, true, _, fun w sv h => speTakeNumber_yes up lo sv rs z w h hc, fun w sv h => ofOwn (impTakeNumber_yes up lo sv rs z w h hc), fun w sv h => speTakeNumberMoves_yes up lo sv rs z w h hc hM, fun w sv h => ofOwnM (impTakeNumberMoves_yes up lo sv rs z w h hc hM), fun w sv h => speBorrowsOf_yes up lo sv rs z w h hc, fun w sv h => impBorrowsOf_yes up lo sv rs z w h hc, fun _ => ⟨_, hN, hA, hD, fun _ w sv mv h1 h2 => play_is hc.1 (okMs_of (tkM_ok _ _ _ hc.2.1 ?_) hM) (tkM_play _ _ _ hc.1 hc.2.1 ?_) hgd w sv mv h1 h2⟩⟩
      · rw [digs_len]; have := hc.1.2.2.2.2; omega
      · rw [digs_len]; omega
    · exact ⟨up, lo, _, _, true, false, _, fun w sv h => speTakeNumber_yes up lo sv rs z w h hc, fun w sv h => ofOwn (impTakeNumber_yes up lo sv rs z w h hc), fun w sv h => speTakeNumberMoves_long up lo sv rs z w h hc hM, fun w sv h => ofOwnM (impTakeNumberMoves_long up lo sv rs z w h hc hM), fun w sv h => speBorrowsOf_yes up lo sv rs z w h hc, fun w sv h => impBorrowsOf_yes up lo sv rs z w h hc, fun _ => ⟨_, hN, hA, hD, fun h => by cases h⟩⟩
  · exact ⟨0, 0, _, _, false, false, 0, fun w sv h => speTakeNumber_no up lo sv rs z w h hc, fun w sv h => ofOwn (impTakeNumber_no up lo sv rs z w h hz.2 hc), fun w sv h => speTakeNumberMoves_no up lo sv rs z w h hc, fun w sv h => ofOwnM (impTakeNumberMoves_no up lo sv rs z w h hz.2 hc), fun w sv h => speBorrowsOf_no up lo sv rs z w h hc, fun w sv h => impBorrowsOf_no up lo sv rs z w h hz.2 hc, fun h => by cases h⟩
theorem tdig_same (up lo : Int) (rs : List (Int × Int)) (q d : Int) : ∃ (fu fl : Int) (qs : List (Int × Int)) (ms : List Mv) (b : Bool),
    (∀ w sv, RodsR w sv rs → FrB 25 #[.agg #[.int .i64 up, .int .i64 lo, sv], .int .i64 q, .int .i64 d] w fu fl qs b) ∧ (∀ w sv, RodsR w sv rs → FrB 24 #[.agg #[.int .i64 up, .int .i64 lo, sv], .int .i64 q, .int .i64 d] w fu fl qs b) ∧
    (∀ w sv, RodsR w sv rs → MvB 27 #[.agg #[.int .i64 up, .int .i64 lo, sv], .int .i64 q, .int .i64 d] w ms b) ∧ (∀ w sv, RodsR w sv rs → MvB 26 #[.agg #[.int .i64 up, .int .i64 lo, sv], .int .i64 q, .int .i64 d] w ms b) ∧
    (b = true → ∀ w sv, RodsR w sv qs → FrB 28 #[.agg #[.int .i64 fu, .int .i64 fl, sv], .int .i64 q, .int .i64 d] w up lo rs true) := by
  by_cases hc : canTD up lo rs q d
  · obtain ⟨qn, rfl⟩ : ∃ n : Nat, q = (n : Int) := ⟨q.toNat, by have := hc.2.2.1.1; omega⟩
    have hbk := br_back hc
    exact ⟨up, lo, _, _, true, fun w sv h => speTakeDigit_yes up lo sv rs qn d w h hc, fun w sv h => ofOwn (impTakeDigit_yes up lo sv rs qn d w h hc), fun w sv h => speTakeDigitMoves_yes up lo sv rs qn d w h hc, fun w sv h => ofOwnM (impTakeDigitMoves_yes up lo sv rs qn d w h hc),
      fun _ w sv h => by
        have := impAddDigit_yes up lo sv _ qn d w h hbk.1
        rw [hbk.2] at this
        exact ofOwn this⟩
  · exact ⟨0, 0, _, _, false, fun w sv h => speTakeDigit_no up lo sv rs q d w h hc, fun w sv h => ofOwn (impTakeDigit_no up lo sv rs q d w h hc), fun w sv h => speTakeDigitMoves_no up lo sv rs q d w h hc, fun w sv h => ofOwnM (impTakeDigitMoves_no up lo sv rs q d w h hc), fun h => by cases h⟩

set_option maxRecDepth 100000 in
set_option maxHeartbeats 12800000 in
theorem lawTaking (w : World) (ad : Option Addr) (cp : Nat) (L : List UInt8) (h : SlR w (.slice ad L.length cp) (L.map fun c => .int .u8 (c.toNat : Int))) :
    Calls Try.prog 3 #[.slice ad L.length cp] w fun e w' => e = .returned (.bool true) ∧ Below w.heap.size w w' := by
  have hm : L.length ≤ 9223372036854775807 := by
    obtain ⟨a, c, e, ⟨m, _⟩, _⟩ := h
    rw [List.length_map] at m
    exact m
  have HB0 : Hid (Below w.heap.size w w) := Lib.hid (Below.refl _ _)
  have HRk0 := Lib.hid (h)
  clear h
  by_cases hbig : (65536 : Int) < (L.length : Int)
  · go_enter Try.func3, Try.ntmps3
    go_wp2_with fail
    refine (vBig_any ad L.length cp _ true (decide_eq_true hbig)).mono ?_
    rintro e w' ⟨rfl, hw⟩
    subst w'
    go_wp2_with fail
    go_ret
    exact ⟨rfl, Below.refl _ _⟩
  · go_enter Try.func3, Try.ntmps3
    go_wp2_with fail
    refine (vBig_any ad L.length cp _ false (decide_eq_false (by omega))).mono ?_
    rintro e w' ⟨rfl, hw⟩
    subst w'
    go_wp2_with fail
    refine (drawTakeNumber_any _ L _ HRk0.out).mono ?_
    rintro e w1 ⟨⟨xu, xl, xv, xs, z, rfl, ho, -, hz0, hz1⟩, hb⟩
    have HB1 : Hid (Below w.heap.size w w1) := Lib.hid (HB0.out.trans (hb.mono HB0.out.size))
    have HZ1 : Hid (w.heap.size ≤ w1.heap.size) := Lib.hid hb.size
    have HRk1 := Lib.hid (HRk0.out.below HB1.out (Nat.le_refl _))
    clear hb
    obtain ⟨qax, qcx, rfl⟩ : ∃ a c, xv = .slice a xs.length c := by obtain ⟨a, c, e, _⟩ := ho; exact ⟨a, c, e⟩
    have HRx1 := Lib.hid (ho)
    have HBs1_1 : Hid (Below w1.heap.size w1 w1) := Lib.hid (Below.refl _ _)
    clear ho
    obtain ⟨fu, fl, qs, ms, b, t, n, hS, hI, hSM, hIM, hSN, hIN, hY⟩ := take_same xu xl xs z ⟨hz0, hz1⟩
    have HS1 := Lib.hid hS
    have HI1 := Lib.hid hI
    have HSM1 := Lib.hid hSM
    have HIM1 := Lib.hid hIM
    have HSN1 := Lib.hid hSN
    have HIN1 := Lib.hid hIN
    clear hS hI hSM hIM hSN hIN hz0 hz1
    have hb1 : (b != b) = false := by simp
    have ht1 : (t != t) = false := by simp
    have hn1 : (n != n) = false := by simp
    go_wp2_with fail
    have hb : Below w1.heap.size w1 (w1.alloc (.cells #[.int .i64 xu, .int .i64 xl, .slice qax xs.length qcx] 26)) := (Below.refl _ _).alloc (Nat.le_refl _) _
    have hk : (w1.alloc (.cells #[.int .i64 xu, .int .i64 xl, .slice qax xs.length qcx] 26)).heap[w1.heap.size]? = some (.cells #[.int .i64 xu, .int .i64 xl, .slice qax xs.length qcx] 26 (0, 0)) := alloc_at rfl
    have hz : (w1.alloc (.cells #[.int .i64 xu, .int .i64 xl, .slice qax xs.length qcx] 26)).heap.size = w1.heap.size + 1 := by simp
    generalize w1.alloc (.cells #[.int .i64 xu, .int .i64 xl, .slice qax xs.length qcx] 26) = w2 at hb hk hz ⊢
    have HB2 : Hid (Below w.heap.size w w2) := Lib.hid (HB1.out.trans (hb.mono HB1.out.size))
    have HZ2 : Hid (w1.heap.size ≤ w2.heap.size) := Lib.hid hb.size
    have HRk2 := Lib.hid (HRk0.out.below HB2.out (Nat.le_refl _))
    have HRx2 := Lib.hid (HRx1.out.below hb (Nat.le_refl _))
    have HBs1_2 : Hid (Below w1.heap.size w1 w2) := Lib.hid (HBs1_1.out.trans (hb.mono HBs1_1.out.size))
    have HKx2 := Lib.hid hk
    replace HZ2 : Hid (w1.heap.size < w2.heap.size) := Lib.hid (by omega)
    have HE2 := Lib.hid hz
    clear hb hk hz
    refine (HI1.out _ _ HRx2.out).mono ?_
    rintro e w3 ⟨⟨v, rfl, ho⟩, hb⟩
    have HB3 : Hid (Below w.heap.size w w3) := Lib.hid (HB2.out.trans (hb.mono HB2.out.size))
    have HZ3 : Hid (w2.heap.size ≤ w3.heap.size) := Lib.hid hb.size
    have HRk3 := Lib.hid (HRk0.out.below HB3.out (Nat.le_refl _))
    have HRx3 := Lib.hid (HRx2.out.below hb (Nat.le_refl _))
    have HKx3 := Lib.hid ((hb.block _ (lt_of_block HKx2.out)).trans HKx2.out)
    have HBs1_3 : Hid (Below w1.heap.size w1 w3) := Lib.hid (HBs1_2.out.trans (hb.mono HBs1_2.out.size))
    clear hb
    obtain ⟨qao, qco, rfl⟩ : ∃ a c, v = .slice a qs.length c := by obtain ⟨a, c, e, _⟩ := ho; exact ⟨a, c, e⟩
    have HRo3 := Lib.hid (ho)
    have HBs3_3 : Hid (Below w3.heap.size w3 w3) := Lib.hid (Below.refl _ _)
    clear ho
    have ltx := lt_of_block HKx3.out
    obtain ⟨cx0, cx1, cx2, fx0, fx1, fx2⟩ := cell3 HKx3.out
    go_wp2_with fail
    have hb : Below w3.heap.size w3 (w3.alloc (.cells #[.int .i64 fu, .int .i64 fl, .slice qao qs.length qco] 26)) := (Below.refl _ _).alloc (Nat.le_refl _) _
    have hk : (w3.alloc (.cells #[.int .i64 fu, .int .i64 fl, .slice qao qs.length qco] 26)).heap[w3.heap.size]? = some (.cells #[.int .i64 fu, .int .i64 fl, .slice qao qs.length qco] 26 (0, 0)) := alloc_at rfl
    have hz : (w3.alloc (.cells #[.int .i64 fu, .int .i64 fl, .slice qao qs.length qco] 26)).heap.size = w3.heap.size + 1 := by simp
    generalize w3.alloc (.cells #[.int .i64 fu, .int .i64 fl, .slice qao qs.length qco] 26) = w4 at hb hk hz ⊢
    have HB4 : Hid (Below w.heap.size w w4) := Lib.hid (HB3.out.trans (hb.mono HB3.out.size))
    have HZ4 : Hid (w3.heap.size ≤ w4.heap.size) := Lib.hid hb.size
    have HRk4 := Lib.hid (HRk0.out.below HB4.out (Nat.le_refl _))
    have HRx4 := Lib.hid (HRx3.out.below hb (Nat.le_refl _))
    have HKx4 := Lib.hid ((hb.block _ (lt_of_block HKx3.out)).trans HKx3.out)
    have HRo4 := Lib.hid (HRo3.out.below hb (Nat.le_refl _))
    have HBs1_4 : Hid (Below w1.heap.size w1 w4) := Lib.hid (HBs1_3.out.trans (hb.mono HBs1_3.out.size))
    have HBs3_4 : Hid (Below w3.heap.size w3 w4) := Lib.hid (HBs3_3.out.trans (hb.mono HBs3_3.out.size))
    have HKo4 := Lib.hid hk
    replace HZ4 : Hid (w3.heap.size < w4.heap.size) := Lib.hid (by omega)
    have HE4 := Lib.hid hz
    clear hb hk hz
    refine (HS1.out _ _ HRx4.out).mono ?_
    rintro e w5 ⟨⟨v, rfl, ho⟩, hb⟩
    have HB5 : Hid (Below w.heap.size w w5) := Lib.hid (HB4.out.trans (hb.mono HB4.out.size))
    have HZ5 : Hid (w4.heap.size ≤ w5.heap.size) := Lib.hid hb.size
    have HRk5 := Lib.hid (HRk0.out.below HB5.out (Nat.le_refl _))
    have HRx5 := Lib.hid (HRx4.out.below hb (Nat.le_refl _))
    have HKx5 := Lib.hid ((hb.block _ (lt_of_block HKx4.out)).trans HKx4.out)
    have HRo5 := Lib.hid (HRo4.out.below hb (Nat.le_refl _))
    have HKo5 := Lib.hid ((hb.block _ (lt_of_block HKo4.out)).trans HKo4.out)
    have HBs1_5 : Hid (Below w1.heap.size w1 w5) := Lib.hid (HBs1_4.out.trans (hb.mono HBs1_4.out.size))
    have HBs3_5 : Hid (Below w3.heap.size w3 w5) := Lib.hid (HBs3_4.out.trans (hb.mono HBs3_4.out.size))
    clear hb
    obtain ⟨qap, qcp, rfl⟩ : ∃ a c, v = .slice a qs.length c := by obtain ⟨a, c, e, _⟩ := ho; exact ⟨a, c, e⟩
    have HRp5 := Lib.hid (ho)
    have HBs5_5 : Hid (Below w5.heap.size w5 w5) := Lib.hid (Below.refl _ _)
    clear ho
    clear cx0 cx1 cx2 fx0 fx1 fx2 ltx
    have ltx := lt_of_block HKx5.out
    obtain ⟨cx0, cx1, cx2, fx0, fx1, fx2⟩ := cell3 HKx5.out
    have lto := lt_of_block HKo5.out
    obtain ⟨co0, co1, co2, fo0, fo1, fo2⟩ := cell3 HKo5.out
    go_wp2_with fail
    have hb : Below w5.heap.size w5 (w5.alloc (.cells #[.int .i64 fu, .int .i64 fl, .slice qap qs.length qcp] 26)) := (Below.refl _ _).alloc (Nat.le_refl _) _
    have hk : (w5.alloc (.cells #[.int .i64 fu, .int .i64 fl, .slice qap qs.length qcp] 26)).heap[w5.heap.size]? = some (.cells #[.int .i64 fu, .int .i64 fl, .slice qap qs.length qcp] 26 (0, 0)) := alloc_at rfl
    have hz : (w5.alloc (.cells #[.int .i64 fu, .int .i64 fl, .slice qap qs.length qcp] 26)).heap.size = w5.heap.size + 1 := by simp
    generalize w5.alloc (.cells #[.int .i64 fu, .int .i64 fl, .slice qap qs.length qcp] 26) = w6 at hb hk hz ⊢
    have HB6 : Hid (Below w.heap.size w w6) := Lib.hid (HB5.out.trans (hb.mono HB5.out.size))
    have HZ6 : Hid (w5.heap.size ≤ w6.heap.size) := Lib.hid hb.size
    have HRk6 := Lib.hid (HRk0.out.below HB6.out (Nat.le_refl _))
    have HRx6 := Lib.hid (HRx5.out.below hb (Nat.le_refl _))
    have HKx6 := Lib.hid ((hb.block _ (lt_of_block HKx5.out)).trans HKx5.out)
    have HRo6 := Lib.hid (HRo5.out.below hb (Nat.le_refl _))
    have HKo6 := Lib.hid ((hb.block _ (lt_of_block HKo5.out)).trans HKo5.out)
    have HRp6 := Lib.hid (HRp5.out.below hb (Nat.le_refl _))
    have HBs1_6 : Hid (Below w1.heap.size w1 w6) := Lib.hid (HBs1_5.out.trans (hb.mono HBs1_5.out.size))
    have HBs3_6 : Hid (Below w3.heap.size w3 w6) := Lib.hid (HBs3_5.out.trans (hb.mono HBs3_5.out.size))
    have HBs5_6 : Hid (Below w5.heap.size w5 w6) := Lib.hid (HBs5_5.out.trans (hb.mono HBs5_5.out.size))
    have HKp6 := Lib.hid hk
    replace HZ6 : Hid (w5.heap.size < w6.heap.size) := Lib.hid (by omega)
    have HE6 := Lib.hid hz
    clear hb hk hz
    refine (vFrame_yes fu fl _ _ qs _ HRo6.out HRp6.out).mono ?_
    rintro e w7 ⟨rfl, hb⟩
    have HB7 : Hid (Below w.heap.size w w7) := Lib.hid (HB6.out.trans (hb.mono HB6.out.size))
    have HZ7 : Hid (w6.heap.size ≤ w7.heap.size) := Lib.hid hb.size
    have HRk7 := Lib.hid (HRk0.out.below HB7.out (Nat.le_refl _))
    have HRx7 := Lib.hid (HRx6.out.below hb (Nat.le_refl _))
    have HKx7 := Lib.hid ((hb.block _ (lt_of_block HKx6.out)).trans HKx6.out)
    have HRo7 := Lib.hid (HRo6.out.below hb (Nat.le_refl _))
    have HKo7 := Lib.hid ((hb.block _ (lt_of_block HKo6.out)).trans HKo6.out)
    have HRp7 := Lib.hid (HRp6.out.below hb (Nat.le_refl _))
    have HKp7 := Lib.hid ((hb.block _ (lt_of_block HKp6.out)).trans HKp6.out)
    have HBs1_7 : Hid (Below w1.heap.size w1 w7) := Lib.hid (HBs1_6.out.trans (hb.mono HBs1_6.out.size))
    have HBs3_7 : Hid (Below w3.heap.size w3 w7) := Lib.hid (HBs3_6.out.trans (hb.mono HBs3_6.out.size))
    have HBs5_7 : Hid (Below w5.heap.size w5 w7) := Lib.hid (HBs5_6.out.trans (hb.mono HBs5_6.out.size))
    clear hb
    clear cx0 cx1 cx2 fx0 fx1 fx2 ltx co0 co1 co2 fo0 fo1 fo2 lto
    have ltx := lt_of_block HKx7.out
    obtain ⟨cx0, cx1, cx2, fx0, fx1, fx2⟩ := cell3 HKx7.out
    have lto := lt_of_block HKo7.out
    obtain ⟨co0, co1, co2, fo0, fo1, fo2⟩ := cell3 HKo7.out
    go_wp2_with fail
    refine (HIM1.out _ _ HRx7.out).mono ?_
    rintro e w8 ⟨⟨v, rfl, ho⟩, hb⟩
    have HB8 : Hid (Below w.heap.size w w8) := Lib.hid (HB7.out.trans (hb.mono HB7.out.size))
    have HZ8 : Hid (w7.heap.size ≤ w8.heap.size) := Lib.hid hb.size
    have HRk8 := Lib.hid (HRk0.out.below HB8.out (Nat.le_refl _))
    have HRx8 := Lib.hid (HRx7.out.below hb (Nat.le_refl _))
    have HKx8 := Lib.hid ((hb.block _ (lt_of_block HKx7.out)).trans HKx7.out)
    have HRo8 := Lib.hid (HRo7.out.below hb (Nat.le_refl _))
    have HKo8 := Lib.hid ((hb.block _ (lt_of_block HKo7.out)).trans HKo7.out)
    have HBs1_8 : Hid (Below w1.heap.size w1 w8) := Lib.hid (HBs1_7.out.trans (hb.mono HBs1_7.out.size))
    have HBs3_8 : Hid (Below w3.heap.size w3 w8) := Lib.hid (HBs3_7.out.trans (hb.mono HBs3_7.out.size))
    clear hb
    obtain ⟨qam, qcm, rfl⟩ := ho.form
    have HRm8 := Lib.hid (ho)
    have HBs8_8 : Hid (Below w8.heap.size w8 w8) := Lib.hid (Below.refl _ _)
    clear ho
    clear cx0 cx1 cx2 fx0 fx1 fx2 ltx co0 co1 co2 fo0 fo1 fo2 lto
    have ltx := lt_of_block HKx8.out
    obtain ⟨cx0, cx1, cx2, fx0, fx1, fx2⟩ := cell3 HKx8.out
    have lto := lt_of_block HKo8.out
    obtain ⟨co0, co1, co2, fo0, fo1, fo2⟩ := cell3 HKo8.out
    go_wp2_with fail
    refine (HSM1.out _ _ HRx8.out).mono ?_
    rintro e w9 ⟨⟨v, rfl, ho⟩, hb⟩
    have HB9 : Hid (Below w.heap.size w w9) := Lib.hid (HB8.out.trans (hb.mono HB8.out.size))
    have HZ9 : Hid (w8.heap.size ≤ w9.heap.size) := Lib.hid hb.size
    have HRk9 := Lib.hid (HRk0.out.below HB9.out (Nat.le_refl _))
    have HRx9 := Lib.hid (HRx8.out.below hb (Nat.le_refl _))
    have HKx9 := Lib.hid ((hb.block _ (lt_of_block HKx8.out)).trans HKx8.out)
    have HRo9 := Lib.hid (HRo8.out.below hb (Nat.le_refl _))
    have HKo9 := Lib.hid ((hb.block _ (lt_of_block HKo8.out)).trans HKo8.out)
    have HRm9 := Lib.hid (HRm8.out.below hb (Nat.le_refl _))
    have HBs1_9 : Hid (Below w1.heap.size w1 w9) := Lib.hid (HBs1_8.out.trans (hb.mono HBs1_8.out.size))
    have HBs3_9 : Hid (Below w3.heap.size w3 w9) := Lib.hid (HBs3_8.out.trans (hb.mono HBs3_8.out.size))
    have HBs8_9 : Hid (Below w8.heap.size w8 w9) := Lib.hid (HBs8_8.out.trans (hb.mono HBs8_8.out.size))
    clear hb
    obtain ⟨qan, qcn, rfl⟩ := ho.form
    have HRn9 := Lib.hid (ho)
    have HBs9_9 : Hid (Below w9.heap.size w9 w9) := Lib.hid (Below.refl _ _)
    clear ho
    clear cx0 cx1 cx2 fx0 fx1 fx2 ltx co0 co1 co2 fo0 fo1 fo2 lto
    have ltx := lt_of_block HKx9.out
    obtain ⟨cx0, cx1, cx2, fx0, fx1, fx2⟩ := cell3 HKx9.out
    have lto := lt_of_block HKo9.out
    obtain ⟨co0, co1, co2, fo0, fo1, fo2⟩ := cell3 HKo9.out
    go_wp2_with fail
    refine (vMoves_yes _ _ ms _ HRm9.out HRn9.out).mono ?_
    rintro e w10 ⟨rfl, hb⟩
    have HB10 : Hid (Below w.heap.size w w10) := Lib.hid (HB9.out.trans (hb.mono HB9.out.size))
    have HZ10 : Hid (w9.heap.size ≤ w10.heap.size) := Lib.hid hb.size
    have HRk10 := Lib.hid (HRk0.out.below HB10.out (Nat.le_refl _))
    have HRx10 := Lib.hid (HRx9.out.below hb (Nat.le_refl _))
    have HKx10 := Lib.hid ((hb.block _ (lt_of_block HKx9.out)).trans HKx9.out)
    have HRo10 := Lib.hid (HRo9.out.below hb (Nat.le_refl _))
    have HKo10 := Lib.hid ((hb.block _ (lt_of_block HKo9.out)).trans HKo9.out)
    have HRm10 := Lib.hid (HRm9.out.below hb (Nat.le_refl _))
    have HRn10 := Lib.hid (HRn9.out.below hb (Nat.le_refl _))
    have HBs1_10 : Hid (Below w1.heap.size w1 w10) := Lib.hid (HBs1_9.out.trans (hb.mono HBs1_9.out.size))
    have HBs3_10 : Hid (Below w3.heap.size w3 w10) := Lib.hid (HBs3_9.out.trans (hb.mono HBs3_9.out.size))
    have HBs8_10 : Hid (Below w8.heap.size w8 w10) := Lib.hid (HBs8_9.out.trans (hb.mono HBs8_9.out.size))
    have HBs9_10 : Hid (Below w9.heap.size w9 w10) := Lib.hid (HBs9_9.out.trans (hb.mono HBs9_9.out.size))
    clear hb
    clear cx0 cx1 cx2 fx0 fx1 fx2 ltx co0 co1 co2 fo0 fo1 fo2 lto
    have ltx := lt_of_block HKx10.out
    obtain ⟨cx0, cx1, cx2, fx0, fx1, fx2⟩ := cell3 HKx10.out
    have lto := lt_of_block HKo10.out
    obtain ⟨co0, co1, co2, fo0, fo1, fo2⟩ := cell3 HKo10.out
    go_wp2_with fail
    refine (HIN1.out _ _ HRx10.out).mono ?_
    rintro e w11 ⟨rfl, hb⟩
    have HB11 : Hid (Below w.heap.size w w11) := Lib.hid (HB10.out.trans (hb.mono HB10.out.size))
    have HZ11 : Hid (w10.heap.size ≤ w11.heap.size) := Lib.hid hb.size
    have HRk11 := Lib.hid (HRk0.out.below HB11.out (Nat.le_refl _))
    have HRx11 := Lib.hid (HRx10.out.below hb (Nat.le_refl _))
    have HKx11 := Lib.hid ((hb.block _ (lt_of_block HKx10.out)).trans HKx10.out)
    have HRo11 := Lib.hid (HRo10.out.below hb (Nat.le_refl _))
    have HKo11 := Lib.hid ((hb.block _ (lt_of_block HKo10.out)).trans HKo10.out)
    have HRm11 := Lib.hid (HRm10.out.below hb (Nat.le_refl _))
    have HBs1_11 : Hid (Below w1.heap.size w1 w11) := Lib.hid (HBs1_10.out.trans (hb.mono HBs1_10.out.size))
    have HBs3_11 : Hid (Below w3.heap.size w3 w11) := Lib.hid (HBs3_10.out.trans (hb.mono HBs3_10.out.size))
    have HBs8_11 : Hid (Below w8.heap.size w8 w11) := Lib.hid (HBs8_10.out.trans (hb.mono HBs8_10.out.size))
    clear hb
    clear cx0 cx1 cx2 fx0 fx1 fx2 ltx co0 co1 co2 fo0 fo1 fo2 lto
    have ltx := lt_of_block HKx11.out
    obtain ⟨cx0, cx1, cx2, fx0, fx1, fx2⟩ := cell3 HKx11.out
    have lto := lt_of_block HKo11.out
    obtain ⟨co0, co1, co2, fo0, fo1, fo2⟩ := cell3 HKo11.out
    go_wp2_with fail
    refine (HSN1.out _ _ HRx11.out).mono ?_
    rintro e w12 ⟨rfl, hb⟩
    have HB12 : Hid (Below w.heap.size w w12) := Lib.hid (HB11.out.trans (hb.mono HB11.out.size))
    have HZ12 : Hid (w11.heap.size ≤ w12.heap.size) := Lib.hid hb.size
    have HRk12 := Lib.hid (HRk0.out.below HB12.out (Nat.le_refl _))
    have HRx12 := Lib.hid (HRx11.out.below hb (Nat.le_refl _))
    have HKx12 := Lib.hid ((hb.block _ (lt_of_block HKx11.out)).trans HKx11.out)
    have HRo12 := Lib.hid (HRo11.out.below hb (Nat.le_refl _))
    have HKo12 := Lib.hid ((hb.block _ (lt_of_block HKo11.out)).trans HKo11.out)
    have HRm12 := Lib.hid (HRm11.out.below hb (Nat.le_refl _))
    have HBs1_12 : Hid (Below w1.heap.size w1 w12) := Lib.hid (HBs1_11.out.trans (hb.mono HBs1_11.out.size))
    have HBs3_12 : Hid (Below w3.heap.size w3 w12) := Lib.hid (HBs3_11.out.trans (hb.mono HBs3_11.out.size))
    have HBs8_12 : Hid (Below w8.heap.size w8 w12) := Lib.hid (HBs8_11.out.trans (hb.mono HBs8_11.out.size))
    clear hb
    cases b with
    | true =>
      obtain ⟨N, hNx, hAd, ⟨⟨hN0, hN1, hN2⟩, ⟨hn0, hn2⟩, hds⟩, hPl⟩ := hY rfl
      have HNX := Lib.hid hNx
      have HAD := Lib.hid hAd
      clear hY hNx hAd
      have hd1 := dsF_bd 20 N
      have hd2 := dsF_bd 20 z
      have hd3 := dsF_bd 20 (N - z)
      obtain ⟨da, hda⟩ : ∃ da, dsF 20 N = da := ⟨_, rfl⟩
      obtain ⟨dz, hdz⟩ : ∃ dz, dsF 20 z = dz := ⟨_, rfl⟩
      obtain ⟨dr, hdr⟩ : ∃ dr, dsF 20 (N - z) = dr := ⟨_, rfl⟩
      rw [hda] at hds hd1
      rw [hdz] at hds hd2
      rw [hdr] at hds hd3
      have HDA := Lib.hid hda
      have HDZ := Lib.hid hdz
      have HDR := Lib.hid hdr
      have hw1 : IntKind.i64.wrap (da - dz) = da - dz := by rw [IntKind.wrap_i64]; omega
      have hw2 : IntKind.i64.wrap (9 * n) = 9 * n := by rw [IntKind.wrap_i64]; omega
      have hw3 : IntKind.i64.wrap (da - dz + 9 * n) = dr := by rw [hds, IntKind.wrap_i64]; omega
      have hw4 : IntKind.i64.wrap (N - z) = N - z := by rw [IntKind.wrap_i64]; omega
      have hw5 : (dr != dr) = false := by simp
      clear hda hdz hdr hds
      clear cx0 cx1 cx2 fx0 fx1 fx2 ltx co0 co1 co2 fo0 fo1 fo2 lto
      have ltx := lt_of_block HKx12.out
      obtain ⟨cx0, cx1, cx2, fx0, fx1, fx2⟩ := cell3 HKx12.out
      have lto := lt_of_block HKo12.out
      obtain ⟨co0, co1, co2, fo0, fo1, fo2⟩ := cell3 HKo12.out
      go_wp2_with fail
      refine (HAD.out _ _ HRo12.out).mono ?_
      rintro e w13 ⟨⟨v, rfl, ho⟩, hb⟩
      have HB13 : Hid (Below w.heap.size w w13) := Lib.hid (HB12.out.trans (hb.mono HB12.out.size))
      have HZ13 : Hid (w12.heap.size ≤ w13.heap.size) := Lib.hid hb.size
      have HRk13 := Lib.hid (HRk0.out.below HB13.out (Nat.le_refl _))
      have HRx13 := Lib.hid (HRx12.out.below hb (Nat.le_refl _))
      have HKx13 := Lib.hid ((hb.block _ (lt_of_block HKx12.out)).trans HKx12.out)
      have HRo13 := Lib.hid (HRo12.out.below hb (Nat.le_refl _))
      have HKo13 := Lib.hid ((hb.block _ (lt_of_block HKo12.out)).trans HKo12.out)
      have HRm13 := Lib.hid (HRm12.out.below hb (Nat.le_refl _))
      have HBs1_13 : Hid (Below w1.heap.size w1 w13) := Lib.hid (HBs1_12.out.trans (hb.mono HBs1_12.out.size))
      have HBs3_13 : Hid (Below w3.heap.size w3 w13) := Lib.hid (HBs3_12.out.trans (hb.mono HBs3_12.out.size))
      have HBs8_13 : Hid (Below w8.heap.size w8 w13) := Lib.hid (HBs8_12.out.trans (hb.mono HBs8_12.out.size))
      clear hb
      obtain ⟨qab, qcb, rfl⟩ : ∃ a c, v = .slice a xs.length c := by obtain ⟨a, c, e, _⟩ := ho; exact ⟨a, c, e⟩
      have HRb13 := Lib.hid (ho)
      have HBs13_13 : Hid (Below w13.heap.size w13 w13) := Lib.hid (Below.refl _ _)
      clear ho
      clear cx0 cx1 cx2 fx0 fx1 fx2 ltx co0 co1 co2 fo0 fo1 fo2 lto
      have ltx := lt_of_block HKx13.out
      obtain ⟨cx0, cx1, cx2, fx0, fx1, fx2⟩ := cell3 HKx13.out
      have lto := lt_of_block HKo13.out
      obtain ⟨co0, co1, co2, fo0, fo1, fo2⟩ := cell3 HKo13.out
      go_wp2_with fail
      have hb : Below w13.heap.size w13 (w13.alloc (.cells #[.int .i64 xu, .int .i64 xl, .slice qab xs.length qcb] 26)) := (Below.refl _ _).alloc (Nat.le_refl _) _
      have hk : (w13.alloc (.cells #[.int .i64 xu, .int .i64 xl, .slice qab xs.length qcb] 26)).heap[w13.heap.size]? = some (.cells #[.int .i64 xu, .int .i64 xl, .slice qab xs.length qcb] 26 (0, 0)) := alloc_at rfl
      have hz : (w13.alloc (.cells #[.int .i64 xu, .int .i64 xl, .slice qab xs.length qcb] 26)).heap.size = w13.heap.size + 1 := by simp
      generalize w13.alloc (.cells #[.int .i64 xu, .int .i64 xl, .slice qab xs.length qcb] 26) = w14 at hb hk hz ⊢
      have HB14 : Hid (Below w.heap.size w w14) := Lib.hid (HB13.out.trans (hb.mono HB13.out.size))
      have HZ14 : Hid (w13.heap.size ≤ w14.heap.size) := Lib.hid hb.size
      have HRk14 := Lib.hid (HRk0.out.below HB14.out (Nat.le_refl _))
      have HRx14 := Lib.hid (HRx13.out.below hb (Nat.le_refl _))
      have HKx14 := Lib.hid ((hb.block _ (lt_of_block HKx13.out)).trans HKx13.out)
      have HRo14 := Lib.hid (HRo13.out.below hb (Nat.le_refl _))
      have HKo14 := Lib.hid ((hb.block _ (lt_of_block HKo13.out)).trans HKo13.out)
      have HRm14 := Lib.hid (HRm13.out.below hb (Nat.le_refl _))
      have HRb14 := Lib.hid (HRb13.out.below hb (Nat.le_refl _))
      have HBs1_14 : Hid (Below w1.heap.size w1 w14) := Lib.hid (HBs1_13.out.trans (hb.mono HBs1_13.out.size))
      have HBs3_14 : Hid (Below w3.heap.size w3 w14) := Lib.hid (HBs3_13.out.trans (hb.mono HBs3_13.out.size))
      have HBs8_14 : Hid (Below w8.heap.size w8 w14) := Lib.hid (HBs8_13.out.trans (hb.mono HBs8_13.out.size))
      have HBs13_14 : Hid (Below w13.heap.size w13 w14) := Lib.hid (HBs13_13.out.trans (hb.mono HBs13_13.out.size))
      have HKb14 := Lib.hid hk
      replace HZ14 : Hid (w13.heap.size < w14.heap.size) := Lib.hid (by omega)
      have HE14 := Lib.hid hz
      clear hb hk hz
      refine (vFrame_yes xu xl _ _ xs _ HRb14.out HRx14.out).mono ?_
      rintro e w15 ⟨rfl, hb⟩
      have HB15 : Hid (Below w.heap.size w w15) := Lib.hid (HB14.out.trans (hb.mono HB14.out.size))
      have HZ15 : Hid (w14.heap.size ≤ w15.heap.size) := Lib.hid hb.size
      have HRk15 := Lib.hid (HRk0.out.below HB15.out (Nat.le_refl _))
      have HRx15 := Lib.hid (HRx14.out.below hb (Nat.le_refl _))
      have HKx15 := Lib.hid ((hb.block _ (lt_of_block HKx14.out)).trans HKx14.out)
      have HRo15 := Lib.hid (HRo14.out.below hb (Nat.le_refl _))
      have HKo15 := Lib.hid ((hb.block _ (lt_of_block HKo14.out)).trans HKo14.out)
      have HRm15 := Lib.hid (HRm14.out.below hb (Nat.le_refl _))
      have HRb15 := Lib.hid (HRb14.out.below hb (Nat.le_refl _))
      have HKb15 := Lib.hid ((hb.block _ (lt_of_block HKb14.out)).trans HKb14.out)
      have HBs1_15 : Hid (Below w1.heap.size w1 w15) := Lib.hid (HBs1_14.out.trans (hb.mono HBs1_14.out.size))
      have HBs3_15 : Hid (Below w3.heap.size w3 w15) := Lib.hid (HBs3_14.out.trans (hb.mono HBs3_14.out.size))
      have HBs8_15 : Hid (Below w8.heap.size w8 w15) := Lib.hid (HBs8_14.out.trans (hb.mono HBs8_14.out.size))
      have HBs13_15 : Hid (Below w13.heap.size w13 w15) := Lib.hid (HBs13_14.out.trans (hb.mono HBs13_14.out.size))
      clear hb
      cases t with
      | true =>
        have HP1 := Lib.hid (hPl rfl)
        clear hPl
        clear cx0 cx1 cx2 fx0 fx1 fx2 ltx co0 co1 co2 fo0 fo1 fo2 lto
        have ltx := lt_of_block HKx15.out
        obtain ⟨cx0, cx1, cx2, fx0, fx1, fx2⟩ := cell3 HKx15.out
        have lto := lt_of_block HKo15.out
        obtain ⟨co0, co1, co2, fo0, fo1, fo2⟩ := cell3 HKo15.out
        go_wp2_with fail
        refine (HP1.out _ _ _ HRx15.out HRm15.out).mono ?_
        rintro e w16 ⟨⟨v, rfl, ho⟩, hb⟩
        have HB16 : Hid (Below w.heap.size w w16) := Lib.hid (HB15.out.trans (hb.mono HB15.out.size))
        have HZ16 : Hid (w15.heap.size ≤ w16.heap.size) := Lib.hid hb.size
        have HRk16 := Lib.hid (HRk0.out.below HB16.out (Nat.le_refl _))
        have HRx16 := Lib.hid (HRx15.out.below hb (Nat.le_refl _))
        have HKx16 := Lib.hid ((hb.block _ (lt_of_block HKx15.out)).trans HKx15.out)
        have HRo16 := Lib.hid (HRo15.out.below hb (Nat.le_refl _))
        have HKo16 := Lib.hid ((hb.block _ (lt_of_block HKo15.out)).trans HKo15.out)
        have HRm16 := Lib.hid (HRm15.out.below hb (Nat.le_refl _))
        have HBs1_16 : Hid (Below w1.heap.size w1 w16) := Lib.hid (HBs1_15.out.trans (hb.mono HBs1_15.out.size))
        have HBs3_16 : Hid (Below w3.heap.size w3 w16) := Lib.hid (HBs3_15.out.trans (hb.mono HBs3_15.out.size))
        have HBs8_16 : Hid (Below w8.heap.size w8 w16) := Lib.hid (HBs8_15.out.trans (hb.mono HBs8_15.out.size))
        clear hb
        obtain ⟨qae, qce, rfl⟩ : ∃ a c, v = .slice a qs.length c := by obtain ⟨a, c, e, _⟩ := ho; exact ⟨a, c, e⟩
        have HRe16 := Lib.hid (ho)
        have HBs16_16 : Hid (Below w16.heap.size w16 w16) := Lib.hid (Below.refl _ _)
        clear ho
        clear cx0 cx1 cx2 fx0 fx1 fx2 ltx co0 co1 co2 fo0 fo1 fo2 lto
        have ltx := lt_of_block HKx16.out
        obtain ⟨cx0, cx1, cx2, fx0, fx1, fx2⟩ := cell3 HKx16.out
        have lto := lt_of_block HKo16.out
        obtain ⟨co0, co1, co2, fo0, fo1, fo2⟩ := cell3 HKo16.out
        go_wp2_with fail
        have hb : Below w16.heap.size w16 (w16.alloc (.cells #[.int .i64 fu, .int .i64 fl, .slice qae qs.length qce] 26)) := (Below.refl _ _).alloc (Nat.le_refl _) _
        have hk : (w16.alloc (.cells #[.int .i64 fu, .int .i64 fl, .slice qae qs.length qce] 26)).heap[w16.heap.size]? = some (.cells #[.int .i64 fu, .int .i64 fl, .slice qae qs.length qce] 26 (0, 0)) := alloc_at rfl
        have hz : (w16.alloc (.cells #[.int .i64 fu, .int .i64 fl, .slice qae qs.length qce] 26)).heap.size = w16.heap.size + 1 := by simp
        generalize w16.alloc (.cells #[.int .i64 fu, .int .i64 fl, .slice qae qs.length qce] 26) = w17 at hb hk hz ⊢
        have HB17 : Hid (Below w.heap.size w w17) := Lib.hid (HB16.out.trans (hb.mono HB16.out.size))
        have HZ17 : Hid (w16.heap.size ≤ w17.heap.size) := Lib.hid hb.size
        have HRk17 := Lib.hid (HRk0.out.below HB17.out (Nat.le_refl _))
        have HRx17 := Lib.hid (HRx16.out.below hb (Nat.le_refl _))
        have HKx17 := Lib.hid ((hb.block _ (lt_of_block HKx16.out)).trans HKx16.out)
        have HRo17 := Lib.hid (HRo16.out.below hb (Nat.le_refl _))
        have HKo17 := Lib.hid ((hb.block _ (lt_of_block HKo16.out)).trans HKo16.out)
        have HRm17 := Lib.hid (HRm16.out.below hb (Nat.le_refl _))
        have HRe17 := Lib.hid (HRe16.out.below hb (Nat.le_refl _))
        have HBs1_17 : Hid (Below w1.heap.size w1 w17) := Lib.hid (HBs1_16.out.trans (hb.mono HBs1_16.out.size))
        have HBs3_17 : Hid (Below w3.heap.size w3 w17) := Lib.hid (HBs3_16.out.trans (hb.mono HBs3_16.out.size))
        have HBs8_17 : Hid (Below w8.heap.size w8 w17) := Lib.hid (HBs8_16.out.trans (hb.mono HBs8_16.out.size))
        have HBs16_17 : Hid (Below w16.heap.size w16 w17) := Lib.hid (HBs16_16.out.trans (hb.mono HBs16_16.out.size))
        have HKe17 := Lib.hid hk
        replace HZ17 : Hid (w16.heap.size < w17.heap.size) := Lib.hid (by omega)
        have HE17 := Lib.hid hz
        clear hb hk hz
        refine (vFrame_yes fu fl _ _ qs _ HRe17.out HRo17.out).mono ?_
        rintro e w18 ⟨rfl, hb⟩
        have HB18 : Hid (Below w.heap.size w w18) := Lib.hid (HB17.out.trans (hb.mono HB17.out.size))
        have HZ18 : Hid (w17.heap.size ≤ w18.heap.size) := Lib.hid hb.size
        have HRk18 := Lib.hid (HRk0.out.below HB18.out (Nat.le_refl _))
        have HRx18 := Lib.hid (HRx17.out.below hb (Nat.le_refl _))
        have HKx18 := Lib.hid ((hb.block _ (lt_of_block HKx17.out)).trans HKx17.out)
        have HRo18 := Lib.hid (HRo17.out.below hb (Nat.le_refl _))
        have HKo18 := Lib.hid ((hb.block _ (lt_of_block HKo17.out)).trans HKo17.out)
        have HRm18 := Lib.hid (HRm17.out.below hb (Nat.le_refl _))
        have HRe18 := Lib.hid (HRe17.out.below hb (Nat.le_refl _))
        have HKe18 := Lib.hid ((hb.block _ (lt_of_block HKe17.out)).trans HKe17.out)
        have HBs1_18 : Hid (Below w1.heap.size w1 w18) := Lib.hid (HBs1_17.out.trans (hb.mono HBs1_17.out.size))
        have HBs3_18 : Hid (Below w3.heap.size w3 w18) := Lib.hid (HBs3_17.out.trans (hb.mono HBs3_17.out.size))
        have HBs8_18 : Hid (Below w8.heap.size w8 w18) := Lib.hid (HBs8_17.out.trans (hb.mono HBs8_17.out.size))
        have HBs16_18 : Hid (Below w16.heap.size w16 w18) := Lib.hid (HBs16_17.out.trans (hb.mono HBs16_17.out.size))
        clear hb
        clear cx0 cx1 cx2 fx0 fx1 fx2 ltx co0 co1 co2 fo0 fo1 fo2 lto
        have ltx := lt_of_block HKx18.out
        obtain ⟨cx0, cx1, cx2, fx0, fx1, fx2⟩ := cell3 HKx18.out
        have lto := lt_of_block HKo18.out
        obtain ⟨co0, co1, co2, fo0, fo1, fo2⟩ := cell3 HKo18.out
        have lte := lt_of_block HKe18.out
        obtain ⟨ce0, ce1, ce2, fe0, fe1, fe2⟩ := cell3 HKe18.out
        go_wp2_with fail
        refine (HNX.out _ _ HRx18.out).mono ?_
        rintro e w19 ⟨rfl, hb⟩
        have HB19 : Hid (Below w.heap.size w w19) := Lib.hid (HB18.out.trans (hb.mono HB18.out.size))
        have HZ19 : Hid (w18.heap.size ≤ w19.heap.size) := Lib.hid hb.size
        have HRk19 := Lib.hid (HRk0.out.below HB19.out (Nat.le_refl _))
        have HRx19 := Lib.hid (HRx18.out.below hb (Nat.le_refl _))
        have HKx19 := Lib.hid ((hb.block _ (lt_of_block HKx18.out)).trans HKx18.out)
        have HRo19 := Lib.hid (HRo18.out.below hb (Nat.le_refl _))
        have HKo19 := Lib.hid ((hb.block _ (lt_of_block HKo18.out)).trans HKo18.out)
        have HRm19 := Lib.hid (HRm18.out.below hb (Nat.le_refl _))
        have HRe19 := Lib.hid (HRe18.out.below hb (Nat.le_refl _))
        have HKe19 := Lib.hid ((hb.block _ (lt_of_block HKe18.out)).trans HKe18.out)
        have HBs1_19 : Hid (Below w1.heap.size w1 w19) := Lib.hid (HBs1_18.out.trans (hb.mono HBs1_18.out.size))
        have HBs3_19 : Hid (Below w3.heap.size w3 w19) := Lib.hid (HBs3_18.out.trans (hb.mono HBs3_18.out.size))
        have HBs8_19 : Hid (Below w8.heap.size w8 w19) := Lib.hid (HBs8_18.out.trans (hb.mono HBs8_18.out.size))
        have HBs16_19 : Hid (Below w16.heap.size w16 w19) := Lib.hid (HBs16_18.out.trans (hb.mono HBs16_18.out.size))
        clear hb
        clear cx0 cx1 cx2 fx0 fx1 fx2 ltx co0 co1 co2 fo0 fo1 fo2 lto ce0 ce1 ce2 fe0 fe1 fe2 lte
        have ltx := lt_of_block HKx19.out
        obtain ⟨cx0, cx1, cx2, fx0, fx1, fx2⟩ := cell3 HKx19.out
        have lto := lt_of_block HKo19.out
        obtain ⟨co0, co1, co2, fo0, fo1, fo2⟩ := cell3 HKo19.out
        have lte := lt_of_block HKe19.out
        obtain ⟨ce0, ce1, ce2, fe0, fe1, fe2⟩ := cell3 HKe19.out
        go_wp2_with fail
        refine (vDigitSum_any N _ (by omega) (by omega)).mono ?_
        rintro e w' ⟨rfl, hw⟩
        subst w'
        go_wp2_with fail
        refine (vDigitSum_any z _ (by omega) (by omega)).mono ?_
        rintro e w' ⟨rfl, hw⟩
        subst w'
        rw [HDA.out, HDZ.out]
        go_wp2_with fail
        refine (vDigitSum_any (N - z) _ (by omega) (by omega)).mono ?_
        rintro e w' ⟨rfl, hw⟩
        subst w'
        rw [HDR.out]
        go_wp2_with fail
        refine (drawTakeDigit_any _ L _ HRk19.out).mono ?_
        rintro e w20 ⟨⟨yu, yl, yv, ys, q, d, rfl, ho, -⟩, hb⟩
        have HB20 : Hid (Below w.heap.size w w20) := Lib.hid (HB19.out.trans (hb.mono HB19.out.size))
        have HZ20 : Hid (w19.heap.size ≤ w20.heap.size) := Lib.hid hb.size
        have HRk20 := Lib.hid (HRk0.out.below HB20.out (Nat.le_refl _))
        clear hb
        obtain ⟨qay, qcy, rfl⟩ : ∃ a c, yv = .slice a ys.length c := by obtain ⟨a, c, e, _⟩ := ho; exact ⟨a, c, e⟩
        have HRy20 := Lib.hid (ho)
        have HBs20_20 : Hid (Below w20.heap.size w20 w20) := Lib.hid (Below.refl _ _)
        clear ho
        obtain ⟨gu, gl, rs, ns, b2, hS, hI, hSM, hIM, hY2⟩ := tdig_same yu yl ys q d
        have HS2 := Lib.hid hS
        have HI2 := Lib.hid hI
        have HSM2 := Lib.hid hSM
        have HIM2 := Lib.hid hIM
        clear hS hI hSM hIM
        have hb2 : (b2 != b2) = false := by simp
        clear cx0 cx1 cx2 fx0 fx1 fx2 ltx co0 co1 co2 fo0 fo1 fo2 lto ce0 ce1 ce2 fe0 fe1 fe2 lte
        go_wp2_with fail
        have hb : Below w20.heap.size w20 (w20.alloc (.cells #[.int .i64 yu, .int .i64 yl, .slice qay ys.length qcy] 26)) := (Below.refl _ _).alloc (Nat.le_refl _) _
        have hk : (w20.alloc (.cells #[.int .i64 yu, .int .i64 yl, .slice qay ys.length qcy] 26)).heap[w20.heap.size]? = some (.cells #[.int .i64 yu, .int .i64 yl, .slice qay ys.length qcy] 26 (0, 0)) := alloc_at rfl
        have hz : (w20.alloc (.cells #[.int .i64 yu, .int .i64 yl, .slice qay ys.length qcy] 26)).heap.size = w20.heap.size + 1 := by simp
        generalize w20.alloc (.cells #[.int .i64 yu, .int .i64 yl, .slice qay ys.length qcy] 26) = w21 at hb hk hz ⊢
        have HB21 : Hid (Below w.heap.size w w21) := Lib.hid (HB20.out.trans (hb.mono HB20.out.size))
        have HZ21 : Hid (w20.heap.size ≤ w21.heap.size) := Lib.hid hb.size
        have HRk21 := Lib.hid (HRk0.out.below HB21.out (Nat.le_refl _))
        have HRy21 := Lib.hid (HRy20.out.below hb (Nat.le_refl _))
        have HBs20_21 : Hid (Below w20.heap.size w20 w21) := Lib.hid (HBs20_20.out.trans (hb.mono HBs20_20.out.size))
        have HKy21 := Lib.hid hk
        replace HZ21 : Hid (w20.heap.size < w21.heap.size) := Lib.hid (by omega)
        have HE21 := Lib.hid hz
        clear hb hk hz
        refine (HI2.out _ _ HRy21.out).mono ?_
        rintro e w22 ⟨⟨v, rfl, ho⟩, hb⟩
        have HB22 : Hid (Below w.heap.size w w22) := Lib.hid (HB21.out.trans (hb.mono HB21.out.size))
        have HZ22 : Hid (w21.heap.size ≤ w22.heap.size) := Lib.hid hb.size
        have HRk22 := Lib.hid (HRk0.out.below HB22.out (Nat.le_refl _))
        have HRy22 := Lib.hid (HRy21.out.below hb (Nat.le_refl _))
        have HKy22 := Lib.hid ((hb.block _ (lt_of_block HKy21.out)).trans HKy21.out)
        have HBs20_22 : Hid (Below w20.heap.size w20 w22) := Lib.hid (HBs20_21.out.trans (hb.mono HBs20_21.out.size))
        clear hb
        obtain ⟨qas, qcs, rfl⟩ : ∃ a c, v = .slice a rs.length c := by obtain ⟨a, c, e, _⟩ := ho; exact ⟨a, c, e⟩
        have HRs22 := Lib.hid (ho)
        have HBs22_22 : Hid (Below w22.heap.size w22 w22) := Lib.hid (Below.refl _ _)
        clear ho
        have lty := lt_of_block HKy22.out
        obtain ⟨cy0, cy1, cy2, fy0, fy1, fy2⟩ := cell3 HKy22.out
        go_wp2_with fail
        have hb : Below w22.heap.size w22 (w22.alloc (.cells #[.int .i64 gu, .int .i64 gl, .slice qas rs.length qcs] 26)) := (Below.refl _ _).alloc (Nat.le_refl _) _
        have hk : (w22.alloc (.cells #[.int .i64 gu, .int .i64 gl, .slice qas rs.length qcs] 26)).heap[w22.heap.size]? = some (.cells #[.int .i64 gu, .int .i64 gl, .slice qas rs.length qcs] 26 (0, 0)) := alloc_at rfl
        have hz : (w22.alloc (.cells #[.int .i64 gu, .int .i64 gl, .slice qas rs.length qcs] 26)).heap.size = w22.heap.size + 1 := by simp
        generalize w22.alloc (.cells #[.int .i64 gu, .int .i64 gl, .slice qas rs.length qcs] 26) = w23 at hb hk hz ⊢
        have HB23 : Hid (Below w.heap.size w w23) := Lib.hid (HB22.out.trans (hb.mono HB22.out.size))
        have HZ23 : Hid (w22.heap.size ≤ w23.heap.size) := Lib.hid hb.size
        have HRk23 := Lib.hid (HRk0.out.below HB23.out (Nat.le_refl _))
        have HRy23 := Lib.hid (HRy22.out.below hb (Nat.le_refl _))
        have HKy23 := Lib.hid ((hb.block _ (lt_of_block HKy22.out)).trans HKy22.out)
        have HRs23 := Lib.hid (HRs22.out.below hb (Nat.le_refl _))
        have HBs20_23 : Hid (Below w20.heap.size w20 w23) := Lib.hid (HBs20_22.out.trans (hb.mono HBs20_22.out.size))
        have HBs22_23 : Hid (Below w22.heap.size w22 w23) := Lib.hid (HBs22_22.out.trans (hb.mono HBs22_22.out.size))
        have HKs23 := Lib.hid hk
        replace HZ23 : Hid (w22.heap.size < w23.heap.size) := Lib.hid (by omega)
        have HE23 := Lib.hid hz
        clear hb hk hz
        refine (HS2.out _ _ HRy23.out).mono ?_
        rintro e w24 ⟨⟨v, rfl, ho⟩, hb⟩
        have HB24 : Hid (Below w.heap.size w w24) := Lib.hid (HB23.out.trans (hb.mono HB23.out.size))
        have HZ24 : Hid (w23.heap.size ≤ w24.heap.size) := Lib.hid hb.size
        have HRk24 := Lib.hid (HRk0.out.below HB24.out (Nat.le_refl _))
        have HRy24 := Lib.hid (HRy23.out.below hb (Nat.le_refl _))
        have HKy24 := Lib.hid ((hb.block _ (lt_of_block HKy23.out)).trans HKy23.out)
        have HRs24 := Lib.hid (HRs23.out.below hb (Nat.le_refl _))
        have HKs24 := Lib.hid ((hb.block _ (lt_of_block HKs23.out)).trans HKs23.out)
        have HBs20_24 : Hid (Below w20.heap.size w20 w24) := Lib.hid (HBs20_23.out.trans (hb.mono HBs20_23.out.size))
        have HBs22_24 : Hid (Below w22.heap.size w22 w24) := Lib.hid (HBs22_23.out.trans (hb.mono HBs22_23.out.size))
        clear hb
        obtain ⟨qat, qct, rfl⟩ : ∃ a c, v = .slice a rs.length c := by obtain ⟨a, c, e, _⟩ := ho; exact ⟨a, c, e⟩
        have HRt24 := Lib.hid (ho)
        have HBs24_24 : Hid (Below w24.heap.size w24 w24) := Lib.hid (Below.refl _ _)
        clear ho
        clear cy0 cy1 cy2 fy0 fy1 fy2 lty
        have lty := lt_of_block HKy24.out
        obtain ⟨cy0, cy1, cy2, fy0, fy1, fy2⟩ := cell3 HKy24.out
        have lts := lt_of_block HKs24.out
        obtain ⟨cs0, cs1, cs2, fs0, fs1, fs2⟩ := cell3 HKs24.out
        go_wp2_with fail
        have hb : Below w24.heap.size w24 (w24.alloc (.cells #[.int .i64 gu, .int .i64 gl, .slice qat rs.length qct] 26)) := (Below.refl _ _).alloc (Nat.le_refl _) _
        have hk : (w24.alloc (.cells #[.int .i64 gu, .int .i64 gl, .slice qat rs.length qct] 26)).heap[w24.heap.size]? = some (.cells #[.int .i64 gu, .int .i64 gl, .slice qat rs.length qct] 26 (0, 0)) := alloc_at rfl
        have hz : (w24.alloc (.cells #[.int .i64 gu, .int .i64 gl, .slice qat rs.length qct] 26)).heap.size = w24.heap.size + 1 := by simp
        generalize w24.alloc (.cells #[.int .i64 gu, .int .i64 gl, .slice qat rs.length qct] 26) = w25 at hb hk hz ⊢
        have HB25 : Hid (Below w.heap.size w w25) := Lib.hid (HB24.out.trans (hb.mono HB24.out.size))
        have HZ25 : Hid (w24.heap.size ≤ w25.heap.size) := Lib.hid hb.size
        have HRk25 := Lib.hid (HRk0.out.below HB25.out (Nat.le_refl _))
        have HRy25 := Lib.hid (HRy24.out.below hb (Nat.le_refl _))
        have HKy25 := Lib.hid ((hb.block _ (lt_of_block HKy24.out)).trans HKy24.out)
        have HRs25 := Lib.hid (HRs24.out.below hb (Nat.le_refl _))
        have HKs25 := Lib.hid ((hb.block _ (lt_of_block HKs24.out)).trans HKs24.out)
        have HRt25 := Lib.hid (HRt24.out.below hb (Nat.le_refl _))
        have HBs20_25 : Hid (Below w20.heap.size w20 w25) := Lib.hid (HBs20_24.out.trans (hb.mono HBs20_24.out.size))
        have HBs22_25 : Hid (Below w22.heap.size w22 w25) := Lib.hid (HBs22_24.out.trans (hb.mono HBs22_24.out.size))
        have HBs24_25 : Hid (Below w24.heap.size w24 w25) := Lib.hid (HBs24_24.out.trans (hb.mono HBs24_24.out.size))
        have HKt25 := Lib.hid hk
        replace HZ25 : Hid (w24.heap.size < w25.heap.size) := Lib.hid (by omega)
        have HE25 := Lib.hid hz
        clear hb hk hz
        refine (vFrame_yes gu gl _ _ rs _ HRs25.out HRt25.out).mono ?_
        rintro e w26 ⟨rfl, hb⟩
        have HB26 : Hid (Below w.heap.size w w26) := Lib.hid (HB25.out.trans (hb.mono HB25.out.size))
        have HZ26 : Hid (w25.heap.size ≤ w26.heap.size) := Lib.hid hb.size
        have HRk26 := Lib.hid (HRk0.out.below HB26.out (Nat.le_refl _))
        have HRy26 := Lib.hid (HRy25.out.below hb (Nat.le_refl _))
        have HKy26 := Lib.hid ((hb.block _ (lt_of_block HKy25.out)).trans HKy25.out)
        have HRs26 := Lib.hid (HRs25.out.below hb (Nat.le_refl _))
        have HKs26 := Lib.hid ((hb.block _ (lt_of_block HKs25.out)).trans HKs25.out)
        have HRt26 := Lib.hid (HRt25.out.below hb (Nat.le_refl _))
        have HKt26 := Lib.hid ((hb.block _ (lt_of_block HKt25.out)).trans HKt25.out)
        have HBs20_26 : Hid (Below w20.heap.size w20 w26) := Lib.hid (HBs20_25.out.trans (hb.mono HBs20_25.out.size))
        have HBs22_26 : Hid (Below w22.heap.size w22 w26) := Lib.hid (HBs22_25.out.trans (hb.mono HBs22_25.out.size))
        have HBs24_26 : Hid (Below w24.heap.size w24 w26) := Lib.hid (HBs24_25.out.trans (hb.mono HBs24_25.out.size))
        clear hb
        clear cy0 cy1 cy2 fy0 fy1 fy2 lty cs0 cs1 cs2 fs0 fs1 fs2 lts
        have lty := lt_of_block HKy26.out
        obtain ⟨cy0, cy1, cy2, fy0, fy1, fy2⟩ := cell3 HKy26.out
        have lts := lt_of_block HKs26.out
        obtain ⟨cs0, cs1, cs2, fs0, fs1, fs2⟩ := cell3 HKs26.out
        go_wp2_with fail
        refine (HIM2.out _ _ HRy26.out).mono ?_
        rintro e w27 ⟨⟨v, rfl, ho⟩, hb⟩
        have HB27 : Hid (Below w.heap.size w w27) := Lib.hid (HB26.out.trans (hb.mono HB26.out.size))
        have HZ27 : Hid (w26.heap.size ≤ w27.heap.size) := Lib.hid hb.size
        have HRk27 := Lib.hid (HRk0.out.below HB27.out (Nat.le_refl _))
        have HRy27 := Lib.hid (HRy26.out.below hb (Nat.le_refl _))
        have HKy27 := Lib.hid ((hb.block _ (lt_of_block HKy26.out)).trans HKy26.out)
        have HRs27 := Lib.hid (HRs26.out.below hb (Nat.le_refl _))
        have HKs27 := Lib.hid ((hb.block _ (lt_of_block HKs26.out)).trans HKs26.out)
        have HBs20_27 : Hid (Below w20.heap.size w20 w27) := Lib.hid (HBs20_26.out.trans (hb.mono HBs20_26.out.size))
        have HBs22_27 : Hid (Below w22.heap.size w22 w27) := Lib.hid (HBs22_26.out.trans (hb.mono HBs22_26.out.size))
        clear hb
        obtain ⟨qam, qcm, rfl⟩ := ho.form
        have HRm27 := Lib.hid (ho)
        have HBs27_27 : Hid (Below w27.heap.size w27 w27) := Lib.hid (Below.refl _ _)
        clear ho
        clear cy0 cy1 cy2 fy0 fy1 fy2 lty cs0 cs1 cs2 fs0 fs1 fs2 lts
        have lty := lt_of_block HKy27.out
        obtain ⟨cy0, cy1, cy2, fy0, fy1, fy2⟩ := cell3 HKy27.out
        have lts := lt_of_block HKs27.out
        obtain ⟨cs0, cs1, cs2, fs0, fs1, fs2⟩ := cell3 HKs27.out
        go_wp2_with fail
        refine (HSM2.out _ _ HRy27.out).mono ?_
        rintro e w28 ⟨⟨v, rfl, ho⟩, hb⟩
        have HB28 : Hid (Below w.heap.size w w28) := Lib.hid (HB27.out.trans (hb.mono HB27.out.size))
        have HZ28 : Hid (w27.heap.size ≤ w28.heap.size) := Lib.hid hb.size
        have HRk28 := Lib.hid (HRk0.out.below HB28.out (Nat.le_refl _))
        have HRy28 := Lib.hid (HRy27.out.below hb (Nat.le_refl _))
        have HKy28 := Lib.hid ((hb.block _ (lt_of_block HKy27.out)).trans HKy27.out)
        have HRs28 := Lib.hid (HRs27.out.below hb (Nat.le_refl _))
        have HKs28 := Lib.hid ((hb.block _ (lt_of_block HKs27.out)).trans HKs27.out)
        have HRm28 := Lib.hid (HRm27.out.below hb (Nat.le_refl _))
        have HBs20_28 : Hid (Below w20.heap.size w20 w28) := Lib.hid (HBs20_27.out.trans (hb.mono HBs20_27.out.size))
        have HBs22_28 : Hid (Below w22.heap.size w22 w28) := Lib.hid (HBs22_27.out.trans (hb.mono HBs22_27.out.size))
        have HBs27_28 : Hid (Below w27.heap.size w27 w28) := Lib.hid (HBs27_27.out.trans (hb.mono HBs27_27.out.size))
        clear hb
        obtain ⟨qan, qcn, rfl⟩ := ho.form
        have HRn28 := Lib.hid (ho)
        have HBs28_28 : Hid (Below w28.heap.size w28 w28) := Lib.hid (Below.refl _ _)
        clear ho
        clear cy0 cy1 cy2 fy0 fy1 fy2 lty cs0 cs1 cs2 fs0 fs1 fs2 lts
        have lty := lt_of_block HKy28.out
        obtain ⟨cy0, cy1, cy2, fy0, fy1, fy2⟩ := cell3 HKy28.out
        have lts := lt_of_block HKs28.out
        obtain ⟨cs0, cs1, cs2, fs0, fs1, fs2⟩ := cell3 HKs28.out
        go_wp2_with fail
        refine (vMoves_yes _ _ ns _ HRm28.out HRn28.out).mono ?_
        rintro e w29 ⟨rfl, hb⟩
        have HB29 : Hid (Below w.heap.size w w29) := Lib.hid (HB28.out.trans (hb.mono HB28.out.size))
        have HZ29 : Hid (w28.heap.size ≤ w29.heap.size) := Lib.hid hb.size
        have HRk29 := Lib.hid (HRk0.out.below HB29.out (Nat.le_refl _))
        have HRy29 := Lib.hid (HRy28.out.below hb (Nat.le_refl _))
        have HKy29 := Lib.hid ((hb.block _ (lt_of_block HKy28.out)).trans HKy28.out)
        have HRs29 := Lib.hid (HRs28.out.below hb (Nat.le_refl _))
        have HKs29 := Lib.hid ((hb.block _ (lt_of_block HKs28.out)).trans HKs28.out)
        have HRm29 := Lib.hid (HRm28.out.below hb (Nat.le_refl _))
        have HRn29 := Lib.hid (HRn28.out.below hb (Nat.le_refl _))
        have HBs20_29 : Hid (Below w20.heap.size w20 w29) := Lib.hid (HBs20_28.out.trans (hb.mono HBs20_28.out.size))
        have HBs22_29 : Hid (Below w22.heap.size w22 w29) := Lib.hid (HBs22_28.out.trans (hb.mono HBs22_28.out.size))
        have HBs27_29 : Hid (Below w27.heap.size w27 w29) := Lib.hid (HBs27_28.out.trans (hb.mono HBs27_28.out.size))
        have HBs28_29 : Hid (Below w28.heap.size w28 w29) := Lib.hid (HBs28_28.out.trans (hb.mono HBs28_28.out.size))
        clear hb
        cases b2 with
        | true =>
          have HP2 := Lib.hid (hY2 rfl)
          clear hY2
          clear cy0 cy1 cy2 fy0 fy1 fy2 lty cs0 cs1 cs2 fs0 fs1 fs2 lts
          have lty := lt_of_block HKy29.out
          obtain ⟨cy0, cy1, cy2, fy0, fy1, fy2⟩ := cell3 HKy29.out
          have lts := lt_of_block HKs29.out
          obtain ⟨cs0, cs1, cs2, fs0, fs1, fs2⟩ := cell3 HKs29.out
          go_wp2_with fail
          refine (HP2.out _ _ HRs29.out).mono ?_
          rintro e w30 ⟨⟨v, rfl, ho⟩, hb⟩
          have HB30 : Hid (Below w.heap.size w w30) := Lib.hid (HB29.out.trans (hb.mono HB29.out.size))
          have HZ30 : Hid (w29.heap.size ≤ w30.heap.size) := Lib.hid hb.size
          have HRk30 := Lib.hid (HRk0.out.below HB30.out (Nat.le_refl _))
          have HRy30 := Lib.hid (HRy29.out.below hb (Nat.le_refl _))
          have HKy30 := Lib.hid ((hb.block _ (lt_of_block HKy29.out)).trans HKy29.out)
          have HRs30 := Lib.hid (HRs29.out.below hb (Nat.le_refl _))
          have HKs30 := Lib.hid ((hb.block _ (lt_of_block HKs29.out)).trans HKs29.out)
          have HBs20_30 : Hid (Below w20.heap.size w20 w30) := Lib.hid (HBs20_29.out.trans (hb.mono HBs20_29.out.size))
          have HBs22_30 : Hid (Below w22.heap.size w22 w30) := Lib.hid (HBs22_29.out.trans (hb.mono HBs22_29.out.size))
          clear hb
          obtain ⟨qae, qce, rfl⟩ : ∃ a c, v = .slice a ys.length c := by obtain ⟨a, c, e, _⟩ := ho; exact ⟨a, c, e⟩
          have HRe30 := Lib.hid (ho)
          have HBs30_30 : Hid (Below w30.heap.size w30 w30) := Lib.hid (Below.refl _ _)
          clear ho
          clear cy0 cy1 cy2 fy0 fy1 fy2 lty cs0 cs1 cs2 fs0 fs1 fs2 lts
          have lty := lt_of_block HKy30.out
          obtain ⟨cy0, cy1, cy2, fy0, fy1, fy2⟩ := cell3 HKy30.out
          have lts := lt_of_block HKs30.out
          obtain ⟨cs0, cs1, cs2, fs0, fs1, fs2⟩ := cell3 HKs30.out
          go_wp2_with fail
          have hb : Below w30.heap.size w30 (w30.alloc (.cells #[.int .i64 yu, .int .i64 yl, .slice qae ys.length qce] 26)) := (Below.refl _ _).alloc (Nat.le_refl _) _
          have hk : (w30.alloc (.cells #[.int .i64 yu, .int .i64 yl, .slice qae ys.length qce] 26)).heap[w30.heap.size]? = some (.cells #[.int .i64 yu, .int .i64 yl, .slice qae ys.length qce] 26 (0, 0)) := alloc_at rfl
          have hz : (w30.alloc (.cells #[.int .i64 yu, .int .i64 yl, .slice qae ys.length qce] 26)).heap.size = w30.heap.size + 1 := by simp
          generalize w30.alloc (.cells #[.int .i64 yu, .int .i64 yl, .slice qae ys.length qce] 26) = w31 at hb hk hz ⊢
          have HB31 : Hid (Below w.heap.size w w31) := Lib.hid (HB30.out.trans (hb.mono HB30.out.size))
          have HZ31 : Hid (w30.heap.size ≤ w31.heap.size) := Lib.hid hb.size
          have HRk31 := Lib.hid (HRk0.out.below HB31.out (Nat.le_refl _))
          have HRy31 := Lib.hid (HRy30.out.below hb (Nat.le_refl _))
          have HKy31 := Lib.hid ((hb.block _ (lt_of_block HKy30.out)).trans HKy30.out)
          have HRs31 := Lib.hid (HRs30.out.below hb (Nat.le_refl _))
          have HKs31 := Lib.hid ((hb.block _ (lt_of_block HKs30.out)).trans HKs30.out)
          have HRe31 := Lib.hid (HRe30.out.below hb (Nat.le_refl _))
          have HBs20_31 : Hid (Below w20.heap.size w20 w31) := Lib.hid (HBs20_30.out.trans (hb.mono HBs20_30.out.size))
          have HBs22_31 : Hid (Below w22.heap.size w22 w31) := Lib.hid (HBs22_30.out.trans (hb.mono HBs22_30.out.size))
          have HBs30_31 : Hid (Below w30.heap.size w30 w31) := Lib.hid (HBs30_30.out.trans (hb.mono HBs30_30.out.size))
          have HKe31 := Lib.hid hk
          replace HZ31 : Hid (w30.heap.size < w31.heap.size) := Lib.hid (by omega)
          have HE31 := Lib.hid hz
          clear hb hk hz
          refine (vFrame_yes yu yl _ _ ys _ HRe31.out HRy31.out).mono ?_
          rintro e w32 ⟨rfl, hb⟩
          have HB32 : Hid (Below w.heap.size w w32) := Lib.hid (HB31.out.trans (hb.mono HB31.out.size))
          have HZ32 : Hid (w31.heap.size ≤ w32.heap.size) := Lib.hid hb.size
          have HRk32 := Lib.hid (HRk0.out.below HB32.out (Nat.le_refl _))
          have HRy32 := Lib.hid (HRy31.out.below hb (Nat.le_refl _))
          have HKy32 := Lib.hid ((hb.block _ (lt_of_block HKy31.out)).trans HKy31.out)
          have HRs32 := Lib.hid (HRs31.out.below hb (Nat.le_refl _))
          have HKs32 := Lib.hid ((hb.block _ (lt_of_block HKs31.out)).trans HKs31.out)
          have HRe32 := Lib.hid (HRe31.out.below hb (Nat.le_refl _))
          have HKe32 := Lib.hid ((hb.block _ (lt_of_block HKe31.out)).trans HKe31.out)
          have HBs20_32 : Hid (Below w20.heap.size w20 w32) := Lib.hid (HBs20_31.out.trans (hb.mono HBs20_31.out.size))
          have HBs22_32 : Hid (Below w22.heap.size w22 w32) := Lib.hid (HBs22_31.out.trans (hb.mono HBs22_31.out.size))
          have HBs30_32 : Hid (Below w30.heap.size w30 w32) := Lib.hid (HBs30_31.out.trans (hb.mono HBs30_31.out.size))
          clear hb
          clear cy0 cy1 cy2 fy0 fy1 fy2 lty cs0 cs1 cs2 fs0 fs1 fs2 lts
          have lty := lt_of_block HKy32.out
          obtain ⟨cy0, cy1, cy2, fy0, fy1, fy2⟩ := cell3 HKy32.out
          have lts := lt_of_block HKs32.out
          obtain ⟨cs0, cs1, cs2, fs0, fs1, fs2⟩ := cell3 HKs32.out
          have lte := lt_of_block HKe32.out
          obtain ⟨ce0, ce1, ce2, fe0, fe1, fe2⟩ := cell3 HKe32.out
          go_wp2_with fail
          go_ret
          exact ⟨rfl, HB32.out⟩
        | false =>
          clear hY2
          clear cy0 cy1 cy2 fy0 fy1 fy2 lty cs0 cs1 cs2 fs0 fs1 fs2 lts
          have lty := lt_of_block HKy29.out
          obtain ⟨cy0, cy1, cy2, fy0, fy1, fy2⟩ := cell3 HKy29.out
          have lts := lt_of_block HKs29.out
          obtain ⟨cs0, cs1, cs2, fs0, fs1, fs2⟩ := cell3 HKs29.out
          go_wp2_with fail
          go_ret
          exact ⟨rfl, HB29.out⟩
      | false =>
        clear hPl
        clear cx0 cx1 cx2 fx0 fx1 fx2 ltx co0 co1 co2 fo0 fo1 fo2 lto
        have ltx := lt_of_block HKx15.out
        obtain ⟨cx0, cx1, cx2, fx0, fx1, fx2⟩ := cell3 HKx15.out
        have lto := lt_of_block HKo15.out
        obtain ⟨co0, co1, co2, fo0, fo1, fo2⟩ := cell3 HKo15.out
        go_wp2_with fail
        refine (HNX.out _ _ HRx15.out).mono ?_
        rintro e w16 ⟨rfl, hb⟩
        have HB16 : Hid (Below w.heap.size w w16) := Lib.hid (HB15.out.trans (hb.mono HB15.out.size))
        have HZ16 : Hid (w15.heap.size ≤ w16.heap.size) := Lib.hid hb.size
        have HRk16 := Lib.hid (HRk0.out.below HB16.out (Nat.le_refl _))
        have HRx16 := Lib.hid (HRx15.out.below hb (Nat.le_refl _))
        have HKx16 := Lib.hid ((hb.block _ (lt_of_block HKx15.out)).trans HKx15.out)
        have HRo16 := Lib.hid (HRo15.out.below hb (Nat.le_refl _))
        have HKo16 := Lib.hid ((hb.block _ (lt_of_block HKo15.out)).trans HKo15.out)
        have HRm16 := Lib.hid (HRm15.out.below hb (Nat.le_refl _))
        have HBs1_16 : Hid (Below w1.heap.size w1 w16) := Lib.hid (HBs1_15.out.trans (hb.mono HBs1_15.out.size))
        have HBs3_16 : Hid (Below w3.heap.size w3 w16) := Lib.hid (HBs3_15.out.trans (hb.mono HBs3_15.out.size))
        have HBs8_16 : Hid (Below w8.heap.size w8 w16) := Lib.hid (HBs8_15.out.trans (hb.mono HBs8_15.out.size))
        clear hb
        clear cx0 cx1 cx2 fx0 fx1 fx2 ltx co0 co1 co2 fo0 fo1 fo2 lto
        have ltx := lt_of_block HKx16.out
        obtain ⟨cx0, cx1, cx2, fx0, fx1, fx2⟩ := cell3 HKx16.out
        have lto := lt_of_block HKo16.out
        obtain ⟨co0, co1, co2, fo0, fo1, fo2⟩ := cell3 HKo16.out
        go_wp2_with fail
        refine (vDigitSum_any N _ (by omega) (by omega)).mono ?_
        rintro e w' ⟨rfl, hw⟩
        subst w'
        go_wp2_with fail
        refine (vDigitSum_any z _ (by omega) (by omega)).mono ?_
        rintro e w' ⟨rfl, hw⟩
        subst w'
        rw [HDA.out, HDZ.out]
        go_wp2_with fail
        refine (vDigitSum_any (N - z) _ (by omega) (by omega)).mono ?_
        rintro e w' ⟨rfl, hw⟩
        subst w'
        rw [HDR.out]
        go_wp2_with fail
        refine (drawTakeDigit_any _ L _ HRk16.out).mono ?_
        rintro e w17 ⟨⟨yu, yl, yv, ys, q, d, rfl, ho, -⟩, hb⟩
        have HB17 : Hid (Below w.heap.size w w17) := Lib.hid (HB16.out.trans (hb.mono HB16.out.size))
        have HZ17 : Hid (w16.heap.size ≤ w17.heap.size) := Lib.hid hb.size
        have HRk17 := Lib.hid (HRk0.out.below HB17.out (Nat.le_refl _))
        clear hb
        obtain ⟨qay, qcy, rfl⟩ : ∃ a c, yv = .slice a ys.length c := by obtain ⟨a, c, e, _⟩ := ho; exact ⟨a, c, e⟩
        have HRy17 := Lib.hid (ho)
        have HBs17_17 : Hid (Below w17.heap.size w17 w17) := Lib.hid (Below.refl _ _)
        clear ho
        obtain ⟨gu, gl, rs, ns, b2, hS, hI, hSM, hIM, hY2⟩ := tdig_same yu yl ys q d
        have HS2 := Lib.hid hS
        have HI2 := Lib.hid hI
        have HSM2 := Lib.hid hSM
        have HIM2 := Lib.hid hIM
        clear hS hI hSM hIM
        have hb2 : (b2 != b2) = false := by simp
        clear cx0 cx1 cx2 fx0 fx1 fx2 ltx co0 co1 co2 fo0 fo1 fo2 lto
        go_wp2_with fail
        have hb : Below w17.heap.size w17 (w17.alloc (.cells #[.int .i64 yu, .int .i64 yl, .slice qay ys.length qcy] 26)) := (Below.refl _ _).alloc (Nat.le_refl _) _
        have hk : (w17.alloc (.cells #[.int .i64 yu, .int .i64 yl, .slice qay ys.length qcy] 26)).heap[w17.heap.size]? = some (.cells #[.int .i64 yu, .int .i64 yl, .slice qay ys.length qcy] 26 (0, 0)) := alloc_at rfl
        have hz : (w17.alloc (.cells #[.int .i64 yu, .int .i64 yl, .slice qay ys.length qcy] 26)).heap.size = w17.heap.size + 1 := by simp
        generalize w17.alloc (.cells #[.int .i64 yu, .int .i64 yl, .slice qay ys.length qcy] 26) = w18 at hb hk hz ⊢
        have HB18 : Hid (Below w.heap.size w w18) := Lib.hid (HB17.out.trans (hb.mono HB17.out.size))
        have HZ18 : Hid (w17.heap.size ≤ w18.heap.size) := Lib.hid hb.size
        have HRk18 := Lib.hid (HRk0.out.below HB18.out (Nat.le_refl _))
        have HRy18 := Lib.hid (HRy17.out.below hb (Nat.le_refl _))
        have HBs17_18 : Hid (Below w17.heap.size w17 w18) := Lib.hid (HBs17_17.out.trans (hb.mono HBs17_17.out.size))
        have HKy18 := Lib.hid hk
        replace HZ18 : Hid (w17.heap.size < w18.heap.size) := Lib.hid (by omega)
        have HE18 := Lib.hid hz
        clear hb hk hz
        refine (HI2.out _ _ HRy18.out).mono ?_
        rintro e w19 ⟨⟨v, rfl, ho⟩, hb⟩
        have HB19 : Hid (Below w.heap.size w w19) := Lib.hid (HB18.out.trans (hb.mono HB18.out.size))
        have HZ19 : Hid (w18.heap.size ≤ w19.heap.size) := Lib.hid hb.size
        have HRk19 := Lib.hid (HRk0.out.below HB19.out (Nat.le_refl _))
        have HRy19 := Lib.hid (HRy18.out.below hb (Nat.le_refl _))
        have HKy19 := Lib.hid ((hb.block _ (lt_of_block HKy18.out)).trans HKy18.out)
        have HBs17_19 : Hid (Below w17.heap.size w17 w19) := Lib.hid (HBs17_18.out.trans (hb.mono HBs17_18.out.size))
        clear hb
        obtain ⟨qas, qcs, rfl⟩ : ∃ a c, v = .slice a rs.length c := by obtain ⟨a, c, e, _⟩ := ho; exact ⟨a, c, e⟩
        have HRs19 := Lib.hid (ho)
        have HBs19_19 : Hid (Below w19.heap.size w19 w19) := Lib.hid (Below.refl _ _)
        clear ho
        have lty := lt_of_block HKy19.out
        obtain ⟨cy0, cy1, cy2, fy0, fy1, fy2⟩ := cell3 HKy19.out
        go_wp2_with fail
        have hb : Below w19.heap.size w19 (w19.alloc (.cells #[.int .i64 gu, .int .i64 gl, .slice qas rs.length qcs] 26)) := (Below.refl _ _).alloc (Nat.le_refl _) _
        have hk : (w19.alloc (.cells #[.int .i64 gu, .int .i64 gl, .slice qas rs.length qcs] 26)).heap[w19.heap.size]? = some (.cells #[.int .i64 gu, .int .i64 gl, .slice qas rs.length qcs] 26 (0, 0)) := alloc_at rfl
        have hz : (w19.alloc (.cells #[.int .i64 gu, .int .i64 gl, .slice qas rs.length qcs] 26)).heap.size = w19.heap.size + 1 := by simp
        generalize w19.alloc (.cells #[.int .i64 gu, .int .i64 gl, .slice qas rs.length qcs] 26) = w20 at hb hk hz ⊢
        have HB20 : Hid (Below w.heap.size w w20) := Lib.hid (HB19.out.trans (hb.mono HB19.out.size))
        have HZ20 : Hid (w19.heap.size ≤ w20.heap.size) := Lib.hid hb.size
        have HRk20 := Lib.hid (HRk0.out.below HB20.out (Nat.le_refl _))
        have HRy20 := Lib.hid (HRy19.out.below hb (Nat.le_refl _))
        have HKy20 := Lib.hid ((hb.block _ (lt_of_block HKy19.out)).trans HKy19.out)
        have HRs20 := Lib.hid (HRs19.out.below hb (Nat.le_refl _))
        have HBs17_20 : Hid (Below w17.heap.size w17 w20) := Lib.hid (HBs17_19.out.trans (hb.mono HBs17_19.out.size))
        have HBs19_20 : Hid (Below w19.heap.size w19 w20) := Lib.hid (HBs19_19.out.trans (hb.mono HBs19_19.out.size))
        have HKs20 := Lib.hid hk
        replace HZ20 : Hid (w19.heap.size < w20.heap.size) := Lib.hid (by omega)
        have HE20 := Lib.hid hz
        clear hb hk hz
        refine (HS2.out _ _ HRy20.out).mono ?_
        rintro e w21 ⟨⟨v, rfl, ho⟩, hb⟩
        have HB21 : Hid (Below w.heap.size w w21) := Lib.hid (HB20.out.trans (hb.mono HB20.out.size))
        have HZ21 : Hid (w20.heap.size ≤ w21.heap.size) := Lib.hid hb.size
        have HRk21 := Lib.hid (HRk0.out.below HB21.out (Nat.le_refl _))
        have HRy21 := Lib.hid (HRy20.out.below hb (Nat.le_refl _))
        have HKy21 := Lib.hid ((hb.block _ (lt_of_block HKy20.out)).trans HKy20.out)
        have HRs21 := Lib.hid (HRs20.out.below hb (Nat.le_refl _))
        have HKs21 := Lib.hid ((hb.block _ (lt_of_block HKs20.out)).trans HKs20.out)
        have HBs17_21 : Hid (Below w17.heap.size w17 w21) := Lib.hid (HBs17_20.out.trans (hb.mono HBs17_20.out.size))
        have HBs19_21 : Hid (Below w19.heap.size w19 w21) := Lib.hid (HBs19_20.out.trans (hb.mono HBs19_20.out.size))
        clear hb
        obtain ⟨qat, qct, rfl⟩ : ∃ a c, v = .slice a rs.length c := by obtain ⟨a, c, e, _⟩ := ho; exact ⟨a, c, e⟩
        have HRt21 := Lib.hid (ho)
        have HBs21_21 : Hid (Below w21.heap.size w21 w21) := Lib.hid (Below.refl _ _)
        clear ho
        clear cy0 cy1 cy2 fy0 fy1 fy2 lty
        have lty := lt_of_block HKy21.out
        obtain ⟨cy0, cy1, cy2, fy0, fy1, fy2⟩ := cell3 HKy21.out
        have lts := lt_of_block HKs21.out
        obtain ⟨cs0, cs1, cs2, fs0, fs1, fs2⟩ := cell3 HKs21.out
        go_wp2_with fail
        have hb : Below w21.heap.size w21 (w21.alloc (.cells #[.int .i64 gu, .int .i64 gl, .slice qat rs.length qct] 26)) := (Below.refl _ _).alloc (Nat.le_refl _) _
        have hk : (w21.alloc (.cells #[.int .i64 gu, .int .i64 gl, .slice qat rs.length qct] 26)).heap[w21.heap.size]? = some (.cells #[.int .i64 gu, .int .i64 gl, .slice qat rs.length qct] 26 (0, 0)) := alloc_at rfl
        have hz : (w21.alloc (.cells #[.int .i64 gu, .int .i64 gl, .slice qat rs.length qct] 26)).heap.size = w21.heap.size + 1 := by simp
        generalize w21.alloc (.cells #[.int .i64 gu, .int .i64 gl, .slice qat rs.length qct] 26) = w22 at hb hk hz ⊢
        have HB22 : Hid (Below w.heap.size w w22) := Lib.hid (HB21.out.trans (hb.mono HB21.out.size))
        have HZ22 : Hid (w21.heap.size ≤ w22.heap.size) := Lib.hid hb.size
        have HRk22 := Lib.hid (HRk0.out.below HB22.out (Nat.le_refl _))
        have HRy22 := Lib.hid (HRy21.out.below hb (Nat.le_refl _))
        have HKy22 := Lib.hid ((hb.block _ (lt_of_block HKy21.out)).trans HKy21.out)
        have HRs22 := Lib.hid (HRs21.out.below hb (Nat.le_refl _))
        have HKs22 := Lib.hid ((hb.block _ (lt_of_block HKs21.out)).trans HKs21.out)
        have HRt22 := Lib.hid (HRt21.out.below hb (Nat.le_refl _))
        have HBs17_22 : Hid (Below w17.heap.size w17 w22) := Lib.hid (HBs17_21.out.trans (hb.mono HBs17_21.out.size))
        have HBs19_22 : Hid (Below w19.heap.size w19 w22) := Lib.hid (HBs19_21.out.trans (hb.mono HBs19_21.out.size))
        have HBs21_22 : Hid (Below w21.heap.size w21 w22) := Lib.hid (HBs21_21.out.trans (hb.mono HBs21_21.out.size))
        have HKt22 := Lib.hid hk
        replace HZ22 : Hid (w21.heap.size < w22.heap.size) := Lib.hid (by omega)
        have HE22 := Lib.hid hz
        clear hb hk hz
        refine (vFrame_yes gu gl _ _ rs _ HRs22.out HRt22.out).mono ?_
        rintro e w23 ⟨rfl, hb⟩
        have HB23 : Hid (Below w.heap.size w w23) := Lib.hid (HB22.out.trans (hb.mono HB22.out.size))
        have HZ23 : Hid (w22.heap.size ≤ w23.heap.size) := Lib.hid hb.size
        have HRk23 := Lib.hid (HRk0.out.below HB23.out (Nat.le_refl _))
        have HRy23 := Lib.hid (HRy22.out.below hb (Nat.le_refl _))
        have HKy23 := Lib.hid ((hb.block _ (lt_of_block HKy22.out)).trans HKy22.out)
        have HRs23 := Lib.hid (HRs22.out.below hb (Nat.le_refl _))
        have HKs23 := Lib.hid ((hb.block _ (lt_of_block HKs22.out)).trans HKs22.out)
        have HRt23 := Lib.hid (HRt22.out.below hb (Nat.le_refl _))
        have HKt23 := Lib.hid ((hb.block _ (lt_of_block HKt22.out)).trans HKt22.out)
        have HBs17_23 : Hid (Below w17.heap.size w17 w23) := Lib.hid (HBs17_22.out.trans (hb.mono HBs17_22.out.size))
        have HBs19_23 : Hid (Below w19.heap.size w19 w23) := Lib.hid (HBs19_22.out.trans (hb.mono HBs19_22.out.size))
        have HBs21_23 : Hid (Below w21.heap.size w21 w23) := Lib.hid (HBs21_22.out.trans (hb.mono HBs21_22.out.size))
        clear hb
        clear cy0 cy1 cy2 fy0 fy1 fy2 lty cs0 cs1 cs2 fs0 fs1 fs2 lts
        have lty := lt_of_block HKy23.out
        obtain ⟨cy0, cy1, cy2, fy0, fy1, fy2⟩ := cell3 HKy23.out
        have lts := lt_of_block HKs23.out
        obtain ⟨cs0, cs1, cs2, fs0, fs1, fs2⟩ := cell3 HKs23.out
        go_wp2_with fail
        refine (HIM2.out _ _ HRy23.out).mono ?_
        rintro e w24 ⟨⟨v, rfl, ho⟩, hb⟩
        have HB24 : Hid (Below w.heap.size w w24) := Lib.hid (HB23.out.trans (hb.mono HB23.out.size))
        have HZ24 : Hid (w23.heap.size ≤ w24.heap.size) := Lib.hid hb.size
        have HRk24 := Lib.hid (HRk0.out.below HB24.out (Nat.le_refl _))
        have HRy24 := Lib.hid (HRy23.out.below hb (Nat.le_refl _))
        have HKy24 := Lib.hid ((hb.block _ (lt_of_block HKy23.out)).trans HKy23.out)
        have HRs24 := Lib.hid (HRs23.out.below hb (Nat.le_refl _))
        have HKs24 := Lib.hid ((hb.block _ (lt_of_block HKs23.out)).trans HKs23.out)
        have HBs17_24 : Hid (Below w17.heap.size w17 w24) := Lib.hid (HBs17_23.out.trans (hb.mono HBs17_23.out.size))
        have HBs19_24 : Hid (Below w19.heap.size w19 w24) := Lib.hid (HBs19_23.out.trans (hb.mono HBs19_23.out.size))
        clear hb
        obtain ⟨qam, qcm, rfl⟩ := ho.form
        have HRm24 := Lib.hid (ho)
        have HBs24_24 : Hid (Below w24.heap.size w24 w24) := Lib.hid (Below.refl _ _)
        clear ho
        clear cy0 cy1 cy2 fy0 fy1 fy2 lty cs0 cs1 cs2 fs0 fs1 fs2 lts
        have lty := lt_of_block HKy24.out
        obtain ⟨cy0, cy1, cy2, fy0, fy1, fy2⟩ := cell3 HKy24.out
        have lts := lt_of_block HKs24.out
        obtain ⟨cs0, cs1, cs2, fs0, fs1, fs2⟩ := cell3 HKs24.out
        go_wp2_with fail
        refine (HSM2.out _ _ HRy24.out).mono ?_
        rintro e w25 ⟨⟨v, rfl, ho⟩, hb⟩
        have HB25 : Hid (Below w.heap.size w w25) := Lib.hid (HB24.out.trans (hb.mono HB24.out.size))
        have HZ25 : Hid (w24.heap.size ≤ w25.heap.size) := Lib.hid hb.size
        have HRk25 := Lib.hid (HRk0.out.below HB25.out (Nat.le_refl _))
        have HRy25 := Lib.hid (HRy24.out.below hb (Nat.le_refl _))
        have HKy25 := Lib.hid ((hb.block _ (lt_of_block HKy24.out)).trans HKy24.out)
        have HRs25 := Lib.hid (HRs24.out.below hb (Nat.le_refl _))
        have HKs25 := Lib.hid ((hb.block _ (lt_of_block HKs24.out)).trans HKs24.out)
        have HRm25 := Lib.hid (HRm24.out.below hb (Nat.le_refl _))
        have HBs17_25 : Hid (Below w17.heap.size w17 w25) := Lib.hid (HBs17_24.out.trans (hb.mono HBs17_24.out.size))
        have HBs19_25 : Hid (Below w19.heap.size w19 w25) := Lib.hid (HBs19_24.out.trans (hb.mono HBs19_24.out.size))
        have HBs24_25 : Hid (Below w24.heap.size w24 w25) := Lib.hid (HBs24_24.out.trans (hb.mono HBs24_24.out.size))
        clear hb
        obtain ⟨qan, qcn, rfl⟩ := ho.form
        have HRn25 := Lib.hid (ho)
        have HBs25_25 : Hid (Below w25.heap.size w25 w25) := Lib.hid (Below.refl _ _)
        clear ho
        clear cy0 cy1 cy2 fy0 fy1 fy2 lty cs0 cs1 cs2 fs0 fs1 fs2 lts
        have lty := lt_of_block HKy25.out
        obtain ⟨cy0, cy1, cy2, fy0, fy1, fy2⟩ := cell3 HKy25.out
        have lts := lt_of_block HKs25.out
        obtain ⟨cs0, cs1, cs2, fs0, fs1, fs2⟩ := cell3 HKs25.out
        go_wp2_with fail
        refine (vMoves_yes _ _ ns _ HRm25.out HRn25.out).mono ?_
        rintro e w26 ⟨rfl, hb⟩
        have HB26 : Hid (Below w.heap.size w w26) := Lib.hid (HB25.out.trans (hb.mono HB25.out.size))
        have HZ26 : Hid (w25.heap.size ≤ w26.heap.size) := Lib.hid hb.size
        have HRk26 := Lib.hid (HRk0.out.below HB26.out (Nat.le_refl _))
        have HRy26 := Lib.hid (HRy25.out.below hb (Nat.le_refl _))
        have HKy26 := Lib.hid ((hb.block _ (lt_of_block HKy25.out)).trans HKy25.out)
        have HRs26 := Lib.hid (HRs25.out.below hb (Nat.le_refl _))
        have HKs26 := Lib.hid ((hb.block _ (lt_of_block HKs25.out)).trans HKs25.out)
        have HRm26 := Lib.hid (HRm25.out.below hb (Nat.le_refl _))
        have HRn26 := Lib.hid (HRn25.out.below hb (Nat.le_refl _))
        have HBs17_26 : Hid (Below w17.heap.size w17 w26) := Lib.hid (HBs17_25.out.trans (hb.mono HBs17_25.out.size))
        have HBs19_26 : Hid (Below w19.heap.size w19 w26) := Lib.hid (HBs19_25.out.trans (hb.mono HBs19_25.out.size))
        have HBs24_26 : Hid (Below w24.heap.size w24 w26) := Lib.hid (HBs24_25.out.trans (hb.mono HBs24_25.out.size))
        have HBs25_26 : Hid (Below w25.heap.size w25 w26) := Lib.hid (HBs25_25.out.trans (hb.mono HBs25_25.out.size))
        clear hb
        cases b2 with
        | true =>
          have HP2 := Lib.hid (hY2 rfl)
          clear hY2
          clear cy0 cy1 cy2 fy0 fy1 fy2 lty cs0 cs1 cs2 fs0 fs1 fs2 lts
          have lty := lt_of_block HKy26.out
          obtain ⟨cy0, cy1, cy2, fy0, fy1, fy2⟩ := cell3 HKy26.out
          have lts := lt_of_block HKs26.out
          obtain ⟨cs0, cs1, cs2, fs0, fs1, fs2⟩ := cell3 HKs26.out
          go_wp2_with fail
          refine (HP2.out _ _ HRs26.out).mono ?_
          rintro e w27 ⟨⟨v, rfl, ho⟩, hb⟩
          have HB27 : Hid (Below w.heap.size w w27) := Lib.hid (HB26.out.trans (hb.mono HB26.out.size))
          have HZ27 : Hid (w26.heap.size ≤ w27.heap.size) := Lib.hid hb.size
          have HRk27 := Lib.hid (HRk0.out.below HB27.out (Nat.le_refl _))
          have HRy27 := Lib.hid (HRy26.out.below hb (Nat.le_refl _))
          have HKy27 := Lib.hid ((hb.block _ (lt_of_block HKy26.out)).trans HKy26.out)
          have HRs27 := Lib.hid (HRs26.out.below hb (Nat.le_refl _))
          have HKs27 := Lib.hid ((hb.block _ (lt_of_block HKs26.out)).trans HKs26.out)
          have HBs17_27 : Hid (Below w17.heap.size w17 w27) := Lib.hid (HBs17_26.out.trans (hb.mono HBs17_26.out.size))
          have HBs19_27 : Hid (Below w19.heap.size w19 w27) := Lib.hid (HBs19_26.out.trans (hb.mono HBs19_26.out.size))
          clear hb
          obtain ⟨qae, qce, rfl⟩ : ∃ a c, v = .slice a ys.length c := by obtain ⟨a, c, e, _⟩ := ho; exact ⟨a, c, e⟩
          have HRe27 := Lib.hid (ho)
          have HBs27_27 : Hid (Below w27.heap.size w27 w27) := Lib.hid (Below.refl _ _)
          clear ho
          clear cy0 cy1 cy2 fy0 fy1 fy2 lty cs0 cs1 cs2 fs0 fs1 fs2 lts
          have lty := lt_of_block HKy27.out
          obtain ⟨cy0, cy1, cy2, fy0, fy1, fy2⟩ := cell3 HKy27.out
          have lts := lt_of_block HKs27.out
          obtain ⟨cs0, cs1, cs2, fs0, fs1, fs2⟩ := cell3 HKs27.out
          go_wp2_with fail
          have hb : Below w27.heap.size w27 (w27.alloc (.cells #[.int .i64 yu, .int .i64 yl, .slice qae ys.length qce] 26)) := (Below.refl _ _).alloc (Nat.le_refl _) _
          have hk : (w27.alloc (.cells #[.int .i64 yu, .int .i64 yl, .slice qae ys.length qce] 26)).heap[w27.heap.size]? = some (.cells #[.int .i64 yu, .int .i64 yl, .slice qae ys.length qce] 26 (0, 0)) := alloc_at rfl
          have hz : (w27.alloc (.cells #[.int .i64 yu, .int .i64 yl, .slice qae ys.length qce] 26)).heap.size = w27.heap.size + 1 := by simp
          generalize w27.alloc (.cells #[.int .i64 yu, .int .i64 yl, .slice qae ys.length qce] 26) = w28 at hb hk hz ⊢
          have HB28 : Hid (Below w.heap.size w w28) := Lib.hid (HB27.out.trans (hb.mono HB27.out.size))
          have HZ28 : Hid (w27.heap.size ≤ w28.heap.size) := Lib.hid hb.size
          have HRk28 := Lib.hid (HRk0.out.below HB28.out (Nat.le_refl _))
          have HRy28 := Lib.hid (HRy27.out.below hb (Nat.le_refl _))
          have HKy28 := Lib.hid ((hb.block _ (lt_of_block HKy27.out)).trans HKy27.out)
          have HRs28 := Lib.hid (HRs27.out.below hb (Nat.le_refl _))
          have HKs28 := Lib.hid ((hb.block _ (lt_of_block HKs27.out)).trans HKs27.out)
          have HRe28 := Lib.hid (HRe27.out.below hb (Nat.le_refl _))
          have HBs17_28 : Hid (Below w17.heap.size w17 w28) := Lib.hid (HBs17_27.out.trans (hb.mono HBs17_27.out.size))
          have HBs19_28 : Hid (Below w19.heap.size w19 w28) := Lib.hid (HBs19_27.out.trans (hb.mono HBs19_27.out.size))
          have HBs27_28 : Hid (Below w27.heap.size w27 w28) := Lib.hid (HBs27_27.out.trans (hb.mono HBs27_27.out.size))
          have HKe28 := Lib.hid hk
          replace HZ28 : Hid (w27.heap.size < w28.heap.size) := Lib.hid (by omega)
          have HE28 := Lib.hid hz
          clear hb hk hz
          refine (vFrame_yes yu yl _ _ ys _ HRe28.out HRy28.out).mono ?_
          rintro e w29 ⟨rfl, hb⟩
          have HB29 : Hid (Below w.heap.size w w29) := Lib.hid (HB28.out.trans (hb.mono HB28.out.size))
          have HZ29 : Hid (w28.heap.size ≤ w29.heap.size) := Lib.hid hb.size
          have HRk29 := Lib.hid (HRk0.out.below HB29.out (Nat.le_refl _))
          have HRy29 := Lib.hid (HRy28.out.below hb (Nat.le_refl _))
          have HKy29 := Lib.hid ((hb.block _ (lt_of_block HKy28.out)).trans HKy28.out)
          have HRs29 := Lib.hid (HRs28.out.below hb (Nat.le_refl _))
          have HKs29 := Lib.hid ((hb.block _ (lt_of_block HKs28.out)).trans HKs28.out)
          have HRe29 := Lib.hid (HRe28.out.below hb (Nat.le_refl _))
          have HKe29 := Lib.hid ((hb.block _ (lt_of_block HKe28.out)).trans HKe28.out)
          have HBs17_29 : Hid (Below w17.heap.size w17 w29) := Lib.hid (HBs17_28.out.trans (hb.mono HBs17_28.out.size))
          have HBs19_29 : Hid (Below w19.heap.size w19 w29) := Lib.hid (HBs19_28.out.trans (hb.mono HBs19_28.out.size))
          have HBs27_29 : Hid (Below w27.heap.size w27 w29) := Lib.hid (HBs27_28.out.trans (hb.mono HBs27_28.out.size))
          clear hb
          clear cy0 cy1 cy2 fy0 fy1 fy2 lty cs0 cs1 cs2 fs0 fs1 fs2 lts
          have lty := lt_of_block HKy29.out
          obtain ⟨cy0, cy1, cy2, fy0, fy1, fy2⟩ := cell3 HKy29.out
          have lts := lt_of_block HKs29.out
          obtain ⟨cs0, cs1, cs2, fs0, fs1, fs2⟩ := cell3 HKs29.out
          have lte := lt_of_block HKe29.out
          obtain ⟨ce0, ce1, ce2, fe0, fe1, fe2⟩ := cell3 HKe29.out
          go_wp2_with fail
          go_ret
          exact ⟨rfl, HB29.out⟩
        | false =>
          clear hY2
          clear cy0 cy1 cy2 fy0 fy1 fy2 lty cs0 cs1 cs2 fs0 fs1 fs2 lts
          have lty := lt_of_block HKy26.out
          obtain ⟨cy0, cy1, cy2, fy0, fy1, fy2⟩ := cell3 HKy26.out
          have lts := lt_of_block HKs26.out
          obtain ⟨cs0, cs1, cs2, fs0, fs1, fs2⟩ := cell3 HKs26.out
          go_wp2_with fail
          go_ret
          exact ⟨rfl, HB26.out⟩
    | false =>
      clear hY
      clear cx0 cx1 cx2 fx0 fx1 fx2 ltx co0 co1 co2 fo0 fo1 fo2 lto
      have ltx := lt_of_block HKx12.out
      obtain ⟨cx0, cx1, cx2, fx0, fx1, fx2⟩ := cell3 HKx12.out
      have lto := lt_of_block HKo12.out
      obtain ⟨co0, co1, co2, fo0, fo1, fo2⟩ := cell3 HKo12.out
      go_wp2_with fail
      refine (drawTakeDigit_any _ L _ HRk12.out).mono ?_
      rintro e w13 ⟨⟨yu, yl, yv, ys, q, d, rfl, ho, -⟩, hb⟩
      have HB13 : Hid (Below w.heap.size w w13) := Lib.hid (HB12.out.trans (hb.mono HB12.out.size))
      have HZ13 : Hid (w12.heap.size ≤ w13.heap.size) := Lib.hid hb.size
      have HRk13 := Lib.hid (HRk0.out.below HB13.out (Nat.le_refl _))
      clear hb
      obtain ⟨qay, qcy, rfl⟩ : ∃ a c, yv = .slice a ys.length c := by obtain ⟨a, c, e, _⟩ := ho; exact ⟨a, c, e⟩
      have HRy13 := Lib.hid (ho)
      have HBs13_13 : Hid (Below w13.heap.size w13 w13) := Lib.hid (Below.refl _ _)
      clear ho
      obtain ⟨gu, gl, rs, ns, b2, hS, hI, hSM, hIM, hY2⟩ := tdig_same yu yl ys q d
      have HS2 := Lib.hid hS
      have HI2 := Lib.hid hI
      have HSM2 := Lib.hid hSM
      have HIM2 := Lib.hid hIM
      clear hS hI hSM hIM
      have hb2 : (b2 != b2) = false := by simp
      clear cx0 cx1 cx2 fx0 fx1 fx2 ltx co0 co1 co2 fo0 fo1 fo2 lto
      go_wp2_with fail
      have hb : Below w13.heap.size w13 (w13.alloc (.cells #[.int .i64 yu, .int .i64 yl, .slice qay ys.length qcy] 26)) := (Below.refl _ _).alloc (Nat.le_refl _) _
      have hk : (w13.alloc (.cells #[.int .i64 yu, .int .i64 yl, .slice qay ys.length qcy] 26)).heap[w13.heap.size]? = some (.cells #[.int .i64 yu, .int .i64 yl, .slice qay ys.length qcy] 26 (0, 0)) := alloc_at rfl
      have hz : (w13.alloc (.cells #[.int .i64 yu, .int .i64 yl, .slice qay ys.length qcy] 26)).heap.size = w13.heap.size + 1 := by simp
      generalize w13.alloc (.cells #[.int .i64 yu, .int .i64 yl, .slice qay ys.length qcy] 26) = w14 at hb hk hz ⊢
      have HB14 : Hid (Below w.heap.size w w14) := Lib.hid (HB13.out.trans (hb.mono HB13.out.size))
      have HZ14 : Hid (w13.heap.size ≤ w14.heap.size) := Lib.hid hb.size
      have HRk14 := Lib.hid (HRk0.out.below HB14.out (Nat.le_refl _))
      have HRy14 := Lib.hid (HRy13.out.below hb (Nat.le_refl _))
      have HBs13_14 : Hid (Below w13.heap.size w13 w14) := Lib.hid (HBs13_13.out.trans (hb.mono HBs13_13.out.size))
      have HKy14 := Lib.hid hk
      replace HZ14 : Hid (w13.heap.size < w14.heap.size) := Lib.hid (by omega)
      have HE14 := Lib.hid hz
      clear hb hk hz
      refine (HI2.out _ _ HRy14.out).mono ?_
      rintro e w15 ⟨⟨v, rfl, ho⟩, hb⟩
      have HB15 : Hid (Below w.heap.size w w15) := Lib.hid (HB14.out.trans (hb.mono HB14.out.size))
      have HZ15 : Hid (w14.heap.size ≤ w15.heap.size) := Lib.hid hb.size
      have HRk15 := Lib.hid (HRk0.out.below HB15.out (Nat.le_refl _))
      have HRy15 := Lib.hid (HRy14.out.below hb (Nat.le_refl _))
      have HKy15 := Lib.hid ((hb.block _ (lt_of_block HKy14.out)).trans HKy14.out)
      have HBs13_15 : Hid (Below w13.heap.size w13 w15) := Lib.hid (HBs13_14.out.trans (hb.mono HBs13_14.out.size))
      clear hb
      obtain ⟨qas, qcs, rfl⟩ : ∃ a c, v = .slice a rs.length c := by obtain ⟨a, c, e, _⟩ := ho; exact ⟨a, c, e⟩
      have HRs15 := Lib.hid (ho)
      have HBs15_15 : Hid (Below w15.heap.size w15 w15) := Lib.hid (Below.refl _ _)
      clear ho
      have lty := lt_of_block HKy15.out
      obtain ⟨cy0, cy1, cy2, fy0, fy1, fy2⟩ := cell3 HKy15.out
      go_wp2_with fail
      have hb : Below w15.heap.size w15 (w15.alloc (.cells #[.int .i64 gu, .int .i64 gl, .slice qas rs.length qcs] 26)) := (Below.refl _ _).alloc (Nat.le_refl _) _
      have hk : (w15.alloc (.cells #[.int .i64 gu, .int .i64 gl, .slice qas rs.length qcs] 26)).heap[w15.heap.size]? = some (.cells #[.int .i64 gu, .int .i64 gl, .slice qas rs.length qcs] 26 (0, 0)) := alloc_at rfl
      have hz : (w15.alloc (.cells #[.int .i64 gu, .int .i64 gl, .slice qas rs.length qcs] 26)).heap.size = w15.heap.size + 1 := by simp
      generalize w15.alloc (.cells #[.int .i64 gu, .int .i64 gl, .slice qas rs.length qcs] 26) = w16 at hb hk hz ⊢
      have HB16 : Hid (Below w.heap.size w w16) := Lib.hid (HB15.out.trans (hb.mono HB15.out.size))
      have HZ16 : Hid (w15.heap.size ≤ w16.heap.size) := Lib.hid hb.size
      have HRk16 := Lib.hid (HRk0.out.below HB16.out (Nat.le_refl _))
      have HRy16 := Lib.hid (HRy15.out.below hb (Nat.le_refl _))
      have HKy16 := Lib.hid ((hb.block _ (lt_of_block HKy15.out)).trans HKy15.out)
      have HRs16 := Lib.hid (HRs15.out.below hb (Nat.le_refl _))
      have HBs13_16 : Hid (Below w13.heap.size w13 w16) := Lib.hid (HBs13_15.out.trans (hb.mono HBs13_15.out.size))
      have HBs15_16 : Hid (Below w15.heap.size w15 w16) := Lib.hid (HBs15_15.out.trans (hb.mono HBs15_15.out.size))
      have HKs16 := Lib.hid hk
      replace HZ16 : Hid (w15.heap.size < w16.heap.size) := Lib.hid (by omega)
      have HE16 := Lib.hid hz
      clear hb hk hz
      refine (HS2.out _ _ HRy16.out).mono ?_
      rintro e w17 ⟨⟨v, rfl, ho⟩, hb⟩
      have HB17 : Hid (Below w.heap.size w w17) := Lib.hid (HB16.out.trans (hb.mono HB16.out.size))
      have HZ17 : Hid (w16.heap.size ≤ w17.heap.size) := Lib.hid hb.size
      have HRk17 := Lib.hid (HRk0.out.below HB17.out (Nat.le_refl _))
      have HRy17 := Lib.hid (HRy16.out.below hb (Nat.le_refl _))
      have HKy17 := Lib.hid ((hb.block _ (lt_of_block HKy16.out)).trans HKy16.out)
      have HRs17 := Lib.hid (HRs16.out.below hb (Nat.le_refl _))
      have HKs17 := Lib.hid ((hb.block _ (lt_of_block HKs16.out)).trans HKs16.out)
      have HBs13_17 : Hid (Below w13.heap.size w13 w17) := Lib.hid (HBs13_16.out.trans (hb.mono HBs13_16.out.size))
      have HBs15_17 : Hid (Below w15.heap.size w15 w17) := Lib.hid (HBs15_16.out.trans (hb.mono HBs15_16.out.size))
      clear hb
      obtain ⟨qat, qct, rfl⟩ : ∃ a c, v = .slice a rs.length c := by obtain ⟨a, c, e, _⟩ := ho; exact ⟨a, c, e⟩
      have HRt17 := Lib.hid (ho)
      have HBs17_17 : Hid (Below w17.heap.size w17 w17) := Lib.hid (Below.refl _ _)
      clear ho
      clear cy0 cy1 cy2 fy0 fy1 fy2 lty
      have lty := lt_of_block HKy17.out
      obtain ⟨cy0, cy1, cy2, fy0, fy1, fy2⟩ := cell3 HKy17.out
      have lts := lt_of_block HKs17.out
      obtain ⟨cs0, cs1, cs2, fs0, fs1, fs2⟩ := cell3 HKs17.out
      go_wp2_with fail
      have hb : Below w17.heap.size w17 (w17.alloc (.cells #[.int .i64 gu, .int .i64 gl, .slice qat rs.length qct] 26)) := (Below.refl _ _).alloc (Nat.le_refl _) _
      have hk : (w17.alloc (.cells #[.int .i64 gu, .int .i64 gl, .slice qat rs.length qct] 26)).heap[w17.heap.size]? = some (.cells #[.int .i64 gu, .int .i64 gl, .slice qat rs.length qct] 26 (0, 0)) := alloc_at rfl
      have hz : (w17.alloc (.cells #[.int .i64 gu, .int .i64 gl, .slice qat rs.length qct] 26)).heap.size = w17.heap.size + 1 := by simp
      generalize w17.alloc (.cells #[.int .i64 gu, .int .i64 gl, .slice qat rs.length qct] 26) = w18 at hb hk hz ⊢
      have HB18 : Hid (Below w.heap.size w w18) := Lib.hid (HB17.out.trans (hb.mono HB17.out.size))
      have HZ18 : Hid (w17.heap.size ≤ w18.heap.size) := Lib.hid hb.size
      have HRk18 := Lib.hid (HRk0.out.below HB18.out (Nat.le_refl _))
      have HRy18 := Lib.hid (HRy17.out.below hb (Nat.le_refl _))
      have HKy18 := Lib.hid ((hb.block _ (lt_of_block HKy17.out)).trans HKy17.out)
      have HRs18 := Lib.hid (HRs17.out.below hb (Nat.le_refl _))
      have HKs18 := Lib.hid ((hb.block _ (lt_of_block HKs17.out)).trans HKs17.out)
      have HRt18 := Lib.hid (HRt17.out.below hb (Nat.le_refl _))
      have HBs13_18 : Hid (Below w13.heap.size w13 w18) := Lib.hid (HBs13_17.out.trans (hb.mono HBs13_17.out.size))
      have HBs15_18 : Hid (Below w15.heap.size w15 w18) := Lib.hid (HBs15_17.out.trans (hb.mono HBs15_17.out.size))
      have HBs17_18 : Hid (Below w17.heap.size w17 w18) := Lib.hid (HBs17_17.out.trans (hb.mono HBs17_17.out.size))
      have HKt18 := Lib.hid hk
      replace HZ18 : Hid (w17.heap.size < w18.heap.size) := Lib.hid (by omega)
      have HE18 := Lib.hid hz
      clear hb hk hz
      refine (vFrame_yes gu gl _ _ rs _ HRs18.out HRt18.out).mono ?_
      rintro e w19 ⟨rfl, hb⟩
      have HB19 : Hid (Below w.heap.size w w19) := Lib.hid (HB18.out.trans (hb.mono HB18.out.size))
      have HZ19 : Hid (w18.heap.size ≤ w19.heap.size) := Lib.hid hb.size
      have HRk19 := Lib.hid (HRk0.out.below HB19.out (Nat.le_refl _))
      have HRy19 := Lib.hid (HRy18.out.below hb (Nat.le_refl _))
      have HKy19 := Lib.hid ((hb.block _ (lt_of_block HKy18.out)).trans HKy18.out)
      have HRs19 := Lib.hid (HRs18.out.below hb (Nat.le_refl _))
      have HKs19 := Lib.hid ((hb.block _ (lt_of_block HKs18.out)).trans HKs18.out)
      have HRt19 := Lib.hid (HRt18.out.below hb (Nat.le_refl _))
      have HKt19 := Lib.hid ((hb.block _ (lt_of_block HKt18.out)).trans HKt18.out)
      have HBs13_19 : Hid (Below w13.heap.size w13 w19) := Lib.hid (HBs13_18.out.trans (hb.mono HBs13_18.out.size))
      have HBs15_19 : Hid (Below w15.heap.size w15 w19) := Lib.hid (HBs15_18.out.trans (hb.mono HBs15_18.out.size))
      have HBs17_19 : Hid (Below w17.heap.size w17 w19) := Lib.hid (HBs17_18.out.trans (hb.mono HBs17_18.out.size))
      clear hb
      clear cy0 cy1 cy2 fy0 fy1 fy2 lty cs0 cs1 cs2 fs0 fs1 fs2 lts
      have lty := lt_of_block HKy19.out
      obtain ⟨cy0, cy1, cy2, fy0, fy1, fy2⟩ := cell3 HKy19.out
      have lts := lt_of_block HKs19.out
      obtain ⟨cs0, cs1, cs2, fs0, fs1, fs2⟩ := cell3 HKs19.out
      go_wp2_with fail
      refine (HIM2.out _ _ HRy19.out).mono ?_
      rintro e w20 ⟨⟨v, rfl, ho⟩, hb⟩
      have HB20 : Hid (Below w.heap.size w w20) := Lib.hid (HB19.out.trans (hb.mono HB19.out.size))
      have HZ20 : Hid (w19.heap.size ≤ w20.heap.size) := Lib.hid hb.size
      have HRk20 := Lib.hid (HRk0.out.below HB20.out (Nat.le_refl _))
      have HRy20 := Lib.hid (HRy19.out.below hb (Nat.le_refl _))
      have HKy20 := Lib.hid ((hb.block _ (lt_of_block HKy19.out)).trans HKy19.out)
      have HRs20 := Lib.hid (HRs19.out.below hb (Nat.le_refl _))
      have HKs20 := Lib.hid ((hb.block _ (lt_of_block HKs19.out)).trans HKs19.out)
      have HBs13_20 : Hid (Below w13.heap.size w13 w20) := Lib.hid (HBs13_19.out.trans (hb.mono HBs13_19.out.size))
      have HBs15_20 : Hid (Below w15.heap.size w15 w20) := Lib.hid (HBs15_19.out.trans (hb.mono HBs15_19.out.size))
      clear hb
      obtain ⟨qam, qcm, rfl⟩ := ho.form
      have HRm20 := Lib.hid (ho)
      have HBs20_20 : Hid (Below w20.heap.size w20 w20) := Lib.hid (Below.refl _ _)
      clear ho
      clear cy0 cy1 cy2 fy0 fy1 fy2 lty cs0 cs1 cs2 fs0 fs1 fs2 lts
      have lty := lt_of_block HKy20.out
      obtain ⟨cy0, cy1, cy2, fy0, fy1, fy2⟩ := cell3 HKy20.out
      have lts := lt_of_block HKs20.out
      obtain ⟨cs0, cs1, cs2, fs0, fs1, fs2⟩ := cell3 HKs20.out
      go_wp2_with fail
      refine (HSM2.out _ _ HRy20.out).mono ?_
      rintro e w21 ⟨⟨v, rfl, ho⟩, hb⟩
      have HB21 : Hid (Below w.heap.size w w21) := Lib.hid (HB20.out.trans (hb.mono HB20.out.size))
      have HZ21 : Hid (w20.heap.size ≤ w21.heap.size) := Lib.hid hb.size
      have HRk21 := Lib.hid (HRk0.out.below HB21.out (Nat.le_refl _))
      have HRy21 := Lib.hid (HRy20.out.below hb (Nat.le_refl _))
      have HKy21 := Lib.hid ((hb.block _ (lt_of_block HKy20.out)).trans HKy20.out)
      have HRs21 := Lib.hid (HRs20.out.below hb (Nat.le_refl _))
      have HKs21 := Lib.hid ((hb.block _ (lt_of_block HKs20.out)).trans HKs20.out)
      have HRm21 := Lib.hid (HRm20.out.below hb (Nat.le_refl _))
      have HBs13_21 : Hid (Below w13.heap.size w13 w21) := Lib.hid (HBs13_20.out.trans (hb.mono HBs13_20.out.size))
      have HBs15_21 : Hid (Below w15.heap.size w15 w21) := Lib.hid (HBs15_20.out.trans (hb.mono HBs15_20.out.size))
      have HBs20_21 : Hid (Below w20.heap.size w20 w21) := Lib.hid (HBs20_20.out.trans (hb.mono HBs20_20.out.size))
      clear hb
      obtain ⟨qan, qcn, rfl⟩ := ho.form
      have HRn21 := Lib.hid (ho)
      have HBs21_21 : Hid (Below w21.heap.size w21 w21) := Lib.hid (Below.refl _ _)
      clear ho
      clear cy0 cy1 cy2 fy0 fy1 fy2 lty cs0 cs1 cs2 fs0 fs1 fs2 lts
      have lty := lt_of_block HKy21.out
      obtain ⟨cy0, cy1, cy2, fy0, fy1, fy2⟩ := cell3 HKy21.out
      have lts := lt_of_block HKs21.out
      obtain ⟨cs0, cs1, cs2, fs0, fs1, fs2⟩ := cell3 HKs21.out
      go_wp2_with fail
      refine (vMoves_yes _ _ ns _ HRm21.out HRn21.out).mono ?_
      rintro e w22 ⟨rfl, hb⟩
      have HB22 : Hid (Below w.heap.size w w22) := Lib.hid (HB21.out.trans (hb.mono HB21.out.size))
      have HZ22 : Hid (w21.heap.size ≤ w22.heap.size) := Lib.hid hb.size
      have HRk22 := Lib.hid (HRk0.out.below HB22.out (Nat.le_refl _))
      have HRy22 := Lib.hid (HRy21.out.below hb (Nat.le_refl _))
      have HKy22 := Lib.hid ((hb.block _ (lt_of_block HKy21.out)).trans HKy21.out)
      have HRs22 := Lib.hid (HRs21.out.below hb (Nat.le_refl _))
      have HKs22 := Lib.hid ((hb.block _ (lt_of_block HKs21.out)).trans HKs21.out)
      have HRm22 := Lib.hid (HRm21.out.below hb (Nat.le_refl _))
      have HRn22 := Lib.hid (HRn21.out.below hb (Nat.le_refl _))
      have HBs13_22 : Hid (Below w13.heap.size w13 w22) := Lib.hid (HBs13_21.out.trans (hb.mono HBs13_21.out.size))
      have HBs15_22 : Hid (Below w15.heap.size w15 w22) := Lib.hid (HBs15_21.out.trans (hb.mono HBs15_21.out.size))
      have HBs20_22 : Hid (Below w20.heap.size w20 w22) := Lib.hid (HBs20_21.out.trans (hb.mono HBs20_21.out.size))
      have HBs21_22 : Hid (Below w21.heap.size w21 w22) := Lib.hid (HBs21_21.out.trans (hb.mono HBs21_21.out.size))
      clear hb
      cases b2 with
      | true =>
        have HP2 := Lib.hid (hY2 rfl)
        clear hY2
        clear cy0 cy1 cy2 fy0 fy1 fy2 lty cs0 cs1 cs2 fs0 fs1 fs2 lts
        have lty := lt_of_block HKy22.out
        obtain ⟨cy0, cy1, cy2, fy0, fy1, fy2⟩ := cell3 HKy22.out
        have lts := lt_of_block HKs22.out
        obtain ⟨cs0, cs1, cs2, fs0, fs1, fs2⟩ := cell3 HKs22.out
        go_wp2_with fail
        refine (HP2.out _ _ HRs22.out).mono ?_
        rintro e w23 ⟨⟨v, rfl, ho⟩, hb⟩
        have HB23 : Hid (Below w.heap.size w w23) := Lib.hid (HB22.out.trans (hb.mono HB22.out.size))
        have HZ23 : Hid (w22.heap.size ≤ w23.heap.size) := Lib.hid hb.size
        have HRk23 := Lib.hid (HRk0.out.below HB23.out (Nat.le_refl _))
        have HRy23 := Lib.hid (HRy22.out.below hb (Nat.le_refl _))
        have HKy23 := Lib.hid ((hb.block _ (lt_of_block HKy22.out)).trans HKy22.out)
        have HRs23 := Lib.hid (HRs22.out.below hb (Nat.le_refl _))
        have HKs23 := Lib.hid ((hb.block _ (lt_of_block HKs22.out)).trans HKs22.out)
        have HBs13_23 : Hid (Below w13.heap.size w13 w23) := Lib.hid (HBs13_22.out.trans (hb.mono HBs13_22.out.size))
        have HBs15_23 : Hid (Below w15.heap.size w15 w23) := Lib.hid (HBs15_22.out.trans (hb.mono HBs15_22.out.size))
        clear hb
        obtain ⟨qae, qce, rfl⟩ : ∃ a c, v = .slice a ys.length c := by obtain ⟨a, c, e, _⟩ := ho; exact ⟨a, c, e⟩
        have HRe23 := Lib.hid (ho)
        have HBs23_23 : Hid (Below w23.heap.size w23 w23) := Lib.hid (Below.refl _ _)
        clear ho
        clear cy0 cy1 cy2 fy0 fy1 fy2 lty cs0 cs1 cs2 fs0 fs1 fs2 lts
        have lty := lt_of_block HKy23.out
        obtain ⟨cy0, cy1, cy2, fy0, fy1, fy2⟩ := cell3 HKy23.out
        have lts := lt_of_block HKs23.out
        obtain ⟨cs0, cs1, cs2, fs0, fs1, fs2⟩ := cell3 HKs23.out
        go_wp2_with fail
        have hb : Below w23.heap.size w23 (w23.alloc (.cells #[.int .i64 yu, .int .i64 yl, .slice qae ys.length qce] 26)) := (Below.refl _ _).alloc (Nat.le_refl _) _
        have hk : (w23.alloc (.cells #[.int .i64 yu, .int .i64 yl, .slice qae ys.length qce] 26)).heap[w23.heap.size]? = some (.cells #[.int .i64 yu, .int .i64 yl, .slice qae ys.length qce] 26 (0, 0)) := alloc_at rfl
        have hz : (w23.alloc (.cells #[.int .i64 yu, .int .i64 yl, .slice qae ys.length qce] 26)).heap.size = w23.heap.size + 1 := by simp
        generalize w23.alloc (.cells #[.int .i64 yu, .int .i64 yl, .slice qae ys.length qce] 26) = w24 at hb hk hz ⊢
        have HB24 : Hid (Below w.heap.size w w24) := Lib.hid (HB23.out.trans (hb.mono HB23.out.size))
        have HZ24 : Hid (w23.heap.size ≤ w24.heap.size) := Lib.hid hb.size
        have HRk24 := Lib.hid (HRk0.out.below HB24.out (Nat.le_refl _))
        have HRy24 := Lib.hid (HRy23.out.below hb (Nat.le_refl _))
        have HKy24 := Lib.hid ((hb.block _ (lt_of_block HKy23.out)).trans HKy23.out)
        have HRs24 := Lib.hid (HRs23.out.below hb (Nat.le_refl _))
        have HKs24 := Lib.hid ((hb.block _ (lt_of_block HKs23.out)).trans HKs23.out)
        have HRe24 := Lib.hid (HRe23.out.below hb (Nat.le_refl _))
        have HBs13_24 : Hid (Below w13.heap.size w13 w24) := Lib.hid (HBs13_23.out.trans (hb.mono HBs13_23.out.size))
        have HBs15_24 : Hid (Below w15.heap.size w15 w24) := Lib.hid (HBs15_23.out.trans (hb.mono HBs15_23.out.size))
        have HBs23_24 : Hid (Below w23.heap.size w23 w24) := Lib.hid (HBs23_23.out.trans (hb.mono HBs23_23.out.size))
        have HKe24 := Lib.hid hk
        replace HZ24 : Hid (w23.heap.size < w24.heap.size) := Lib.hid (by omega)
        have HE24 := Lib.hid hz
        clear hb hk hz
        refine (vFrame_yes yu yl _ _ ys _ HRe24.out HRy24.out).mono ?_
        rintro e w25 ⟨rfl, hb⟩
        have HB25 : Hid (Below w.heap.size w w25) := Lib.hid (HB24.out.trans (hb.mono HB24.out.size))
        have HZ25 : Hid (w24.heap.size ≤ w25.heap.size) := Lib.hid hb.size
        have HRk25 := Lib.hid (HRk0.out.below HB25.out (Nat.le_refl _))
        have HRy25 := Lib.hid (HRy24.out.below hb (Nat.le_refl _))
        have HKy25 := Lib.hid ((hb.block _ (lt_of_block HKy24.out)).trans HKy24.out)
        have HRs25 := Lib.hid (HRs24.out.below hb (Nat.le_refl _))
        have HKs25 := Lib.hid ((hb.block _ (lt_of_block HKs24.out)).trans HKs24.out)
        have HRe25 := Lib.hid (HRe24.out.below hb (Nat.le_refl _))
        have HKe25 := Lib.hid ((hb.block _ (lt_of_block HKe24.out)).trans HKe24.out)
        have HBs13_25 : Hid (Below w13.heap.size w13 w25) := Lib.hid (HBs13_24.out.trans (hb.mono HBs13_24.out.size))
        have HBs15_25 : Hid (Below w15.heap.size w15 w25) := Lib.hid (HBs15_24.out.trans (hb.mono HBs15_24.out.size))
        have HBs23_25 : Hid (Below w23.heap.size w23 w25) := Lib.hid (HBs23_24.out.trans (hb.mono HBs23_24.out.size))
        clear hb
        clear cy0 cy1 cy2 fy0 fy1 fy2 lty cs0 cs1 cs2 fs0 fs1 fs2 lts
        have lty := lt_of_block HKy25.out
        obtain ⟨cy0, cy1, cy2, fy0, fy1, fy2⟩ := cell3 HKy25.out
        have lts := lt_of_block HKs25.out
        obtain ⟨cs0, cs1, cs2, fs0, fs1, fs2⟩ := cell3 HKs25.out
        have lte := lt_of_block HKe25.out
        obtain ⟨ce0, ce1, ce2, fe0, fe1, fe2⟩ := cell3 HKe25.out
        go_wp2_with fail
        go_ret
        exact ⟨rfl, HB25.out⟩
      | false =>
        clear hY2
        clear cy0 cy1 cy2 fy0 fy1 fy2 lty cs0 cs1 cs2 fs0 fs1 fs2 lts
        have lty := lt_of_block HKy22.out
        obtain ⟨cy0, cy1, cy2, fy0, fy1, fy2⟩ := cell3 HKy22.out
        have lts := lt_of_block HKs22.out
        obtain ⟨cs0, cs1, cs2, fs0, fs1, fs2⟩ := cell3 HKs22.out
        go_wp2_with fail
        go_ret
        exact ⟨rfl, HB22.out⟩
end Go.Proofs.Ytjkjaadcdolbhaa
