/- The law FnCountingDown. -/
import Derived.Test.YtjkjaadcdolbhaaFsame
import Derived.Test.YtjkjaadcdolbhaaHom
import Derived.Test.YtjkjaadcdolbhaaVin
import Derived.Test.YtjkjaadcdolbhaaDcd
import Derived.Test.YtjkjaadcdolbhaaTkm
namespace Go.Proofs.Ytjkjaadcdolbhaa
set_option linter.unusedVariables false
open Go.RowKit
set_option linter.unusedSimpArgs false

theorem cd_same (up lo : Int) (rs : List (Int × Int)) (z : Int) (hz : -9223372036854775808 ≤ z ∧ z ≤ 9223372036854775807) : ∃ (qs : List Int) (b : Bool),
    (∀ w sv, RodsR w sv rs → IsB 31 #[.agg #[.int .i64 up, .int .i64 lo, sv], .int .i64 z] w qs b) ∧ (∀ w sv, RodsR w sv rs → IsB 30 #[.agg #[.int .i64 up, .int .i64 lo, sv], .int .i64 z] w qs b) ∧
    (b = true → ∃ (N : Int) (k : Nat), qs = cdL N z k ∧ (∀ w sv, RodsR w sv rs → InB 21 #[.agg #[.int .i64 up, .int .i64 lo, sv]] w N true) ∧ (∀ w sv, RodsR w sv rs → InB 33 #[.agg #[.int .i64 up, .int .i64 lo, sv], .int .i64 z] w (k : Int) true) ∧
      ((0 ≤ N ∧ N ≤ 200000000) ∧ k ≤ 50 ∧ 1 ≤ z ∧ (∀ j : Nat, j ≤ k → 0 ≤ N - (j : Int) * z ∧ 0 ≤ (j : Int) * z) ∧ N - (k : Int) * z < z)) := by
  by_cases hc : canH up lo rs z
  · have hn := numF_top up lo rs hc.1
    have h1 := hc.2.2
    have hd : 0 ≤ numF rs / z := Int.ediv_nonneg hn.1 (by omega)
    obtain ⟨k, hk⟩ : ∃ k : Nat, numF rs / z = (k : Int) := ⟨(numF rs / z).toNat, by omega⟩
    by_cases hl : k ≤ 50
    · refine ⟨cdL (numF rs) z k, true, fun w sv h => speCountDown_yes up lo sv rs z w h hc hz.2 k hk hl, fun w sv h => ofOwnI (impCountDown_yes up lo sv rs z w h hc k hk hl), fun _ => ⟨numF rs, k, rfl, fun w sv h => implNumberOn_yes up lo sv rs w h hc.1, fun w sv h => ?_, hn, hl, h1, fun j hj => ⟨?_, Int.mul_nonneg (by omega) (by omega)⟩, ?_⟩⟩
      · rw [← hk]; exact impHowOften_yes up lo sv rs z w h hc (by omega)
      · exact (cd_le (N := numF rs) h1 j).1 (by rw [hk]; omega)
      · rw [← hk]
        have := Int.emod_add_mul_ediv (numF rs) z
        have h2 := Int.emod_lt_of_pos (numF rs) (show 0 < z by omega)
        rw [Int.mul_comm z] at this
        omega
    · exact ⟨[], false, fun w sv h => speCountDown_long up lo sv rs z w h hc (by omega), fun w sv h => ofOwnI (impCountDown_long up lo sv rs z w h hc (by omega)), fun h => by cases h⟩
  · exact ⟨[], false, fun w sv h => speCountDown_bad up lo sv rs z w h hc, fun w sv h => ofOwnI (impCountDown_bad up lo sv rs z w h hc), fun h => by cases h⟩
theorem ho_same (up lo : Int) (rs : List (Int × Int)) (z : Int) : ∃ (n : Int) (b : Bool) (fu fl : Int) (qs : List (Int × Int)) (t : Bool),
    (∀ w sv, RodsR w sv rs → InB 35 #[.agg #[.int .i64 up, .int .i64 lo, sv], .int .i64 z] w n b) ∧ (∀ w sv, RodsR w sv rs → InB 33 #[.agg #[.int .i64 up, .int .i64 lo, sv], .int .i64 z] w n b) ∧
    (∀ w sv, RodsR w sv rs → FrB 37 #[.agg #[.int .i64 up, .int .i64 lo, sv], .int .i64 z] w fu fl qs t) ∧ (∀ w sv, RodsR w sv rs → FrB 36 #[.agg #[.int .i64 up, .int .i64 lo, sv], .int .i64 z] w fu fl qs t) ∧
    (t = true → ∃ (N M : Int), (∀ w sv, RodsR w sv rs → InB 21 #[.agg #[.int .i64 up, .int .i64 lo, sv]] w N true) ∧ (∀ w sv, RodsR w sv qs → InB 21 #[.agg #[.int .i64 fu, .int .i64 fl, sv]] w M true) ∧ (0 ≤ M ∧ M ≤ N ∧ N ≤ 200000000 ∧ N - M < z ∧ 1 ≤ z ∧ M.tmod z = 0)) := by
  have hnear : ∃ (fu fl : Int) (qs : List (Int × Int)) (t : Bool), (∀ w sv, RodsR w sv rs → FrB 37 #[.agg #[.int .i64 up, .int .i64 lo, sv], .int .i64 z] w fu fl qs t) ∧ (∀ w sv, RodsR w sv rs → FrB 36 #[.agg #[.int .i64 up, .int .i64 lo, sv], .int .i64 z] w fu fl qs t) ∧
    (t = true → ∃ (N M : Int), (∀ w sv, RodsR w sv rs → InB 21 #[.agg #[.int .i64 up, .int .i64 lo, sv]] w N true) ∧ (∀ w sv, RodsR w sv qs → InB 21 #[.agg #[.int .i64 fu, .int .i64 fl, sv]] w M true) ∧ (0 ≤ M ∧ M ≤ N ∧ N ≤ 200000000 ∧ N - M < z ∧ 1 ≤ z ∧ M.tmod z = 0)) := by
    by_cases hc : canH up lo rs z
    · have hn := numF_top up lo rs hc.1
      have h1 := hc.2.2
      have hb := numF_stdb hc.2.1
      have hM0 : 0 ≤ numF rs / z * z := Int.mul_nonneg (Int.ediv_nonneg hn.1 (by omega)) (by omega)
      have e := Int.emod_add_mul_ediv (numF rs) z
      have e1 := Int.emod_lt_of_pos (numF rs) (show 0 < z by omega)
      have e2 := Int.emod_nonneg (numF rs) (show z ≠ 0 by omega)
      rw [Int.mul_comm z] at e
      refine ⟨up, lo, _, true, fun w sv h => speNearestBelow_yes up lo sv rs z w h hc, fun w sv h => ofOwn (impNearestBelow_yes up lo sv rs z w h hc), fun _ => ⟨numF rs, numF rs / z * z, fun w sv h => implNumberOn_yes up lo sv rs w h hc.1, fun w sv h => ?_, hM0, by omega, hn.2, by omega, h1, ?_⟩⟩
      · have := implNumberOn_yes up lo sv (forR rs.length (numF rs / z * z)) w h (forR_good up lo rs.length _ hc.1.2.1 hc.1.2.2.1 hc.1.2.2.2)
        rw [numF_forR rs.length _ hM0 (by omega)] at this
        exact this
      · rw [Int.tmod_eq_emod_of_nonneg hM0]; exact Int.mul_emod_left _ _
    · exact ⟨0, 0, [], false, fun w sv h => speNearestBelow_bad up lo sv rs z w h hc, fun w sv h => ofOwn (impNearestBelow_no up lo sv rs z w h hc), fun h => by cases h⟩
  obtain ⟨fu, fl, qs, t, n1, n2, n3⟩ := hnear
  by_cases hc : canH up lo rs z
  · by_cases hl : numF rs / z ≤ 100000
    · exact ⟨_, true, fu, fl, qs, t, fun w sv h => speHowOften_yes up lo sv rs z w h hc hl, fun w sv h => impHowOften_yes up lo sv rs z w h hc hl, n1, n2, n3⟩
    · exact ⟨0, false, fu, fl, qs, t, fun w sv h => speHowOften_long up lo sv rs z w h hc hl, fun w sv h => impHowOften_long up lo sv rs z w h hc hl, n1, n2, n3⟩
  · exact ⟨0, false, fu, fl, qs, t, fun w sv h => speHowOften_bad up lo sv rs z w h hc, fun w sv h => impHowOften_bad up lo sv rs z w h hc, n1, n2, n3⟩

set_option maxRecDepth 100000 in
set_option maxHeartbeats 12800000 in
theorem lawCounting (w : World) (ad : Option Addr) (cp : Nat) (L : List UInt8) (h : SlR w (.slice ad L.length cp) (L.map fun c => .int .u8 (c.toNat : Int))) :
    Calls Try.prog 4 #[.slice ad L.length cp] w fun e w' => e = .returned (.bool true) ∧ Below w.heap.size w w' := by
  have hm : L.length ≤ 9223372036854775807 := by
    obtain ⟨a, c, e, ⟨m, _⟩, _⟩ := h
    rw [List.length_map] at m
    exact m
  have HB0 : Hid (Below w.heap.size w w) := Lib.hid (Below.refl _ _)
  have HRk0 := Lib.hid (h)
  clear h
  by_cases hbig : (65536 : Int) < (L.length : Int)
  · go_enter Try.func4, Try.ntmps4
    go_wp2_with fail
    refine (vBig_any ad L.length cp _ true (decide_eq_true hbig)).mono ?_
    rintro e w' ⟨rfl, hw⟩
    subst w'
    go_wp2_with fail
    go_ret
    exact ⟨rfl, Below.refl _ _⟩
  · go_enter Try.func4, Try.ntmps4
    go_wp2_with fail
    refine (vBig_any ad L.length cp _ false (decide_eq_false (by omega))).mono ?_
    rintro e w' ⟨rfl, hw⟩
    subst w'
    go_wp2_with fail
    refine (drawCountDown_any _ L _ HRk0.out).mono ?_
    rintro e w1 ⟨⟨xu, xl, xv, xs, z, rfl, ho, -, hz0, hz1⟩, hb⟩
    have HB1 : Hid (Below w.heap.size w w1) := Lib.hid (HB0.out.trans (hb.mono HB0.out.size))
    have HZ1 : Hid (w.heap.size ≤ w1.heap.size) := Lib.hid hb.size
    have HRk1 := Lib.hid (HRk0.out.below HB1.out (Nat.le_refl _))
    clear hb
    obtain ⟨qax, qcx, rfl⟩ : ∃ a c, xv = .slice a xs.length c := by obtain ⟨a, c, e, _⟩ := ho; exact ⟨a, c, e⟩
    have HRx1 := Lib.hid (ho)
    have HBs1_1 : Hid (Below w1.heap.size w1 w1) := Lib.hid (Below.refl _ _)
    clear ho
    obtain ⟨qs, b, hS, hI, hY⟩ := cd_same xu xl xs z ⟨hz0, hz1⟩
    have HS1 := Lib.hid hS
    have HI1 := Lib.hid hI
    clear hS hI
    have hb1 : (b != b) = false := by simp
    go_wp2_with fail
    have hb : Below w1.heap.size w1 (w1.alloc (.cells #[.int .i64 xu, .int .i64 xl, .slice qax xs.length qcx] 26)) := (Below.refl _ _).alloc (Nat.le_refl _) _
    have hk : (w1.alloc (.cells #[.int .i64 xu, .int .i64 xl, .slice qax xs.length qcx] 26)).heap[w1.heap.size]? = some (.cells #[.int .i64 xu, .int .i64 xl, .slice qax xs.length qcx] 26 (0, 0)) := alloc_at rfl
    have hz : (w1.alloc (.cells #[.int .i64 xu, .int .i64 xl, .slice qax xs.length qcx] 26)).heap.size = w1.heap.size + 1 := by simp
    generalize w1.alloc (.cells #[.int .i64 xu, .int .i64 xl, .slice qax xs.length qcx] 26) = w2 at hb hk hz ⊢
    have HB2 : Hid (Below w.heap.size w w2) := Lib.hid (HB1.out.trans (hb.mono HB1.out.size))
    have HZ2 : Hid (w1.heap.size ≤ w2.heap.size) := Lib.hid hb.size
    have HRk2 := Lib.hid (HRk0.out.below HB2.out (Nat.le_refl _))
    have HRx2 := Lib.hid (HRx1.out.below hb (Nat.le_refl _))
    have HBs1_2 : Hid (Below w1.heap.size w1 w2) := Lib.hid (HBs1_1.out.trans (hb.mono HBs1_1.out.size))
    have HKx2 := Lib.hid hk
    replace HZ2 : Hid (w1.heap.size < w2.heap.size) := Lib.hid (by omega)
    have HE2 := Lib.hid hz
    clear hb hk hz
    refine (HI1.out _ _ HRx2.out).mono ?_
    rintro e w3 ⟨⟨v, rfl, ho⟩, hb⟩
    have HB3 : Hid (Below w.heap.size w w3) := Lib.hid (HB2.out.trans (hb.mono HB2.out.size))
    have HZ3 : Hid (w2.heap.size ≤ w3.heap.size) := Lib.hid hb.size
    have HRk3 := Lib.hid (HRk0.out.below HB3.out (Nat.le_refl _))
    have HRx3 := Lib.hid (HRx2.out.below hb (Nat.le_refl _))
    have HKx3 := Lib.hid ((hb.block _ (lt_of_block HKx2.out)).trans HKx2.out)
    have HBs1_3 : Hid (Below w1.heap.size w1 w3) := Lib.hid (HBs1_2.out.trans (hb.mono HBs1_2.out.size))
    clear hb
    obtain ⟨qao, qco, rfl⟩ := ho.form
    have HRo3 := Lib.hid (ho)
    have HBs3_3 : Hid (Below w3.heap.size w3 w3) := Lib.hid (Below.refl _ _)
    clear ho
    have ltx := lt_of_block HKx3.out
    obtain ⟨cx0, cx1, cx2, fx0, fx1, fx2⟩ := cell3 HKx3.out
    go_wp2_with fail
    refine (HS1.out _ _ HRx3.out).mono ?_
    rintro e w4 ⟨⟨v, rfl, ho⟩, hb⟩
    have HB4 : Hid (Below w.heap.size w w4) := Lib.hid (HB3.out.trans (hb.mono HB3.out.size))
    have HZ4 : Hid (w3.heap.size ≤ w4.heap.size) := Lib.hid hb.size
    have HRk4 := Lib.hid (HRk0.out.below HB4.out (Nat.le_refl _))
    have HRx4 := Lib.hid (HRx3.out.below hb (Nat.le_refl _))
    have HKx4 := Lib.hid ((hb.block _ (lt_of_block HKx3.out)).trans HKx3.out)
    have HRo4 := Lib.hid (HRo3.out.below hb (Nat.le_refl _))
    have HBs1_4 : Hid (Below w1.heap.size w1 w4) := Lib.hid (HBs1_3.out.trans (hb.mono HBs1_3.out.size))
    have HBs3_4 : Hid (Below w3.heap.size w3 w4) := Lib.hid (HBs3_3.out.trans (hb.mono HBs3_3.out.size))
    clear hb
    obtain ⟨qap, qcp, rfl⟩ := ho.form
    have HRp4 := Lib.hid (ho)
    have HBs4_4 : Hid (Below w4.heap.size w4 w4) := Lib.hid (Below.refl _ _)
    clear ho
    clear cx0 cx1 cx2 fx0 fx1 fx2 ltx
    have ltx := lt_of_block HKx4.out
    obtain ⟨cx0, cx1, cx2, fx0, fx1, fx2⟩ := cell3 HKx4.out
    go_wp2_with fail
    refine (vInts_yes _ _ qs _ HRo4.out HRp4.out).mono ?_
    rintro e w5 ⟨rfl, hb⟩
    have HB5 : Hid (Below w.heap.size w w5) := Lib.hid (HB4.out.trans (hb.mono HB4.out.size))
    have HZ5 : Hid (w4.heap.size ≤ w5.heap.size) := Lib.hid hb.size
    have HRk5 := Lib.hid (HRk0.out.below HB5.out (Nat.le_refl _))
    have HRx5 := Lib.hid (HRx4.out.below hb (Nat.le_refl _))
    have HKx5 := Lib.hid ((hb.block _ (lt_of_block HKx4.out)).trans HKx4.out)
    have HRo5 := Lib.hid (HRo4.out.below hb (Nat.le_refl _))
    have HRp5 := Lib.hid (HRp4.out.below hb (Nat.le_refl _))
    have HBs1_5 : Hid (Below w1.heap.size w1 w5) := Lib.hid (HBs1_4.out.trans (hb.mono HBs1_4.out.size))
    have HBs3_5 : Hid (Below w3.heap.size w3 w5) := Lib.hid (HBs3_4.out.trans (hb.mono HBs3_4.out.size))
    have HBs4_5 : Hid (Below w4.heap.size w4 w5) := Lib.hid (HBs4_4.out.trans (hb.mono HBs4_4.out.size))
    clear hb
    cases b with
    | true =>
      obtain ⟨N, k, hqs, hNx, hHo, ⟨⟨hN0, hN1⟩, hk, hz, hjz, hend⟩⟩ := hY rfl
      have hql : qs.length = k := by rw [hqs, cdL_len]
      have HNX := Lib.hid hNx
      have HHO := Lib.hid hHo
      have HQS := Lib.hid hqs
      have HJZ := Lib.hid hjz
      have HEND := Lib.hid hend
      rw [hql]
      have hkk : ((k : Int) != (k : Int)) = false := by simp
      have HQL := Lib.hid hql
      clear hY hNx hHo hqs hjz hend hql
      clear cx0 cx1 cx2 fx0 fx1 fx2 ltx
      have ltx := lt_of_block HKx5.out
      obtain ⟨cx0, cx1, cx2, fx0, fx1, fx2⟩ := cell3 HKx5.out
      go_wp2_with fail
      refine (HNX.out _ _ HRx5.out).mono ?_
      rintro e w6 ⟨rfl, hb⟩
      have HB6 : Hid (Below w.heap.size w w6) := Lib.hid (HB5.out.trans (hb.mono HB5.out.size))
      have HZ6 : Hid (w5.heap.size ≤ w6.heap.size) := Lib.hid hb.size
      have HRk6 := Lib.hid (HRk0.out.below HB6.out (Nat.le_refl _))
      have HRx6 := Lib.hid (HRx5.out.below hb (Nat.le_refl _))
      have HKx6 := Lib.hid ((hb.block _ (lt_of_block HKx5.out)).trans HKx5.out)
      have HRo6 := Lib.hid (HRo5.out.below hb (Nat.le_refl _))
      have HBs1_6 : Hid (Below w1.heap.size w1 w6) := Lib.hid (HBs1_5.out.trans (hb.mono HBs1_5.out.size))
      have HBs3_6 : Hid (Below w3.heap.size w3 w6) := Lib.hid (HBs3_5.out.trans (hb.mono HBs3_5.out.size))
      clear hb
      clear cx0 cx1 cx2 fx0 fx1 fx2 ltx
      have ltx := lt_of_block HKx6.out
      obtain ⟨cx0, cx1, cx2, fx0, fx1, fx2⟩ := cell3 HKx6.out
      go_wp2_with fail
      refine (HHO.out _ _ HRx6.out).mono ?_
      rintro e w7 ⟨rfl, hb⟩
      have HB7 : Hid (Below w.heap.size w w7) := Lib.hid (HB6.out.trans (hb.mono HB6.out.size))
      have HZ7 : Hid (w6.heap.size ≤ w7.heap.size) := Lib.hid hb.size
      have HRk7 := Lib.hid (HRk0.out.below HB7.out (Nat.le_refl _))
      have HRx7 := Lib.hid (HRx6.out.below hb (Nat.le_refl _))
      have HKx7 := Lib.hid ((hb.block _ (lt_of_block HKx6.out)).trans HKx6.out)
      have HRo7 := Lib.hid (HRo6.out.below hb (Nat.le_refl _))
      have HBs1_7 : Hid (Below w1.heap.size w1 w7) := Lib.hid (HBs1_6.out.trans (hb.mono HBs1_6.out.size))
      have HBs3_7 : Hid (Below w3.heap.size w3 w7) := Lib.hid (HBs3_6.out.trans (hb.mono HBs3_6.out.size))
      clear hb
      clear cx0 cx1 cx2 fx0 fx1 fx2 ltx
      have ltx := lt_of_block HKx7.out
      obtain ⟨cx0, cx1, cx2, fx0, fx1, fx2⟩ := cell3 HKx7.out
      go_wp2_with fail
      go_loopw [13] (fun iv wr => ∃ j : Nat, j ≤ k ∧ iv = .int .i64 j ∧ wr = w7) (fun iv _ => k - (intOf iv).toNat)
      case atStart => exact ⟨0, Nat.zero_le _, rfl, rfl⟩
      case round =>
        obtain ⟨j, hjk, rfl, hw⟩ := hrel
        subst wr
        by_cases hlt : j < k
        · obtain ⟨a0, b0, o0, c0, he0, rfl, hbl, hcell⟩ := ints_at HRo7.out j (by rw [HQL.out]; exact hlt)
          injection he0 with he0 _ _
          subst he0
          obtain ⟨P, hP⟩ : ∃ P, P = ((j : Int) + 1) * z := ⟨_, rfl⟩
          have hjb := HJZ.out (j + 1) (by omega)
          rw [Int.natCast_add, Int.natCast_one, ← hP] at hjb
          have hx : qs[j]'(by rw [HQL.out]; exact hlt) = N - P := by
            have := cdL_at N z k j (by rw [cdL_len]; exact hlt)
            rw [← hP] at this
            rw [← this]
            congr 1
            try exact HQS.out
          rw [hx] at hcell
          have hwp : IntKind.i64.wrap (z * ((j : Int) + 1)) = P := by rw [Int.mul_comm, ← hP, IntKind.wrap_i64]; omega
          have hws : IntKind.i64.wrap (N - P) = N - P := by rw [IntKind.wrap_i64]; omega
          have hnn : ((N - P) != (N - P)) = false := by simp
          have z1 : (0 : Int) ≤ (j : Int) := by omega
          have z2 : (j : Int) < (k : Int) := by omega
          clear hx hP
          clear cx0 cx1 cx2 fx0 fx1 fx2 ltx
          have ltx := lt_of_block HKx7.out
          obtain ⟨cx0, cx1, cx2, fx0, fx1, fx2⟩ := cell3 HKx7.out
          go_wp2_with fail
          go_roundw
          case rel => exact ⟨j + 1, by omega, by go_num, by first | rfl | trivial⟩
          case measure => simp [intOf]; omega
        · obtain rfl : j = k := by omega
          obtain ⟨P, hP⟩ : ∃ P, P = (j : Int) * z := ⟨_, rfl⟩
          have hjb := HJZ.out j (Nat.le_refl _)
          have hen := HEND.out
          rw [← hP] at hjb hen
          have hwp : IntKind.i64.wrap (z * (j : Int)) = P := by rw [Int.mul_comm, ← hP, IntKind.wrap_i64]; omega
          have hws : IntKind.i64.wrap (N - P) = N - P := by rw [IntKind.wrap_i64]; omega
          have z2 : ¬ ((j : Int) < (j : Int)) := by omega
          have hdd : decide (z ≤ N - P) = false := decide_eq_false (by omega)
          clear hP
          clear cx0 cx1 cx2 fx0 fx1 fx2 ltx
          have ltx := lt_of_block HKx7.out
          obtain ⟨cx0, cx1, cx2, fx0, fx1, fx2⟩ := cell3 HKx7.out
          go_wp2_with fail
          refine (drawHowOften_any _ L _ HRk7.out).mono ?_
          rintro e w8 ⟨⟨yu, yl, yv, ys, q, rfl, ho, -, hq0, hq1⟩, hb⟩
          have HB8 : Hid (Below w.heap.size w w8) := Lib.hid (HB7.out.trans (hb.mono HB7.out.size))
          have HZ8 : Hid (w7.heap.size ≤ w8.heap.size) := Lib.hid hb.size
          have HRk8 := Lib.hid (HRk0.out.below HB8.out (Nat.le_refl _))
          clear hb
          obtain ⟨qay, qcy, rfl⟩ : ∃ a c, yv = .slice a ys.length c := by obtain ⟨a, c, e, _⟩ := ho; exact ⟨a, c, e⟩
          have HRy8 := Lib.hid (ho)
          have HBs8_8 : Hid (Below w8.heap.size w8 w8) := Lib.hid (Below.refl _ _)
          clear ho
          obtain ⟨n2, b2, gu, gl, rs, t2, hS, hI, hSN, hIN, hY2⟩ := ho_same yu yl ys q
          have HS2 := Lib.hid hS
          have HI2 := Lib.hid hI
          have HSN2 := Lib.hid hSN
          have HIN2 := Lib.hid hIN
          clear hS hI hSN hIN
          have hb2 : (b2 != b2) = false := by simp
          have ht2 : (t2 != t2) = false := by simp
          have hn2 : (n2 != n2) = false := by simp
          clear cx0 cx1 cx2 fx0 fx1 fx2 ltx
          go_wp2_with fail
          have hb : Below w8.heap.size w8 (w8.alloc (.cells #[.int .i64 yu, .int .i64 yl, .slice qay ys.length qcy] 26)) := (Below.refl _ _).alloc (Nat.le_refl _) _
          have hk : (w8.alloc (.cells #[.int .i64 yu, .int .i64 yl, .slice qay ys.length qcy] 26)).heap[w8.heap.size]? = some (.cells #[.int .i64 yu, .int .i64 yl, .slice qay ys.length qcy] 26 (0, 0)) := alloc_at rfl
          have hz : (w8.alloc (.cells #[.int .i64 yu, .int .i64 yl, .slice qay ys.length qcy] 26)).heap.size = w8.heap.size + 1 := by simp
          generalize w8.alloc (.cells #[.int .i64 yu, .int .i64 yl, .slice qay ys.length qcy] 26) = w9 at hb hk hz ⊢
          have HB9 : Hid (Below w.heap.size w w9) := Lib.hid (HB8.out.trans (hb.mono HB8.out.size))
          have HZ9 : Hid (w8.heap.size ≤ w9.heap.size) := Lib.hid hb.size
          have HRk9 := Lib.hid (HRk0.out.below HB9.out (Nat.le_refl _))
          have HRy9 := Lib.hid (HRy8.out.below hb (Nat.le_refl _))
          have HBs8_9 : Hid (Below w8.heap.size w8 w9) := Lib.hid (HBs8_8.out.trans (hb.mono HBs8_8.out.size))
          have HKy9 := Lib.hid hk
          replace HZ9 : Hid (w8.heap.size < w9.heap.size) := Lib.hid (by omega)
          have HE9 := Lib.hid hz
          clear hb hk hz
          refine (HI2.out _ _ HRy9.out).mono ?_
          rintro e w10 ⟨rfl, hb⟩
          have HB10 : Hid (Below w.heap.size w w10) := Lib.hid (HB9.out.trans (hb.mono HB9.out.size))
          have HZ10 : Hid (w9.heap.size ≤ w10.heap.size) := Lib.hid hb.size
          have HRk10 := Lib.hid (HRk0.out.below HB10.out (Nat.le_refl _))
          have HRy10 := Lib.hid (HRy9.out.below hb (Nat.le_refl _))
          have HKy10 := Lib.hid ((hb.block _ (lt_of_block HKy9.out)).trans HKy9.out)
          have HBs8_10 : Hid (Below w8.heap.size w8 w10) := Lib.hid (HBs8_9.out.trans (hb.mono HBs8_9.out.size))
          clear hb
          have lty := lt_of_block HKy10.out
          obtain ⟨cy0, cy1, cy2, fy0, fy1, fy2⟩ := cell3 HKy10.out
          go_wp2_with fail
          refine (HS2.out _ _ HRy10.out).mono ?_
          rintro e w11 ⟨rfl, hb⟩
          have HB11 : Hid (Below w.heap.size w w11) := Lib.hid (HB10.out.trans (hb.mono HB10.out.size))
          have HZ11 : Hid (w10.heap.size ≤ w11.heap.size) := Lib.hid hb.size
          have HRk11 := Lib.hid (HRk0.out.below HB11.out (Nat.le_refl _))
          have HRy11 := Lib.hid (HRy10.out.below hb (Nat.le_refl _))
          have HKy11 := Lib.hid ((hb.block _ (lt_of_block HKy10.out)).trans HKy10.out)
          have HBs8_11 : Hid (Below w8.heap.size w8 w11) := Lib.hid (HBs8_10.out.trans (hb.mono HBs8_10.out.size))
          clear hb
          clear cy0 cy1 cy2 fy0 fy1 fy2 lty
          have lty := lt_of_block HKy11.out
          obtain ⟨cy0, cy1, cy2, fy0, fy1, fy2⟩ := cell3 HKy11.out
          go_wp2_with fail
          refine (HIN2.out _ _ HRy11.out).mono ?_
          rintro e w12 ⟨⟨v, rfl, ho⟩, hb⟩
          have HB12 : Hid (Below w.heap.size w w12) := Lib.hid (HB11.out.trans (hb.mono HB11.out.size))
          have HZ12 : Hid (w11.heap.size ≤ w12.heap.size) := Lib.hid hb.size
          have HRk12 := Lib.hid (HRk0.out.below HB12.out (Nat.le_refl _))
          have HRy12 := Lib.hid (HRy11.out.below hb (Nat.le_refl _))
          have HKy12 := Lib.hid ((hb.block _ (lt_of_block HKy11.out)).trans HKy11.out)
          have HBs8_12 : Hid (Below w8.heap.size w8 w12) := Lib.hid (HBs8_11.out.trans (hb.mono HBs8_11.out.size))
          clear hb
          obtain ⟨qas, qcs, rfl⟩ : ∃ a c, v = .slice a rs.length c := by obtain ⟨a, c, e, _⟩ := ho; exact ⟨a, c, e⟩
          have HRs12 := Lib.hid (ho)
          have HBs12_12 : Hid (Below w12.heap.size w12 w12) := Lib.hid (Below.refl _ _)
          clear ho
          clear cy0 cy1 cy2 fy0 fy1 fy2 lty
          have lty := lt_of_block HKy12.out
          obtain ⟨cy0, cy1, cy2, fy0, fy1, fy2⟩ := cell3 HKy12.out
          go_wp2_with fail
          have hb : Below w12.heap.size w12 (w12.alloc (.cells #[.int .i64 gu, .int .i64 gl, .slice qas rs.length qcs] 26)) := (Below.refl _ _).alloc (Nat.le_refl _) _
          have hk : (w12.alloc (.cells #[.int .i64 gu, .int .i64 gl, .slice qas rs.length qcs] 26)).heap[w12.heap.size]? = some (.cells #[.int .i64 gu, .int .i64 gl, .slice qas rs.length qcs] 26 (0, 0)) := alloc_at rfl
          have hz : (w12.alloc (.cells #[.int .i64 gu, .int .i64 gl, .slice qas rs.length qcs] 26)).heap.size = w12.heap.size + 1 := by simp
          generalize w12.alloc (.cells #[.int .i64 gu, .int .i64 gl, .slice qas rs.length qcs] 26) = w13 at hb hk hz ⊢
          have HB13 : Hid (Below w.heap.size w w13) := Lib.hid (HB12.out.trans (hb.mono HB12.out.size))
          have HZ13 : Hid (w12.heap.size ≤ w13.heap.size) := Lib.hid hb.size
          have HRk13 := Lib.hid (HRk0.out.below HB13.out (Nat.le_refl _))
          have HRy13 := Lib.hid (HRy12.out.below hb (Nat.le_refl _))
          have HKy13 := Lib.hid ((hb.block _ (lt_of_block HKy12.out)).trans HKy12.out)
          have HRs13 := Lib.hid (HRs12.out.below hb (Nat.le_refl _))
          have HBs8_13 : Hid (Below w8.heap.size w8 w13) := Lib.hid (HBs8_12.out.trans (hb.mono HBs8_12.out.size))
          have HBs12_13 : Hid (Below w12.heap.size w12 w13) := Lib.hid (HBs12_12.out.trans (hb.mono HBs12_12.out.size))
          have HKs13 := Lib.hid hk
          replace HZ13 : Hid (w12.heap.size < w13.heap.size) := Lib.hid (by omega)
          have HE13 := Lib.hid hz
          clear hb hk hz
          refine (HSN2.out _ _ HRy13.out).mono ?_
          rintro e w14 ⟨⟨v, rfl, ho⟩, hb⟩
          have HB14 : Hid (Below w.heap.size w w14) := Lib.hid (HB13.out.trans (hb.mono HB13.out.size))
          have HZ14 : Hid (w13.heap.size ≤ w14.heap.size) := Lib.hid hb.size
          have HRk14 := Lib.hid (HRk0.out.below HB14.out (Nat.le_refl _))
          have HRy14 := Lib.hid (HRy13.out.below hb (Nat.le_refl _))
          have HKy14 := Lib.hid ((hb.block _ (lt_of_block HKy13.out)).trans HKy13.out)
          have HRs14 := Lib.hid (HRs13.out.below hb (Nat.le_refl _))
          have HKs14 := Lib.hid ((hb.block _ (lt_of_block HKs13.out)).trans HKs13.out)
          have HBs8_14 : Hid (Below w8.heap.size w8 w14) := Lib.hid (HBs8_13.out.trans (hb.mono HBs8_13.out.size))
          have HBs12_14 : Hid (Below w12.heap.size w12 w14) := Lib.hid (HBs12_13.out.trans (hb.mono HBs12_13.out.size))
          clear hb
          obtain ⟨qat, qct, rfl⟩ : ∃ a c, v = .slice a rs.length c := by obtain ⟨a, c, e, _⟩ := ho; exact ⟨a, c, e⟩
          have HRt14 := Lib.hid (ho)
          have HBs14_14 : Hid (Below w14.heap.size w14 w14) := Lib.hid (Below.refl _ _)
          clear ho
          clear cy0 cy1 cy2 fy0 fy1 fy2 lty
          have lty := lt_of_block HKy14.out
          obtain ⟨cy0, cy1, cy2, fy0, fy1, fy2⟩ := cell3 HKy14.out
          have lts := lt_of_block HKs14.out
          obtain ⟨cs0, cs1, cs2, fs0, fs1, fs2⟩ := cell3 HKs14.out
          go_wp2_with fail
          have hb : Below w14.heap.size w14 (w14.alloc (.cells #[.int .i64 gu, .int .i64 gl, .slice qat rs.length qct] 26)) := (Below.refl _ _).alloc (Nat.le_refl _) _
          have hk : (w14.alloc (.cells #[.int .i64 gu, .int .i64 gl, .slice qat rs.length qct] 26)).heap[w14.heap.size]? = some (.cells #[.int .i64 gu, .int .i64 gl, .slice qat rs.length qct] 26 (0, 0)) := alloc_at rfl
          have hz : (w14.alloc (.cells #[.int .i64 gu, .int .i64 gl, .slice qat rs.length qct] 26)).heap.size = w14.heap.size + 1 := by simp
          generalize w14.alloc (.cells #[.int .i64 gu, .int .i64 gl, .slice qat rs.length qct] 26) = w15 at hb hk hz ⊢
          have HB15 : Hid (Below w.heap.size w w15) := Lib.hid (HB14.out.trans (hb.mono HB14.out.size))
          have HZ15 : Hid (w14.heap.size ≤ w15.heap.size) := Lib.hid hb.size
          have HRk15 := Lib.hid (HRk0.out.below HB15.out (Nat.le_refl _))
          have HRy15 := Lib.hid (HRy14.out.below hb (Nat.le_refl _))
          have HKy15 := Lib.hid ((hb.block _ (lt_of_block HKy14.out)).trans HKy14.out)
          have HRs15 := Lib.hid (HRs14.out.below hb (Nat.le_refl _))
          have HKs15 := Lib.hid ((hb.block _ (lt_of_block HKs14.out)).trans HKs14.out)
          have HRt15 := Lib.hid (HRt14.out.below hb (Nat.le_refl _))
          have HBs8_15 : Hid (Below w8.heap.size w8 w15) := Lib.hid (HBs8_14.out.trans (hb.mono HBs8_14.out.size))
          have HBs12_15 : Hid (Below w12.heap.size w12 w15) := Lib.hid (HBs12_14.out.trans (hb.mono HBs12_14.out.size))
          have HBs14_15 : Hid (Below w14.heap.size w14 w15) := Lib.hid (HBs14_14.out.trans (hb.mono HBs14_14.out.size))
          have HKt15 := Lib.hid hk
          replace HZ15 : Hid (w14.heap.size < w15.heap.size) := Lib.hid (by omega)
          have HE15 := Lib.hid hz
          clear hb hk hz
          refine (vFrame_yes gu gl _ _ rs _ HRs15.out HRt15.out).mono ?_
          rintro e w16 ⟨rfl, hb⟩
          have HB16 : Hid (Below w.heap.size w w16) := Lib.hid (HB15.out.trans (hb.mono HB15.out.size))
          have HZ16 : Hid (w15.heap.size ≤ w16.heap.size) := Lib.hid hb.size
          have HRk16 := Lib.hid (HRk0.out.below HB16.out (Nat.le_refl _))
          have HRy16 := Lib.hid (HRy15.out.below hb (Nat.le_refl _))
          have HKy16 := Lib.hid ((hb.block _ (lt_of_block HKy15.out)).trans HKy15.out)
          have HRs16 := Lib.hid (HRs15.out.below hb (Nat.le_refl _))
          have HKs16 := Lib.hid ((hb.block _ (lt_of_block HKs15.out)).trans HKs15.out)
          have HRt16 := Lib.hid (HRt15.out.below hb (Nat.le_refl _))
          have HKt16 := Lib.hid ((hb.block _ (lt_of_block HKt15.out)).trans HKt15.out)
          have HBs8_16 : Hid (Below w8.heap.size w8 w16) := Lib.hid (HBs8_15.out.trans (hb.mono HBs8_15.out.size))
          have HBs12_16 : Hid (Below w12.heap.size w12 w16) := Lib.hid (HBs12_15.out.trans (hb.mono HBs12_15.out.size))
          have HBs14_16 : Hid (Below w14.heap.size w14 w16) := Lib.hid (HBs14_15.out.trans (hb.mono HBs14_15.out.size))
          clear hb
          cases t2 with
          | true =>
            obtain ⟨N2, M2, hNa, hNb, ⟨hm0, hm1, hm2, hm3, hm4, hm5⟩⟩ := hY2 rfl
            have HNA := Lib.hid hNa
            have HNB := Lib.hid hNb
            clear hY2 hNa hNb
            have hw2 : IntKind.i64.wrap (N2 - M2) = N2 - M2 := by rw [IntKind.wrap_i64]; omega
            have hq2 : q ≠ 0 := by omega
            have hq3 : (q == 0) = false := beq_eq_false_iff_ne.2 hq2
            clear cy0 cy1 cy2 fy0 fy1 fy2 lty cs0 cs1 cs2 fs0 fs1 fs2 lts
            have lty := lt_of_block HKy16.out
            obtain ⟨cy0, cy1, cy2, fy0, fy1, fy2⟩ := cell3 HKy16.out
            have lts := lt_of_block HKs16.out
            obtain ⟨cs0, cs1, cs2, fs0, fs1, fs2⟩ := cell3 HKs16.out
            go_wp2_with fail
            refine (HNA.out _ _ HRy16.out).mono ?_
            rintro e w17 ⟨rfl, hb⟩
            have HB17 : Hid (Below w.heap.size w w17) := Lib.hid (HB16.out.trans (hb.mono HB16.out.size))
            have HZ17 : Hid (w16.heap.size ≤ w17.heap.size) := Lib.hid hb.size
            have HRk17 := Lib.hid (HRk0.out.below HB17.out (Nat.le_refl _))
            have HRy17 := Lib.hid (HRy16.out.below hb (Nat.le_refl _))
            have HKy17 := Lib.hid ((hb.block _ (lt_of_block HKy16.out)).trans HKy16.out)
            have HRs17 := Lib.hid (HRs16.out.below hb (Nat.le_refl _))
            have HKs17 := Lib.hid ((hb.block _ (lt_of_block HKs16.out)).trans HKs16.out)
            have HBs8_17 : Hid (Below w8.heap.size w8 w17) := Lib.hid (HBs8_16.out.trans (hb.mono HBs8_16.out.size))
            have HBs12_17 : Hid (Below w12.heap.size w12 w17) := Lib.hid (HBs12_16.out.trans (hb.mono HBs12_16.out.size))
            clear hb
            clear cy0 cy1 cy2 fy0 fy1 fy2 lty cs0 cs1 cs2 fs0 fs1 fs2 lts
            have lty := lt_of_block HKy17.out
            obtain ⟨cy0, cy1, cy2, fy0, fy1, fy2⟩ := cell3 HKy17.out
            have lts := lt_of_block HKs17.out
            obtain ⟨cs0, cs1, cs2, fs0, fs1, fs2⟩ := cell3 HKs17.out
            go_wp2_with fail
            refine (HNB.out _ _ HRs17.out).mono ?_
            rintro e w18 ⟨rfl, hb⟩
            have HB18 : Hid (Below w.heap.size w w18) := Lib.hid (HB17.out.trans (hb.mono HB17.out.size))
            have HZ18 : Hid (w17.heap.size ≤ w18.heap.size) := Lib.hid hb.size
            have HRk18 := Lib.hid (HRk0.out.below HB18.out (Nat.le_refl _))
            have HRy18 := Lib.hid (HRy17.out.below hb (Nat.le_refl _))
            have HKy18 := Lib.hid ((hb.block _ (lt_of_block HKy17.out)).trans HKy17.out)
            have HRs18 := Lib.hid (HRs17.out.below hb (Nat.le_refl _))
            have HKs18 := Lib.hid ((hb.block _ (lt_of_block HKs17.out)).trans HKs17.out)
            have HBs8_18 : Hid (Below w8.heap.size w8 w18) := Lib.hid (HBs8_17.out.trans (hb.mono HBs8_17.out.size))
            have HBs12_18 : Hid (Below w12.heap.size w12 w18) := Lib.hid (HBs12_17.out.trans (hb.mono HBs12_17.out.size))
            clear hb
            clear cy0 cy1 cy2 fy0 fy1 fy2 lty cs0 cs1 cs2 fs0 fs1 fs2 lts
            have lty := lt_of_block HKy18.out
            obtain ⟨cy0, cy1, cy2, fy0, fy1, fy2⟩ := cell3 HKy18.out
            have lts := lt_of_block HKs18.out
            obtain ⟨cs0, cs1, cs2, fs0, fs1, fs2⟩ := cell3 HKs18.out
            go_wp2_with fail
            go_ret
            exact ⟨ret_bool (by first | (simp; done) | (simp; omega)), HB18.out⟩
          | false =>
            clear hY2
            clear cy0 cy1 cy2 fy0 fy1 fy2 lty cs0 cs1 cs2 fs0 fs1 fs2 lts
            have lty := lt_of_block HKy16.out
            obtain ⟨cy0, cy1, cy2, fy0, fy1, fy2⟩ := cell3 HKy16.out
            have lts := lt_of_block HKs16.out
            obtain ⟨cs0, cs1, cs2, fs0, fs1, fs2⟩ := cell3 HKs16.out
            go_wp2_with fail
            go_ret
            exact ⟨rfl, HB16.out⟩
    | false =>
      clear hY
      clear cx0 cx1 cx2 fx0 fx1 fx2 ltx
      have ltx := lt_of_block HKx5.out
      obtain ⟨cx0, cx1, cx2, fx0, fx1, fx2⟩ := cell3 HKx5.out
      go_wp2_with fail
      refine (drawHowOften_any _ L _ HRk5.out).mono ?_
      rintro e w6 ⟨⟨yu, yl, yv, ys, q, rfl, ho, -, hq0, hq1⟩, hb⟩
      have HB6 : Hid (Below w.heap.size w w6) := Lib.hid (HB5.out.trans (hb.mono HB5.out.size))
      have HZ6 : Hid (w5.heap.size ≤ w6.heap.size) := Lib.hid hb.size
      have HRk6 := Lib.hid (HRk0.out.below HB6.out (Nat.le_refl _))
      clear hb
      obtain ⟨qay, qcy, rfl⟩ : ∃ a c, yv = .slice a ys.length c := by obtain ⟨a, c, e, _⟩ := ho; exact ⟨a, c, e⟩
      have HRy6 := Lib.hid (ho)
      have HBs6_6 : Hid (Below w6.heap.size w6 w6) := Lib.hid (Below.refl _ _)
      clear ho
      obtain ⟨n2, b2, gu, gl, rs, t2, hS, hI, hSN, hIN, hY2⟩ := ho_same yu yl ys q
      have HS2 := Lib.hid hS
      have HI2 := Lib.hid hI
      have HSN2 := Lib.hid hSN
      have HIN2 := Lib.hid hIN
      clear hS hI hSN hIN
      have hb2 : (b2 != b2) = false := by simp
      have ht2 : (t2 != t2) = false := by simp
      have hn2 : (n2 != n2) = false := by simp
      clear cx0 cx1 cx2 fx0 fx1 fx2 ltx
      go_wp2_with fail
      have hb : Below w6.heap.size w6 (w6.alloc (.cells #[.int .i64 yu, .int .i64 yl, .slice qay ys.length qcy] 26)) := (Below.refl _ _).alloc (Nat.le_refl _) _
      have hk : (w6.alloc (.cells #[.int .i64 yu, .int .i64 yl, .slice qay ys.length qcy] 26)).heap[w6.heap.size]? = some (.cells #[.int .i64 yu, .int .i64 yl, .slice qay ys.length qcy] 26 (0, 0)) := alloc_at rfl
      have hz : (w6.alloc (.cells #[.int .i64 yu, .int .i64 yl, .slice qay ys.length qcy] 26)).heap.size = w6.heap.size + 1 := by simp
      generalize w6.alloc (.cells #[.int .i64 yu, .int .i64 yl, .slice qay ys.length qcy] 26) = w7 at hb hk hz ⊢
      have HB7 : Hid (Below w.heap.size w w7) := Lib.hid (HB6.out.trans (hb.mono HB6.out.size))
      have HZ7 : Hid (w6.heap.size ≤ w7.heap.size) := Lib.hid hb.size
      have HRk7 := Lib.hid (HRk0.out.below HB7.out (Nat.le_refl _))
      have HRy7 := Lib.hid (HRy6.out.below hb (Nat.le_refl _))
      have HBs6_7 : Hid (Below w6.heap.size w6 w7) := Lib.hid (HBs6_6.out.trans (hb.mono HBs6_6.out.size))
      have HKy7 := Lib.hid hk
      replace HZ7 : Hid (w6.heap.size < w7.heap.size) := Lib.hid (by omega)
      have HE7 := Lib.hid hz
      clear hb hk hz
      refine (HI2.out _ _ HRy7.out).mono ?_
      rintro e w8 ⟨rfl, hb⟩
      have HB8 : Hid (Below w.heap.size w w8) := Lib.hid (HB7.out.trans (hb.mono HB7.out.size))
      have HZ8 : Hid (w7.heap.size ≤ w8.heap.size) := Lib.hid hb.size
      have HRk8 := Lib.hid (HRk0.out.below HB8.out (Nat.le_refl _))
      have HRy8 := Lib.hid (HRy7.out.below hb (Nat.le_refl _))
      have HKy8 := Lib.hid ((hb.block _ (lt_of_block HKy7.out)).trans HKy7.out)
      have HBs6_8 : Hid (Below w6.heap.size w6 w8) := Lib.hid (HBs6_7.out.trans (hb.mono HBs6_7.out.size))
      clear hb
      have lty := lt_of_block HKy8.out
      obtain ⟨cy0, cy1, cy2, fy0, fy1, fy2⟩ := cell3 HKy8.out
      go_wp2_with fail
      refine (HS2.out _ _ HRy8.out).mono ?_
      rintro e w9 ⟨rfl, hb⟩
      have HB9 : Hid (Below w.heap.size w w9) := Lib.hid (HB8.out.trans (hb.mono HB8.out.size))
      have HZ9 : Hid (w8.heap.size ≤ w9.heap.size) := Lib.hid hb.size
      have HRk9 := Lib.hid (HRk0.out.below HB9.out (Nat.le_refl _))
      have HRy9 := Lib.hid (HRy8.out.below hb (Nat.le_refl _))
      have HKy9 := Lib.hid ((hb.block _ (lt_of_block HKy8.out)).trans HKy8.out)
      have HBs6_9 : Hid (Below w6.heap.size w6 w9) := Lib.hid (HBs6_8.out.trans (hb.mono HBs6_8.out.size))
      clear hb
      clear cy0 cy1 cy2 fy0 fy1 fy2 lty
      have lty := lt_of_block HKy9.out
      obtain ⟨cy0, cy1, cy2, fy0, fy1, fy2⟩ := cell3 HKy9.out
      go_wp2_with fail
      refine (HIN2.out _ _ HRy9.out).mono ?_
      rintro e w10 ⟨⟨v, rfl, ho⟩, hb⟩
      have HB10 : Hid (Below w.heap.size w w10) := Lib.hid (HB9.out.trans (hb.mono HB9.out.size))
      have HZ10 : Hid (w9.heap.size ≤ w10.heap.size) := Lib.hid hb.size
      have HRk10 := Lib.hid (HRk0.out.below HB10.out (Nat.le_refl _))
      have HRy10 := Lib.hid (HRy9.out.below hb (Nat.le_refl _))
      have HKy10 := Lib.hid ((hb.block _ (lt_of_block HKy9.out)).trans HKy9.out)
      have HBs6_10 : Hid (Below w6.heap.size w6 w10) := Lib.hid (HBs6_9.out.trans (hb.mono HBs6_9.out.size))
      clear hb
      obtain ⟨qas, qcs, rfl⟩ : ∃ a c, v = .slice a rs.length c := by obtain ⟨a, c, e, _⟩ := ho; exact ⟨a, c, e⟩
      have HRs10 := Lib.hid (ho)
      have HBs10_10 : Hid (Below w10.heap.size w10 w10) := Lib.hid (Below.refl _ _)
      clear ho
      clear cy0 cy1 cy2 fy0 fy1 fy2 lty
      have lty := lt_of_block HKy10.out
      obtain ⟨cy0, cy1, cy2, fy0, fy1, fy2⟩ := cell3 HKy10.out
      go_wp2_with fail
      have hb : Below w10.heap.size w10 (w10.alloc (.cells #[.int .i64 gu, .int .i64 gl, .slice qas rs.length qcs] 26)) := (Below.refl _ _).alloc (Nat.le_refl _) _
      have hk : (w10.alloc (.cells #[.int .i64 gu, .int .i64 gl, .slice qas rs.length qcs] 26)).heap[w10.heap.size]? = some (.cells #[.int .i64 gu, .int .i64 gl, .slice qas rs.length qcs] 26 (0, 0)) := alloc_at rfl
      have hz : (w10.alloc (.cells #[.int .i64 gu, .int .i64 gl, .slice qas rs.length qcs] 26)).heap.size = w10.heap.size + 1 := by simp
      generalize w10.alloc (.cells #[.int .i64 gu, .int .i64 gl, .slice qas rs.length qcs] 26) = w11 at hb hk hz ⊢
      have HB11 : Hid (Below w.heap.size w w11) := Lib.hid (HB10.out.trans (hb.mono HB10.out.size))
      have HZ11 : Hid (w10.heap.size ≤ w11.heap.size) := Lib.hid hb.size
      have HRk11 := Lib.hid (HRk0.out.below HB11.out (Nat.le_refl _))
      have HRy11 := Lib.hid (HRy10.out.below hb (Nat.le_refl _))
      have HKy11 := Lib.hid ((hb.block _ (lt_of_block HKy10.out)).trans HKy10.out)
      have HRs11 := Lib.hid (HRs10.out.below hb (Nat.le_refl _))
      have HBs6_11 : Hid (Below w6.heap.size w6 w11) := Lib.hid (HBs6_10.out.trans (hb.mono HBs6_10.out.size))
      have HBs10_11 : Hid (Below w10.heap.size w10 w11) := Lib.hid (HBs10_10.out.trans (hb.mono HBs10_10.out.size))
      have HKs11 := Lib.hid hk
      replace HZ11 : Hid (w10.heap.size < w11.heap.size) := Lib.hid (by omega)
      have HE11 := Lib.hid hz
      clear hb hk hz
      refine (HSN2.out _ _ HRy11.out).mono ?_
      rintro e w12 ⟨⟨v, rfl, ho⟩, hb⟩
      have HB12 : Hid (Below w.heap.size w w12) := Lib.hid (HB11.out.trans (hb.mono HB11.out.size))
      have HZ12 : Hid (w11.heap.size ≤ w12.heap.size) := Lib.hid hb.size
      have HRk12 := Lib.hid (HRk0.out.below HB12.out (Nat.le_refl _))
      have HRy12 := Lib.hid (HRy11.out.below hb (Nat.le_refl _))
      have HKy12 := Lib.hid ((hb.block _ (lt_of_block HKy11.out)).trans HKy11.out)
      have HRs12 := Lib.hid (HRs11.out.below hb (Nat.le_refl _))
      have HKs12 := Lib.hid ((hb.block _ (lt_of_block HKs11.out)).trans HKs11.out)
      have HBs6_12 : Hid (Below w6.heap.size w6 w12) := Lib.hid (HBs6_11.out.trans (hb.mono HBs6_11.out.size))
      have HBs10_12 : Hid (Below w10.heap.size w10 w12) := Lib.hid (HBs10_11.out.trans (hb.mono HBs10_11.out.size))
      clear hb
      obtain ⟨qat, qct, rfl⟩ : ∃ a c, v = .slice a rs.length c := by obtain ⟨a, c, e, _⟩ := ho; exact ⟨a, c, e⟩
      have HRt12 := Lib.hid (ho)
      have HBs12_12 : Hid (Below w12.heap.size w12 w12) := Lib.hid (Below.refl _ _)
      clear ho
      clear cy0 cy1 cy2 fy0 fy1 fy2 lty
      have lty := lt_of_block HKy12.out
      obtain ⟨cy0, cy1, cy2, fy0, fy1, fy2⟩ := cell3 HKy12.out
      have lts := lt_of_block HKs12.out
      obtain ⟨cs0, cs1, cs2, fs0, fs1, fs2⟩ := cell3 HKs12.out
      go_wp2_with fail
      have hb : Below w12.heap.size w12 (w12.alloc (.cells #[.int .i64 gu, .int .i64 gl, .slice qat rs.length qct] 26)) := (Below.refl _ _).alloc (Nat.le_refl _) _
      have hk : (w12.alloc (.cells #[.int .i64 gu, .int .i64 gl, .slice qat rs.length qct] 26)).heap[w12.heap.size]? = some (.cells #[.int .i64 gu, .int .i64 gl, .slice qat rs.length qct] 26 (0, 0)) := alloc_at rfl
      have hz : (w12.alloc (.cells #[.int .i64 gu, .int .i64 gl, .slice qat rs.length qct] 26)).heap.size = w12.heap.size + 1 := by simp
      generalize w12.alloc (.cells #[.int .i64 gu, .int .i64 gl, .slice qat rs.length qct] 26) = w13 at hb hk hz ⊢
      have HB13 : Hid (Below w.heap.size w w13) := Lib.hid (HB12.out.trans (hb.mono HB12.out.size))
      have HZ13 : Hid (w12.heap.size ≤ w13.heap.size) := Lib.hid hb.size
      have HRk13 := Lib.hid (HRk0.out.below HB13.out (Nat.le_refl _))
      have HRy13 := Lib.hid (HRy12.out.below hb (Nat.le_refl _))
      have HKy13 := Lib.hid ((hb.block _ (lt_of_block HKy12.out)).trans HKy12.out)
      have HRs13 := Lib.hid (HRs12.out.below hb (Nat.le_refl _))
      have HKs13 := Lib.hid ((hb.block _ (lt_of_block HKs12.out)).trans HKs12.out)
      have HRt13 := Lib.hid (HRt12.out.below hb (Nat.le_refl _))
      have HBs6_13 : Hid (Below w6.heap.size w6 w13) := Lib.hid (HBs6_12.out.trans (hb.mono HBs6_12.out.size))
      have HBs10_13 : Hid (Below w10.heap.size w10 w13) := Lib.hid (HBs10_12.out.trans (hb.mono HBs10_12.out.size))
      have HBs12_13 : Hid (Below w12.heap.size w12 w13) := Lib.hid (HBs12_12.out.trans (hb.mono HBs12_12.out.size))
      have HKt13 := Lib.hid hk
      replace HZ13 : Hid (w12.heap.size < w13.heap.size) := Lib.hid (by omega)
      have HE13 := Lib.hid hz
      clear hb hk hz
      refine (vFrame_yes gu gl _ _ rs _ HRs13.out HRt13.out).mono ?_
      rintro e w14 ⟨rfl, hb⟩
      have HB14 : Hid (Below w.heap.size w w14) := Lib.hid (HB13.out.trans (hb.mono HB13.out.size))
      have HZ14 : Hid (w13.heap.size ≤ w14.heap.size) := Lib.hid hb.size
      have HRk14 := Lib.hid (HRk0.out.below HB14.out (Nat.le_refl _))
      have HRy14 := Lib.hid (HRy13.out.below hb (Nat.le_refl _))
      have HKy14 := Lib.hid ((hb.block _ (lt_of_block HKy13.out)).trans HKy13.out)
      have HRs14 := Lib.hid (HRs13.out.below hb (Nat.le_refl _))
      have HKs14 := Lib.hid ((hb.block _ (lt_of_block HKs13.out)).trans HKs13.out)
      have HRt14 := Lib.hid (HRt13.out.below hb (Nat.le_refl _))
      have HKt14 := Lib.hid ((hb.block _ (lt_of_block HKt13.out)).trans HKt13.out)
      have HBs6_14 : Hid (Below w6.heap.size w6 w14) := Lib.hid (HBs6_13.out.trans (hb.mono HBs6_13.out.size))
      have HBs10_14 : Hid (Below w10.heap.size w10 w14) := Lib.hid (HBs10_13.out.trans (hb.mono HBs10_13.out.size))
      have HBs12_14 : Hid (Below w12.heap.size w12 w14) := Lib.hid (HBs12_13.out.trans (hb.mono HBs12_13.out.size))
      clear hb
      cases t2 with
      | true =>
        obtain ⟨N2, M2, hNa, hNb, ⟨hm0, hm1, hm2, hm3, hm4, hm5⟩⟩ := hY2 rfl
        have HNA := Lib.hid hNa
        have HNB := Lib.hid hNb
        clear hY2 hNa hNb
        have hw2 : IntKind.i64.wrap (N2 - M2) = N2 - M2 := by rw [IntKind.wrap_i64]; omega
        have hq2 : q ≠ 0 := by omega
        have hq3 : (q == 0) = false := beq_eq_false_iff_ne.2 hq2
        clear cy0 cy1 cy2 fy0 fy1 fy2 lty cs0 cs1 cs2 fs0 fs1 fs2 lts
        have lty := lt_of_block HKy14.out
        obtain ⟨cy0, cy1, cy2, fy0, fy1, fy2⟩ := cell3 HKy14.out
        have lts := lt_of_block HKs14.out
        obtain ⟨cs0, cs1, cs2, fs0, fs1, fs2⟩ := cell3 HKs14.out
        go_wp2_with fail
        refine (HNA.out _ _ HRy14.out).mono ?_
        rintro e w15 ⟨rfl, hb⟩
        have HB15 : Hid (Below w.heap.size w w15) := Lib.hid (HB14.out.trans (hb.mono HB14.out.size))
        have HZ15 : Hid (w14.heap.size ≤ w15.heap.size) := Lib.hid hb.size
        have HRk15 := Lib.hid (HRk0.out.below HB15.out (Nat.le_refl _))
        have HRy15 := Lib.hid (HRy14.out.below hb (Nat.le_refl _))
        have HKy15 := Lib.hid ((hb.block _ (lt_of_block HKy14.out)).trans HKy14.out)
        have HRs15 := Lib.hid (HRs14.out.below hb (Nat.le_refl _))
        have HKs15 := Lib.hid ((hb.block _ (lt_of_block HKs14.out)).trans HKs14.out)
        have HBs6_15 : Hid (Below w6.heap.size w6 w15) := Lib.hid (HBs6_14.out.trans (hb.mono HBs6_14.out.size))
        have HBs10_15 : Hid (Below w10.heap.size w10 w15) := Lib.hid (HBs10_14.out.trans (hb.mono HBs10_14.out.size))
        clear hb
        clear cy0 cy1 cy2 fy0 fy1 fy2 lty cs0 cs1 cs2 fs0 fs1 fs2 lts
        have lty := lt_of_block HKy15.out
        obtain ⟨cy0, cy1, cy2, fy0, fy1, fy2⟩ := cell3 HKy15.out
        have lts := lt_of_block HKs15.out
        obtain ⟨cs0, cs1, cs2, fs0, fs1, fs2⟩ := cell3 HKs15.out
        go_wp2_with fail
        refine (HNB.out _ _ HRs15.out).mono ?_
        rintro e w16 ⟨rfl, hb⟩
        have HB16 : Hid (Below w.heap.size w w16) := Lib.hid (HB15.out.trans (hb.mono HB15.out.size))
        have HZ16 : Hid (w15.heap.size ≤ w16.heap.size) := Lib.hid hb.size
        have HRk16 := Lib.hid (HRk0.out.below HB16.out (Nat.le_refl _))
        have HRy16 := Lib.hid (HRy15.out.below hb (Nat.le_refl _))
        have HKy16 := Lib.hid ((hb.block _ (lt_of_block HKy15.out)).trans HKy15.out)
        have HRs16 := Lib.hid (HRs15.out.below hb (Nat.le_refl _))
        have HKs16 := Lib.hid ((hb.block _ (lt_of_block HKs15.out)).trans HKs15.out)
        have HBs6_16 : Hid (Below w6.heap.size w6 w16) := Lib.hid (HBs6_15.out.trans (hb.mono HBs6_15.out.size))
        have HBs10_16 : Hid (Below w10.heap.size w10 w16) := Lib.hid (HBs10_15.out.trans (hb.mono HBs10_15.out.size))
        clear hb
        clear cy0 cy1 cy2 fy0 fy1 fy2 lty cs0 cs1 cs2 fs0 fs1 fs2 lts
        have lty := lt_of_block HKy16.out
        obtain ⟨cy0, cy1, cy2, fy0, fy1, fy2⟩ := cell3 HKy16.out
        have lts := lt_of_block HKs16.out
        obtain ⟨cs0, cs1, cs2, fs0, fs1, fs2⟩ := cell3 HKs16.out
        go_wp2_with fail
        go_ret
        exact ⟨ret_bool (by first | (simp; done) | (simp; omega)), HB16.out⟩
      | false =>
        clear hY2
        clear cy0 cy1 cy2 fy0 fy1 fy2 lty cs0 cs1 cs2 fs0 fs1 fs2 lts
        have lty := lt_of_block HKy14.out
        obtain ⟨cy0, cy1, cy2, fy0, fy1, fy2⟩ := cell3 HKy14.out
        have lts := lt_of_block HKs14.out
        obtain ⟨cs0, cs1, cs2, fs0, fs1, fs2⟩ := cell3 HKs14.out
        go_wp2_with fail
        go_ret
        exact ⟨rfl, HB14.out⟩
end Go.Proofs.Ytjkjaadcdolbhaa
