/- The law FnCarries. -/
import Derived.Test.YtjkjaadcdolbhaaDoorCrs
import Derived.Test.YtjkjaadcdolbhaaDoorDgs
import Derived.Test.YtjkjaadcdolbhaaDoorDlc
namespace Go.Proofs.YtjkjaadcdolbhaaDoor
set_option linter.unusedVariables false
open Go.RowKit
set_option linter.unusedSimpArgs false

theorem sumI_take (ps : List Int) (k : Nat) (h : k < ps.length) : sumI (ps.take (k + 1)) = sumI (ps.take k) + ps[k] := by
  rw [List.take_succ_eq_append_getElem h, sumI_app]; simp [sumI]
theorem sumI_bd : ∀ (ps : List Int), (∀ x ∈ ps, 0 ≤ x ∧ x ≤ 8) → 0 ≤ sumI ps ∧ sumI ps ≤ 8 * ps.length
  | [], _ => by simp [sumI]
  | p :: t, h => by
    have h1 := h p (List.mem_cons_self ..)
    have h2 := sumI_bd t (fun x hx => h x (List.mem_cons_of_mem _ hx))
    rw [sumI, List.length_cons]
    omega
set_option maxRecDepth 100000 in
set_option maxHeartbeats 1600000 in
theorem vSum_any (v : Value) (ps : List Int) (w : World) (h : RowsR 1 inC w v ps) (hl : ps.length ≤ 100) (hb : ∀ x ∈ ps, 0 ≤ x ∧ x ≤ 8) : Calls Tryd.prog 13 #[v] w fun e w' => e = .returned (.int .i64 (sumI ps)) ∧ w' = w := by
  have HI := Lib.hid (fun i hi => ints_at h i hi)
  have HB := Lib.hid hb
  obtain ⟨a, c, rfl⟩ := h.form
  clear h hb
  go_enter Tryd.func13, Tryd.ntmps13
  go_wp2_with fail
  go_loopw [3, 4] (fun sv iv wr => ∃ k : Nat, k ≤ ps.length ∧ iv = .int .i64 k ∧ sv = .int .i64 (sumI (ps.take k)) ∧ wr = w) (fun _ iv _ => ps.length - (intOf iv).toNat)
  case atStart => exact ⟨0, Nat.zero_le _, rfl, rfl, rfl⟩
  case round =>
    obtain ⟨k, hk, rfl, rfl, hw⟩ := hrel
    subst wr
    by_cases hlt : k < ps.length
    · obtain ⟨a0, b0, o0, c0, he0, rfl, hbl, hcell⟩ := HI.out k hlt
      injection he0 with he0 _ _
      subst he0
      have h1 := sumI_bd (ps.take k) (fun x hx => HB.out x (List.mem_of_mem_take hx))
      rw [List.length_take] at h1
      have h2 := HB.out _ (List.getElem_mem hlt)
      have HT := Lib.hid (sumI_take ps k hlt)
      have z1 : (0 : Int) ≤ (k : Int) := by omega
      have z2 : (k : Int) < (ps.length : Int) := by omega
      generalize ps[k] = x at hcell h2 HT
      generalize sumI (ps.take k) = s at h1 HT
      have hw : IntKind.i64.wrap (s + x) = s + x := by rw [IntKind.wrap_i64]; omega
      go_wp2_with fail
      go_roundw
      case rel => exact ⟨k + 1, by omega, by go_num, by rw [HT.out], by first | rfl | trivial⟩
      case measure => simp [intOf]; omega
    · obtain rfl : k = ps.length := by omega
      rw [List.take_of_length_le (Nat.le_refl _)]
      go_wp2_with fail
      go_ret
      exact ⟨rfl, rfl⟩

set_option maxRecDepth 100000 in
set_option maxHeartbeats 12800000 in
theorem lawCarries (w : World) (ad : Option Addr) (cp : Nat) (L : List UInt8) (h : SlR w (.slice ad L.length cp) (L.map fun c => .int .u8 (c.toNat : Int))) (htn : TabN w) :
    Calls Tryd.prog 3 #[.slice ad L.length cp] w fun e w' => e = .returned (.bool true) ∧ Below w.heap.size w w' := by
  have hm : L.length ≤ 9223372036854775807 := by
    obtain ⟨a, c, e, ⟨m, _⟩, _⟩ := h
    rw [List.length_map] at m
    exact m
  have HTN := Lib.hid htn
  clear htn
  have HB0 : Hid (Below w.heap.size w w) := Lib.hid (Below.refl _ _)
  have HRk0 := Lib.hid (h)
  clear h
  by_cases hbig : (65536 : Int) < (L.length : Int)
  · go_enter Tryd.func3, Tryd.ntmps3
    go_wp2_with fail
    refine (vBig_any ad L.length cp _ true (decide_eq_true hbig)).mono ?_
    rintro e w' ⟨rfl, hw⟩
    subst w'
    go_wp2_with fail
    go_ret
    exact ⟨rfl, Below.refl _ _⟩
  · go_enter Tryd.func3, Tryd.ntmps3
    go_wp2_with fail
    refine (vBig_any ad L.length cp _ false (decide_eq_false (by omega))).mono ?_
    rintro e w' ⟨rfl, hw⟩
    subst w'
    go_wp2_with fail
    refine (drawCarriesOf_any _ L _ HRk0.out).mono ?_
    rintro e w1 ⟨⟨xu, xl, xv, xs, z, rfl, ho, -, hz0, hz1⟩, hb⟩
    have HB1 : Hid (Below w.heap.size w w1) := Lib.hid (HB0.out.trans (hb.mono HB0.out.size))
    have HZ1 : Hid (w.heap.size ≤ w1.heap.size) := Lib.hid hb.size
    have HRk1 := Lib.hid (HRk0.out.below HB1.out (Nat.le_refl _))
    clear hb
    obtain ⟨qax, qcx, rfl⟩ : ∃ a c, xv = .slice a xs.length c := by obtain ⟨a, c, e, _⟩ := ho; exact ⟨a, c, e⟩
    have HRx1 := Lib.hid (ho)
    have HBs1_1 : Hid (Below w1.heap.size w1 w1) := Lib.hid (Below.refl _ _)
    clear ho
    obtain ⟨n, b, qs, hS, hI, hSK, hIK, hY⟩ := carry_same xu xl xs z ⟨hz0, hz1⟩
    have HS1 := Lib.hid hS
    have HI1 := Lib.hid hI
    have HSK1 := Lib.hid hSK
    have HIK1 := Lib.hid hIK
    clear hS hI hSK hIK hz0 hz1
    have hb1 : (b != b) = false := by simp
    have hn1 : (n != n) = false := by simp
    go_wp2_with fail
    have hb : Below w1.heap.size w1 (w1.alloc (.cells #[.int .i64 xu, .int .i64 xl, .slice qax xs.length qcx] 26)) := (Below.refl _ _).alloc (Nat.le_refl _) _
    have hk : (w1.alloc (.cells #[.int .i64 xu, .int .i64 xl, .slice qax xs.length qcx] 26)).heap[w1.heap.size]? = some (.cells #[.int .i64 xu, .int .i64 xl, .slice qax xs.length qcx] 26 (0, 0)) := alloc_at rfl
    have hz : (w1.alloc (.cells #[.int .i64 xu, .int .i64 xl, .slice qax xs.length qcx] 26)).heap.size = w1.heap.size + 1 := by simp
    generalize w1.alloc (.cells #[.int .i64 xu, .int .i64 xl, .slice qax xs.length qcx] 26) = w2 at hb hk hz ⊢
    have HB2 : Hid (Below w.heap.size w w2) := Lib.hid (HB1.out.trans (hb.mono HB1.out.size))
    have HZ2 : Hid (w1.heap.size ≤ w2.heap.size) := Lib.hid hb.size
    have HRk2 := Lib.hid (HRk0.out.below HB2.out (Nat.le_refl _))
    have HRx2 := Lib.hid (HRx1.out.below hb (Nat.le_refl _))
    have HBs1_2 : Hid (Below w1.heap.size w1 w2) := Lib.hid (HBs1_1.out.trans (hb.mono HBs1_1.out.size))
    have HKx2 := Lib.hid hk
    replace HZ2 : Hid (w1.heap.size < w2.heap.size) := Lib.hid (by omega)
    have HE2 := Lib.hid hz
    clear hb hk hz
    refine (HI1.out _ _ HRx2.out).mono ?_
    rintro e w3 ⟨rfl, hb⟩
    have HB3 : Hid (Below w.heap.size w w3) := Lib.hid (HB2.out.trans (hb.mono HB2.out.size))
    have HZ3 : Hid (w2.heap.size ≤ w3.heap.size) := Lib.hid hb.size
    have HRk3 := Lib.hid (HRk0.out.below HB3.out (Nat.le_refl _))
    have HRx3 := Lib.hid (HRx2.out.below hb (Nat.le_refl _))
    have HKx3 := Lib.hid ((hb.block _ (lt_of_block HKx2.out)).trans HKx2.out)
    have HBs1_3 : Hid (Below w1.heap.size w1 w3) := Lib.hid (HBs1_2.out.trans (hb.mono HBs1_2.out.size))
    clear hb
    have ltx := lt_of_block HKx3.out
    obtain ⟨cx0, cx1, cx2, fx0, fx1, fx2⟩ := cell3 HKx3.out
    go_wp2_with fail
    refine (HS1.out _ _ HRx3.out).mono ?_
    rintro e w4 ⟨rfl, hb⟩
    have HB4 : Hid (Below w.heap.size w w4) := Lib.hid (HB3.out.trans (hb.mono HB3.out.size))
    have HZ4 : Hid (w3.heap.size ≤ w4.heap.size) := Lib.hid hb.size
    have HRk4 := Lib.hid (HRk0.out.below HB4.out (Nat.le_refl _))
    have HRx4 := Lib.hid (HRx3.out.below hb (Nat.le_refl _))
    have HKx4 := Lib.hid ((hb.block _ (lt_of_block HKx3.out)).trans HKx3.out)
    have HBs1_4 : Hid (Below w1.heap.size w1 w4) := Lib.hid (HBs1_3.out.trans (hb.mono HBs1_3.out.size))
    clear hb
    clear cx0 cx1 cx2 fx0 fx1 fx2 ltx
    have ltx := lt_of_block HKx4.out
    obtain ⟨cx0, cx1, cx2, fx0, fx1, fx2⟩ := cell3 HKx4.out
    go_wp2_with fail
    refine (HIK1.out _ _ HRx4.out).mono ?_
    rintro e w5 ⟨⟨v, rfl, ho⟩, hb⟩
    have HB5 : Hid (Below w.heap.size w w5) := Lib.hid (HB4.out.trans (hb.mono HB4.out.size))
    have HZ5 : Hid (w4.heap.size ≤ w5.heap.size) := Lib.hid hb.size
    have HRk5 := Lib.hid (HRk0.out.below HB5.out (Nat.le_refl _))
    have HRx5 := Lib.hid (HRx4.out.below hb (Nat.le_refl _))
    have HKx5 := Lib.hid ((hb.block _ (lt_of_block HKx4.out)).trans HKx4.out)
    have HBs1_5 : Hid (Below w1.heap.size w1 w5) := Lib.hid (HBs1_4.out.trans (hb.mono HBs1_4.out.size))
    clear hb
    obtain ⟨qao, qco, rfl⟩ := ho.form
    have HRo5 := Lib.hid (ho)
    have HBs5_5 : Hid (Below w5.heap.size w5 w5) := Lib.hid (Below.refl _ _)
    clear ho
    clear cx0 cx1 cx2 fx0 fx1 fx2 ltx
    have ltx := lt_of_block HKx5.out
    obtain ⟨cx0, cx1, cx2, fx0, fx1, fx2⟩ := cell3 HKx5.out
    go_wp2_with fail
    refine (HSK1.out _ _ HRx5.out).mono ?_
    rintro e w6 ⟨⟨v, rfl, ho⟩, hb⟩
    have HB6 : Hid (Below w.heap.size w w6) := Lib.hid (HB5.out.trans (hb.mono HB5.out.size))
    have HZ6 : Hid (w5.heap.size ≤ w6.heap.size) := Lib.hid hb.size
    have HRk6 := Lib.hid (HRk0.out.below HB6.out (Nat.le_refl _))
    have HRx6 := Lib.hid (HRx5.out.below hb (Nat.le_refl _))
    have HKx6 := Lib.hid ((hb.block _ (lt_of_block HKx5.out)).trans HKx5.out)
    have HRo6 := Lib.hid (HRo5.out.below hb (Nat.le_refl _))
    have HBs1_6 : Hid (Below w1.heap.size w1 w6) := Lib.hid (HBs1_5.out.trans (hb.mono HBs1_5.out.size))
    have HBs5_6 : Hid (Below w5.heap.size w5 w6) := Lib.hid (HBs5_5.out.trans (hb.mono HBs5_5.out.size))
    clear hb
    obtain ⟨qap, qcp, rfl⟩ := ho.form
    have HRp6 := Lib.hid (ho)
    have HBs6_6 : Hid (Below w6.heap.size w6 w6) := Lib.hid (Below.refl _ _)
    clear ho
    clear cx0 cx1 cx2 fx0 fx1 fx2 ltx
    have ltx := lt_of_block HKx6.out
    obtain ⟨cx0, cx1, cx2, fx0, fx1, fx2⟩ := cell3 HKx6.out
    go_wp2_with fail
    refine (vInts_yes _ _ qs _ HRo6.out HRp6.out).mono ?_
    rintro e w7 ⟨rfl, hb⟩
    have HB7 : Hid (Below w.heap.size w w7) := Lib.hid (HB6.out.trans (hb.mono HB6.out.size))
    have HZ7 : Hid (w6.heap.size ≤ w7.heap.size) := Lib.hid hb.size
    have HRk7 := Lib.hid (HRk0.out.below HB7.out (Nat.le_refl _))
    have HRx7 := Lib.hid (HRx6.out.below hb (Nat.le_refl _))
    have HKx7 := Lib.hid ((hb.block _ (lt_of_block HKx6.out)).trans HKx6.out)
    have HRo7 := Lib.hid (HRo6.out.below hb (Nat.le_refl _))
    have HRp7 := Lib.hid (HRp6.out.below hb (Nat.le_refl _))
    have HBs1_7 : Hid (Below w1.heap.size w1 w7) := Lib.hid (HBs1_6.out.trans (hb.mono HBs1_6.out.size))
    have HBs5_7 : Hid (Below w5.heap.size w5 w7) := Lib.hid (HBs5_6.out.trans (hb.mono HBs5_6.out.size))
    have HBs6_7 : Hid (Below w6.heap.size w6 w7) := Lib.hid (HBs6_6.out.trans (hb.mono HBs6_6.out.size))
    clear hb
    cases b with
    | true =>
      obtain ⟨N, hNx, ⟨⟨hz0, hz1, hN0, hN1⟩, ⟨hn0, hn2⟩, hds, hsm, hql, hqb⟩⟩ := hY rfl
      have HNX := Lib.hid hNx
      have HQL := Lib.hid hql
      have HQB := Lib.hid hqb
      clear hY hNx hql hqb
      have hd1 := dsF_bd 20 N
      have hd2 := dsF_bd 20 z
      have hd3 := dsF_bd 20 (N + z)
      have hcb := czF_bd 20 z
      obtain ⟨da, hda⟩ : ∃ da, dsF 20 N = da := ⟨_, rfl⟩
      obtain ⟨dz, hdz⟩ : ∃ dz, dsF 20 z = dz := ⟨_, rfl⟩
      obtain ⟨dr, hdr⟩ : ∃ dr, dsF 20 (N + z) = dr := ⟨_, rfl⟩
      obtain ⟨CZ, hcz⟩ : ∃ CZ, czF 20 z = CZ := ⟨_, rfl⟩
      rw [hda] at hds hd1
      rw [hdz] at hds hd2
      rw [hdr] at hds hd3
      rw [hcz] at hsm hcb
      have HDA := Lib.hid hda
      have HDZ := Lib.hid hdz
      have HDR := Lib.hid hdr
      have HCZ := Lib.hid hcz
      have HSM := Lib.hid hsm
      have HCB := Lib.hid hcb
      have hw1 : IntKind.i64.wrap (da + dz) = da + dz := by rw [IntKind.wrap_i64]; omega
      have hw2 : IntKind.i64.wrap (9 * n) = 9 * n := by rw [IntKind.wrap_i64]; omega
      have hw3 : IntKind.i64.wrap (da + dz - 9 * n) = dr := by rw [hds, IntKind.wrap_i64]; omega
      have hw4 : IntKind.i64.wrap (N + z) = N + z := by rw [IntKind.wrap_i64]; omega
      have hw5 : (dr != dr) = false := by simp
      clear hda hdz hdr hds hcz hsm hcb
      clear cx0 cx1 cx2 fx0 fx1 fx2 ltx
      have ltx := lt_of_block HKx7.out
      obtain ⟨cx0, cx1, cx2, fx0, fx1, fx2⟩ := cell3 HKx7.out
      go_wp2_with fail
      refine (HNX.out _ _ HRx7.out).mono ?_
      rintro e w8 ⟨rfl, hb⟩
      have HB8 : Hid (Below w.heap.size w w8) := Lib.hid (HB7.out.trans (hb.mono HB7.out.size))
      have HZ8 : Hid (w7.heap.size ≤ w8.heap.size) := Lib.hid hb.size
      have HRk8 := Lib.hid (HRk0.out.below HB8.out (Nat.le_refl _))
      have HRx8 := Lib.hid (HRx7.out.below hb (Nat.le_refl _))
      have HKx8 := Lib.hid ((hb.block _ (lt_of_block HKx7.out)).trans HKx7.out)
      have HRo8 := Lib.hid (HRo7.out.below hb (Nat.le_refl _))
      have HBs1_8 : Hid (Below w1.heap.size w1 w8) := Lib.hid (HBs1_7.out.trans (hb.mono HBs1_7.out.size))
      have HBs5_8 : Hid (Below w5.heap.size w5 w8) := Lib.hid (HBs5_7.out.trans (hb.mono HBs5_7.out.size))
      clear hb
      clear cx0 cx1 cx2 fx0 fx1 fx2 ltx
      have ltx := lt_of_block HKx8.out
      obtain ⟨cx0, cx1, cx2, fx0, fx1, fx2⟩ := cell3 HKx8.out
      go_wp2_with fail
      go_loopw [15, 16] (fun cv kv wr => ∃ (k : Nat) (x c : Int), k ≤ 20 ∧ kv = .int .i64 x ∧ cv = .int .i64 c ∧ Hid (c + czF k x = CZ) ∧ (0 ≤ x ∧ x ≤ 1000000000) ∧ Hid (x < 10 ^ k) ∧ (0 ≤ c ∧ c ≤ 20) ∧ wr = w8) (fun _ kv _ => (intOf kv).toNat)
      case atStart => exact ⟨20, z, 0, Nat.le_refl _, rfl, rfl, Lib.hid (by rw [Int.zero_add]; exact HCZ.out), ⟨by omega, by omega⟩, Lib.hid (by omega), ⟨by omega, by omega⟩, rfl⟩
      case round =>
        obtain ⟨k, x, c, hk, rfl, rfl, HCC, ⟨hx0, hx1⟩, HXX, ⟨hc0, hc1⟩, hw⟩ := hrel
        subst wr
        by_cases hlt : 0 < x
        · cases k with
          | zero => have := HXX.out; simp at this; omega
          | succ k =>
            have hC := HCC.out
            unfold czF nz at hC
            have hcd := czF_bd k (x / 10)
            have HX2 : Hid (x / 10 < 10 ^ k) := Lib.hid (by have := HXX.out; rw [Int.pow_succ] at this; omega)
            have hq : x.tdiv 10 = x / 10 := Int.tdiv_eq_ediv_of_nonneg hx0
            have hr : x.tmod 10 = x % 10 := Int.tmod_eq_emod_of_nonneg hx0
            obtain ⟨y, hy⟩ : ∃ y, IntKind.i64.wrap (x.tdiv 10) = y := ⟨_, rfl⟩
            obtain ⟨u, hu⟩ : ∃ u, x.tmod 10 = u := ⟨_, rfl⟩
            have hye : y = x / 10 := by rw [← hy, hq, IntKind.wrap_i64]; omega
            have hue : u = x % 10 := by rw [← hu, hr]
            rw [← hue, ← hye] at hC
            rw [← hye] at hcd
            have HY := Lib.hid hye
            have hub : 0 ≤ u ∧ u ≤ 9 := by omega
            have hyb : 0 ≤ y ∧ y < x := by omega
            have hwc : IntKind.i64.wrap (c + 1) = c + 1 := by rw [IntKind.wrap_i64]; omega
            clear hq hr hye hue
            by_cases hp : 0 < u
            · rw [if_pos hp] at hC
              have HC2 : Hid (c + 1 + czF k y = CZ) := Lib.hid (by omega)
              have HLE : Hid (c + 1 ≤ 20) := Lib.hid (by have := HCB.out; omega)
              clear hC hcd
              go_wp2_with fail
              go_roundw
              case rel => exact ⟨k, y, c + 1, by omega, by first | rfl | rw [hy] | (rw [← hy, IntKind.wrap_i64]), by first | rfl | rw [hwc], HC2, by have := HY.out; omega, by rw [HY.out]; exact HX2, ⟨by omega, HLE.out⟩, by first | rfl | trivial⟩
              case measure => simp [intOf]; omega
            · rw [if_neg hp, Int.zero_add] at hC
              have HC2 : Hid (c + czF k y = CZ) := Lib.hid hC
              clear hC hcd
              go_wp2_with fail
              go_roundw
              case rel => exact ⟨k, y, c, by omega, by first | rfl | rw [hy] | (rw [← hy, IntKind.wrap_i64]), rfl, HC2, by have := HY.out; omega, by rw [HY.out]; exact HX2, ⟨hc0, hc1⟩, by first | rfl | trivial⟩
              case measure => simp [intOf]; omega
        · obtain rfl : x = 0 := by omega
          have hC := HCC.out
          rw [czF_zero, Int.add_zero] at hC
          subst hC
          have hw6 : (c != c) = false := by simp
          go_wp2_with fail
          refine (vDigitSum_any N _ (by omega) (by omega)).mono ?_
          rintro e w' ⟨rfl, hw⟩
          subst w'
          go_wp2_with fail
          refine (vDigitSum_any z _ (by omega) (by omega)).mono ?_
          rintro e w' ⟨rfl, hw⟩
          subst w'
          rw [HDA.out, HDZ.out]
          go_wp2_with fail
          refine (vDigitSum_any (N + z) _ (by omega) (by omega)).mono ?_
          rintro e w' ⟨rfl, hw⟩
          subst w'
          rw [HDR.out]
          go_wp2_with fail
          refine (vSum_any _ qs _ HRo8.out (by have := HQL.out; omega) HQB.out).mono ?_
          rintro e w' ⟨rfl, hw⟩
          subst w'
          rw [HSM.out]
          go_wp2_with fail
          refine (drawLongestCarry_any _ L _ HRk8.out).mono ?_
          rintro e w9 ⟨⟨yu, yl, yv, ys, q, rfl, ho, -⟩, hb⟩
          have HB9 : Hid (Below w.heap.size w w9) := Lib.hid (HB8.out.trans (hb.mono HB8.out.size))
          have HZ9 : Hid (w8.heap.size ≤ w9.heap.size) := Lib.hid hb.size
          have HRk9 := Lib.hid (HRk0.out.below HB9.out (Nat.le_refl _))
          clear hb
          obtain ⟨qay, qcy, rfl⟩ : ∃ a c, yv = .slice a ys.length c := by obtain ⟨a, c, e, _⟩ := ho; exact ⟨a, c, e⟩
          have HRy9 := Lib.hid (ho)
          have HBs9_9 : Hid (Below w9.heap.size w9 w9) := Lib.hid (Below.refl _ _)
          clear ho
          obtain ⟨n2, b2, hS, hI, hY2⟩ := long_same yu yl ys q
          have HS2 := Lib.hid hS
          have HI2 := Lib.hid hI
          clear hS hI
          have hb2 : (b2 != b2) = false := by simp
          have hn2 : (n2 != n2) = false := by simp
          clear cx0 cx1 cx2 fx0 fx1 fx2 ltx
          go_wp2_with fail
          have hb : Below w9.heap.size w9 (w9.alloc (.cells #[.int .i64 yu, .int .i64 yl, .slice qay ys.length qcy] 26)) := (Below.refl _ _).alloc (Nat.le_refl _) _
          have hk : (w9.alloc (.cells #[.int .i64 yu, .int .i64 yl, .slice qay ys.length qcy] 26)).heap[w9.heap.size]? = some (.cells #[.int .i64 yu, .int .i64 yl, .slice qay ys.length qcy] 26 (0, 0)) := alloc_at rfl
          have hz : (w9.alloc (.cells #[.int .i64 yu, .int .i64 yl, .slice qay ys.length qcy] 26)).heap.size = w9.heap.size + 1 := by simp
          generalize w9.alloc (.cells #[.int .i64 yu, .int .i64 yl, .slice qay ys.length qcy] 26) = w10 at hb hk hz ⊢
          have HB10 : Hid (Below w.heap.size w w10) := Lib.hid (HB9.out.trans (hb.mono HB9.out.size))
          have HZ10 : Hid (w9.heap.size ≤ w10.heap.size) := Lib.hid hb.size
          have HRk10 := Lib.hid (HRk0.out.below HB10.out (Nat.le_refl _))
          have HRy10 := Lib.hid (HRy9.out.below hb (Nat.le_refl _))
          have HBs9_10 : Hid (Below w9.heap.size w9 w10) := Lib.hid (HBs9_9.out.trans (hb.mono HBs9_9.out.size))
          have HKy10 := Lib.hid hk
          replace HZ10 : Hid (w9.heap.size < w10.heap.size) := Lib.hid (by omega)
          have HE10 := Lib.hid hz
          clear hb hk hz
          refine (HI2.out _ _ HRy10.out).mono ?_
          rintro e w11 ⟨rfl, hb⟩
          have HB11 : Hid (Below w.heap.size w w11) := Lib.hid (HB10.out.trans (hb.mono HB10.out.size))
          have HZ11 : Hid (w10.heap.size ≤ w11.heap.size) := Lib.hid hb.size
          have HRk11 := Lib.hid (HRk0.out.below HB11.out (Nat.le_refl _))
          have HRy11 := Lib.hid (HRy10.out.below hb (Nat.le_refl _))
          have HKy11 := Lib.hid ((hb.block _ (lt_of_block HKy10.out)).trans HKy10.out)
          have HBs9_11 : Hid (Below w9.heap.size w9 w11) := Lib.hid (HBs9_10.out.trans (hb.mono HBs9_10.out.size))
          clear hb
          have lty := lt_of_block HKy11.out
          obtain ⟨cy0, cy1, cy2, fy0, fy1, fy2⟩ := cell3 HKy11.out
          go_wp2_with fail
          refine (HS2.out _ _ HRy11.out).mono ?_
          rintro e w12 ⟨rfl, hb⟩
          have HB12 : Hid (Below w.heap.size w w12) := Lib.hid (HB11.out.trans (hb.mono HB11.out.size))
          have HZ12 : Hid (w11.heap.size ≤ w12.heap.size) := Lib.hid hb.size
          have HRk12 := Lib.hid (HRk0.out.below HB12.out (Nat.le_refl _))
          have HRy12 := Lib.hid (HRy11.out.below hb (Nat.le_refl _))
          have HKy12 := Lib.hid ((hb.block _ (lt_of_block HKy11.out)).trans HKy11.out)
          have HBs9_12 : Hid (Below w9.heap.size w9 w12) := Lib.hid (HBs9_11.out.trans (hb.mono HBs9_11.out.size))
          clear hb
          cases b2 with
          | true =>
            obtain ⟨rs, hAd, hR1, hR2, hdf, hl8⟩ := hY2 rfl
            have HAD := Lib.hid hAd
            have HR1 := Lib.hid hR1
            have HR2 := Lib.hid hR2
            have HDF := Lib.hid hdf
            clear hY2 hAd hR1 hR2 hdf
            clear cy0 cy1 cy2 fy0 fy1 fy2 lty
            have lty := lt_of_block HKy12.out
            obtain ⟨cy0, cy1, cy2, fy0, fy1, fy2⟩ := cell3 HKy12.out
            go_wp2_with fail
            refine (HAD.out _ _ HRy12.out).mono ?_
            rintro e w13 ⟨⟨v, rfl, ho⟩, hb⟩
            have HB13 : Hid (Below w.heap.size w w13) := Lib.hid (HB12.out.trans (hb.mono HB12.out.size))
            have HZ13 : Hid (w12.heap.size ≤ w13.heap.size) := Lib.hid hb.size
            have HRk13 := Lib.hid (HRk0.out.below HB13.out (Nat.le_refl _))
            have HRy13 := Lib.hid (HRy12.out.below hb (Nat.le_refl _))
            have HKy13 := Lib.hid ((hb.block _ (lt_of_block HKy12.out)).trans HKy12.out)
            have HBs9_13 : Hid (Below w9.heap.size w9 w13) := Lib.hid (HBs9_12.out.trans (hb.mono HBs9_12.out.size))
            clear hb
            obtain ⟨qas, qcs, rfl⟩ : ∃ a c, v = .slice a rs.length c := by obtain ⟨a, c, e, _⟩ := ho; exact ⟨a, c, e⟩
            have HRs13 := Lib.hid (ho)
            have HBs13_13 : Hid (Below w13.heap.size w13 w13) := Lib.hid (Below.refl _ _)
            clear ho
            clear cy0 cy1 cy2 fy0 fy1 fy2 lty
            have lty := lt_of_block HKy13.out
            obtain ⟨cy0, cy1, cy2, fy0, fy1, fy2⟩ := cell3 HKy13.out
            go_wp2_with fail
            have hb : Below w13.heap.size w13 (w13.alloc (.cells #[.int .i64 yu, .int .i64 yl, .slice qas rs.length qcs] 26)) := (Below.refl _ _).alloc (Nat.le_refl _) _
            have hk : (w13.alloc (.cells #[.int .i64 yu, .int .i64 yl, .slice qas rs.length qcs] 26)).heap[w13.heap.size]? = some (.cells #[.int .i64 yu, .int .i64 yl, .slice qas rs.length qcs] 26 (0, 0)) := alloc_at rfl
            have hz : (w13.alloc (.cells #[.int .i64 yu, .int .i64 yl, .slice qas rs.length qcs] 26)).heap.size = w13.heap.size + 1 := by simp
            generalize w13.alloc (.cells #[.int .i64 yu, .int .i64 yl, .slice qas rs.length qcs] 26) = w14 at hb hk hz ⊢
            have HB14 : Hid (Below w.heap.size w w14) := Lib.hid (HB13.out.trans (hb.mono HB13.out.size))
            have HZ14 : Hid (w13.heap.size ≤ w14.heap.size) := Lib.hid hb.size
            have HRk14 := Lib.hid (HRk0.out.below HB14.out (Nat.le_refl _))
            have HRy14 := Lib.hid (HRy13.out.below hb (Nat.le_refl _))
            have HKy14 := Lib.hid ((hb.block _ (lt_of_block HKy13.out)).trans HKy13.out)
            have HRs14 := Lib.hid (HRs13.out.below hb (Nat.le_refl _))
            have HBs9_14 : Hid (Below w9.heap.size w9 w14) := Lib.hid (HBs9_13.out.trans (hb.mono HBs9_13.out.size))
            have HBs13_14 : Hid (Below w13.heap.size w13 w14) := Lib.hid (HBs13_13.out.trans (hb.mono HBs13_13.out.size))
            have HKs14 := Lib.hid hk
            replace HZ14 : Hid (w13.heap.size < w14.heap.size) := Lib.hid (by omega)
            have HE14 := Lib.hid hz
            clear hb hk hz
            have HBL := Lib.hid HB14.out
            have HKY := Lib.hid HKy14.out
            have HKS0 := Lib.hid HKs14.out
            have HRY := Lib.hid HRy14.out
            have HRS := Lib.hid HRs14.out
            clear cy0 cy1 cy2 fy0 fy1 fy2 lty
            have lty := lt_of_block HKy14.out
            obtain ⟨cy0, cy1, cy2, fy0, fy1, fy2⟩ := cell3 HKy14.out
            have lts := lt_of_block HKs14.out
            obtain ⟨cs0, cs1, cs2, fs0, fs1, fs2⟩ := cell3 HKs14.out
            try go_wp2_with fail
            go_loopw [25, 26] (fun cv iv w70 => ∃ j : Nat, iv = .int .i64 j ∧ cv = .int .i64 (dfC ys rs j) ∧ j ≤ ys.length ∧ Below w14.heap.size w14 w70) (fun _ iv _ => ys.length - (intOf iv).toNat)
            case atStart => exact ⟨0, rfl, rfl, Nat.zero_le _, Below.refl _ _⟩
            case round =>
              rename World => w70
              obtain ⟨j, rfl, rfl, hj, hb⟩ := hrel
              have HBJ := Lib.hid hb
              have hky := (hb.block _ (lt_of_block HKY.out)).trans HKY.out
              have hks := (hb.block _ (lt_of_block HKS0.out)).trans HKS0.out
              have hry := HRY.out.below hb (Nat.le_refl _)
              have hrs := HRS.out.below hb (Nat.le_refl _)
              have hbw := HBL.out.trans (hb.mono HBL.out.size)
              have hdb := dfC_bd ys rs j
              have HSTEP : Hid (dfC ys rs (j + 1) = dfC ys rs j + (if vAt ys j = vAt rs j then 0 else 1)) := Lib.hid rfl
              generalize hdj : dfC ys rs j = dj at hdb HSTEP
              have HDJ := Lib.hid hdj
              clear hdj
              by_cases hlt : j < ys.length
              · have HV1 := Lib.hid (HR1.out j hlt)
                have HV2 := Lib.hid (HR2.out j hlt)
                have z2 : (j : Int) < (ys.length : Int) := by omega
                generalize vAt ys j = va at HV1 HSTEP
                generalize vAt rs j = vb at HV2 HSTEP
                have hw : IntKind.i64.wrap (dj + 1) = dj + 1 := by rw [IntKind.wrap_i64]; omega
                have HB70 : Hid (Below w.heap.size w w70) := Lib.hid hbw
                have HRk70 := Lib.hid (HRk0.out.below HB70.out (Nat.le_refl _))
                have HKy70 := Lib.hid (hky)
                have HKs70 := Lib.hid (hks)
                have HRy70 := Lib.hid (hry)
                have HBs70_70 : Hid (Below w70.heap.size w70 w70) := Lib.hid (Below.refl _ _)
                have HRs70 := Lib.hid (hrs)
                clear hb hky hks hry hrs hbw
                have lty := lt_of_block HKy70.out
                obtain ⟨cy0, cy1, cy2, fy0, fy1, fy2⟩ := cell3 HKy70.out
                have lts := lt_of_block HKs70.out
                obtain ⟨cs0, cs1, cs2, fs0, fs1, fs2⟩ := cell3 HKs70.out
                go_wp2_with fail
                refine (HV1.out _ _ HRy70.out).mono ?_
                rintro e w71 ⟨rfl, hb⟩
                have HB71 : Hid (Below w.heap.size w w71) := Lib.hid (HB70.out.trans (hb.mono HB70.out.size))
                have HZ71 : Hid (w70.heap.size ≤ w71.heap.size) := Lib.hid hb.size
                have HRk71 := Lib.hid (HRk0.out.below HB71.out (Nat.le_refl _))
                have HKy71 := Lib.hid ((hb.block _ (lt_of_block HKy70.out)).trans HKy70.out)
                have HKs71 := Lib.hid ((hb.block _ (lt_of_block HKs70.out)).trans HKs70.out)
                have HRy71 := Lib.hid (HRy70.out.below hb (Nat.le_refl _))
                have HRs71 := Lib.hid (HRs70.out.below hb (Nat.le_refl _))
                have HBs70_71 : Hid (Below w70.heap.size w70 w71) := Lib.hid (HBs70_70.out.trans (hb.mono HBs70_70.out.size))
                clear hb
                clear cy0 cy1 cy2 fy0 fy1 fy2 lty cs0 cs1 cs2 fs0 fs1 fs2 lts
                have lty := lt_of_block HKy71.out
                obtain ⟨cy0, cy1, cy2, fy0, fy1, fy2⟩ := cell3 HKy71.out
                have lts := lt_of_block HKs71.out
                obtain ⟨cs0, cs1, cs2, fs0, fs1, fs2⟩ := cell3 HKs71.out
                go_wp2_with fail
                refine (HV2.out _ _ HRs71.out).mono ?_
                rintro e w72 ⟨rfl, hb⟩
                have HB72 : Hid (Below w.heap.size w w72) := Lib.hid (HB71.out.trans (hb.mono HB71.out.size))
                have HZ72 : Hid (w71.heap.size ≤ w72.heap.size) := Lib.hid hb.size
                have HRk72 := Lib.hid (HRk0.out.below HB72.out (Nat.le_refl _))
                have HKy72 := Lib.hid ((hb.block _ (lt_of_block HKy71.out)).trans HKy71.out)
                have HKs72 := Lib.hid ((hb.block _ (lt_of_block HKs71.out)).trans HKs71.out)
                have HRy72 := Lib.hid (HRy71.out.below hb (Nat.le_refl _))
                have HRs72 := Lib.hid (HRs71.out.below hb (Nat.le_refl _))
                have HBs70_72 : Hid (Below w70.heap.size w70 w72) := Lib.hid (HBs70_71.out.trans (hb.mono HBs70_71.out.size))
                clear hb
                by_cases he : va = vb
                · subst he
                  have hee : (va != va) = false := by simp
                  clear cy0 cy1 cy2 fy0 fy1 fy2 lty cs0 cs1 cs2 fs0 fs1 fs2 lts
                  have lty := lt_of_block HKy72.out
                  obtain ⟨cy0, cy1, cy2, fy0, fy1, fy2⟩ := cell3 HKy72.out
                  have lts := lt_of_block HKs72.out
                  obtain ⟨cs0, cs1, cs2, fs0, fs1, fs2⟩ := cell3 HKs72.out
                  go_wp2_with fail
                  go_roundw
                  case rel => exact ⟨j + 1, by go_num, by rw [HSTEP.out]; simp, by omega, HBJ.out.trans (HBs70_72.out.mono HBJ.out.size)⟩
                  case measure => simp [intOf]; omega
                · have hee : (va != vb) = true := by simp [he]
                  clear cy0 cy1 cy2 fy0 fy1 fy2 lty cs0 cs1 cs2 fs0 fs1 fs2 lts
                  have lty := lt_of_block HKy72.out
                  obtain ⟨cy0, cy1, cy2, fy0, fy1, fy2⟩ := cell3 HKy72.out
                  have lts := lt_of_block HKs72.out
                  obtain ⟨cs0, cs1, cs2, fs0, fs1, fs2⟩ := cell3 HKs72.out
                  go_wp2_with fail
                  go_roundw
                  case rel => exact ⟨j + 1, by go_num, by rw [HSTEP.out, if_neg he], by omega, HBJ.out.trans (HBs70_72.out.mono HBJ.out.size)⟩
                  case measure => simp [intOf]; omega
              · obtain rfl : j = ys.length := by omega
                have z2 : ¬ ((ys.length : Int) < (ys.length : Int)) := by omega
                have hjn : dj = n2 := by rw [← HDJ.out]; exact HDF.out
                subst hjn
                have HB71 : Hid (Below w.heap.size w w70) := Lib.hid hbw
                have HRk71 := Lib.hid (HRk0.out.below HB71.out (Nat.le_refl _))
                have HKy71 := Lib.hid (hky)
                clear hb hky hks hry hrs hbw
                have lty := lt_of_block HKy71.out
                obtain ⟨cy0, cy1, cy2, fy0, fy1, fy2⟩ := cell3 HKy71.out
                go_wp2_with fail
                refine (drawKindOfAdd_any _ L _ HRk71.out).mono ?_
                rintro e w72 ⟨⟨kv, kd, rfl⟩, hb⟩
                have HB72 : Hid (Below w.heap.size w w72) := Lib.hid (HB71.out.trans (hb.mono HB71.out.size))
                have HZ72 : Hid (w70.heap.size ≤ w72.heap.size) := Lib.hid hb.size
                have HRk72 := Lib.hid (HRk0.out.below HB72.out (Nat.le_refl _))
                clear hb
                obtain ⟨ks, kb, hKS, hKI⟩ := kind_same kv kd
                have HKS := Lib.hid hKS
                have HKI := Lib.hid (hKI _ (tabn_below HTN.out HB72.out))
                clear hKS hKI
                have hks1 : (!ks.toList == ks.toList) = false := by simp
                have hks2 : (ks.toList == ks.toList) = true := by simp
                have hkb1 : (kb == kb) = true := by simp
                clear cy0 cy1 cy2 fy0 fy1 fy2 lty
                go_wp2_with fail
                refine (HKI.out).mono ?_
                rintro e w73 ⟨rfl, hb⟩
                have HB73 : Hid (Below w.heap.size w w73) := Lib.hid (HB72.out.trans (hb.mono HB72.out.size))
                have HZ73 : Hid (w72.heap.size ≤ w73.heap.size) := Lib.hid hb.size
                have HRk73 := Lib.hid (HRk0.out.below HB73.out (Nat.le_refl _))
                clear hb
                go_wp2_with fail
                refine (HKS.out _).mono ?_
                rintro e w74 ⟨rfl, hb⟩
                have HB74 : Hid (Below w.heap.size w w74) := Lib.hid (HB73.out.trans (hb.mono HB73.out.size))
                have HZ74 : Hid (w73.heap.size ≤ w74.heap.size) := Lib.hid hb.size
                have HRk74 := Lib.hid (HRk0.out.below HB74.out (Nat.le_refl _))
                clear hb
                go_wp2_with fail
                go_ret
                exact ⟨ret_bool (by first | (simp; done) | rfl), HB74.out⟩
          | false =>
            clear hY2
            clear cy0 cy1 cy2 fy0 fy1 fy2 lty
            have lty := lt_of_block HKy12.out
            obtain ⟨cy0, cy1, cy2, fy0, fy1, fy2⟩ := cell3 HKy12.out
            go_wp2_with fail
            refine (drawKindOfAdd_any _ L _ HRk12.out).mono ?_
            rintro e w13 ⟨⟨kv, kd, rfl⟩, hb⟩
            have HB13 : Hid (Below w.heap.size w w13) := Lib.hid (HB12.out.trans (hb.mono HB12.out.size))
            have HZ13 : Hid (w12.heap.size ≤ w13.heap.size) := Lib.hid hb.size
            have HRk13 := Lib.hid (HRk0.out.below HB13.out (Nat.le_refl _))
            have HRy13 := Lib.hid (HRy12.out.below hb (Nat.le_refl _))
            have HKy13 := Lib.hid ((hb.block _ (lt_of_block HKy12.out)).trans HKy12.out)
            have HBs9_13 : Hid (Below w9.heap.size w9 w13) := Lib.hid (HBs9_12.out.trans (hb.mono HBs9_12.out.size))
            clear hb
            obtain ⟨ks, kb, hKS, hKI⟩ := kind_same kv kd
            have HKS := Lib.hid hKS
            have HKI := Lib.hid (hKI _ (tabn_below HTN.out HB13.out))
            clear hKS hKI
            have hks1 : (!ks.toList == ks.toList) = false := by simp
            have hks2 : (ks.toList == ks.toList) = true := by simp
            have hkb1 : (kb == kb) = true := by simp
            clear cy0 cy1 cy2 fy0 fy1 fy2 lty
            have lty := lt_of_block HKy13.out
            obtain ⟨cy0, cy1, cy2, fy0, fy1, fy2⟩ := cell3 HKy13.out
            go_wp2_with fail
            refine (HKI.out).mono ?_
            rintro e w14 ⟨rfl, hb⟩
            have HB14 : Hid (Below w.heap.size w w14) := Lib.hid (HB13.out.trans (hb.mono HB13.out.size))
            have HZ14 : Hid (w13.heap.size ≤ w14.heap.size) := Lib.hid hb.size
            have HRk14 := Lib.hid (HRk0.out.below HB14.out (Nat.le_refl _))
            have HRy14 := Lib.hid (HRy13.out.below hb (Nat.le_refl _))
            have HKy14 := Lib.hid ((hb.block _ (lt_of_block HKy13.out)).trans HKy13.out)
            have HBs9_14 : Hid (Below w9.heap.size w9 w14) := Lib.hid (HBs9_13.out.trans (hb.mono HBs9_13.out.size))
            clear hb
            clear cy0 cy1 cy2 fy0 fy1 fy2 lty
            have lty := lt_of_block HKy14.out
            obtain ⟨cy0, cy1, cy2, fy0, fy1, fy2⟩ := cell3 HKy14.out
            go_wp2_with fail
            refine (HKS.out _).mono ?_
            rintro e w15 ⟨rfl, hb⟩
            have HB15 : Hid (Below w.heap.size w w15) := Lib.hid (HB14.out.trans (hb.mono HB14.out.size))
            have HZ15 : Hid (w14.heap.size ≤ w15.heap.size) := Lib.hid hb.size
            have HRk15 := Lib.hid (HRk0.out.below HB15.out (Nat.le_refl _))
            have HRy15 := Lib.hid (HRy14.out.below hb (Nat.le_refl _))
            have HKy15 := Lib.hid ((hb.block _ (lt_of_block HKy14.out)).trans HKy14.out)
            have HBs9_15 : Hid (Below w9.heap.size w9 w15) := Lib.hid (HBs9_14.out.trans (hb.mono HBs9_14.out.size))
            clear hb
            clear cy0 cy1 cy2 fy0 fy1 fy2 lty
            have lty := lt_of_block HKy15.out
            obtain ⟨cy0, cy1, cy2, fy0, fy1, fy2⟩ := cell3 HKy15.out
            go_wp2_with fail
            go_ret
            exact ⟨ret_bool (by first | (simp; done) | rfl), HB15.out⟩
    | false =>
      clear hY
      clear cx0 cx1 cx2 fx0 fx1 fx2 ltx
      have ltx := lt_of_block HKx7.out
      obtain ⟨cx0, cx1, cx2, fx0, fx1, fx2⟩ := cell3 HKx7.out
      go_wp2_with fail
      refine (drawLongestCarry_any _ L _ HRk7.out).mono ?_
      rintro e w8 ⟨⟨yu, yl, yv, ys, q, rfl, ho, -⟩, hb⟩
      have HB8 : Hid (Below w.heap.size w w8) := Lib.hid (HB7.out.trans (hb.mono HB7.out.size))
      have HZ8 : Hid (w7.heap.size ≤ w8.heap.size) := Lib.hid hb.size
      have HRk8 := Lib.hid (HRk0.out.below HB8.out (Nat.le_refl _))
      clear hb
      obtain ⟨qay, qcy, rfl⟩ : ∃ a c, yv = .slice a ys.length c := by obtain ⟨a, c, e, _⟩ := ho; exact ⟨a, c, e⟩
      have HRy8 := Lib.hid (ho)
      have HBs8_8 : Hid (Below w8.heap.size w8 w8) := Lib.hid (Below.refl _ _)
      clear ho
      obtain ⟨n2, b2, hS, hI, hY2⟩ := long_same yu yl ys q
      have HS2 := Lib.hid hS
      have HI2 := Lib.hid hI
      clear hS hI
      have hb2 : (b2 != b2) = false := by simp
      have hn2 : (n2 != n2) = false := by simp
      clear cx0 cx1 cx2 fx0 fx1 fx2 ltx
      go_wp2_with fail
      have hb : Below w8.heap.size w8 (w8.alloc (.cells #[.int .i64 yu, .int .i64 yl, .slice qay ys.length qcy] 26)) := (Below.refl _ _).alloc (Nat.le_refl _) _
      have hk : (w8.alloc (.cells #[.int .i64 yu, .int .i64 yl, .slice qay ys.length qcy] 26)).heap[w8.heap.size]? = some (.cells #[.int .i64 yu, .int .i64 yl, .slice qay ys.length qcy] 26 (0, 0)) := alloc_at rfl
      have hz : (w8.alloc (.cells #[.int .i64 yu, .int .i64 yl, .slice qay ys.length qcy] 26)).heap.size = w8.heap.size + 1 := by simp
      generalize w8.alloc (.cells #[.int .i64 yu, .int .i64 yl, .slice qay ys.length qcy] 26) = w9 at hb hk hz ⊢
      have HB9 : Hid (Below w.heap.size w w9) := Lib.hid (HB8.out.trans (hb.mono HB8.out.size))
      have HZ9 : Hid (w8.heap.size ≤ w9.heap.size) := Lib.hid hb.size
      have HRk9 := Lib.hid (HRk0.out.below HB9.out (Nat.le_refl _))
      have HRy9 := Lib.hid (HRy8.out.below hb (Nat.le_refl _))
      have HBs8_9 : Hid (Below w8.heap.size w8 w9) := Lib.hid (HBs8_8.out.trans (hb.mono HBs8_8.out.size))
      have HKy9 := Lib.hid hk
      replace HZ9 : Hid (w8.heap.size < w9.heap.size) := Lib.hid (by omega)
      have HE9 := Lib.hid hz
      clear hb hk hz
      refine (HI2.out _ _ HRy9.out).mono ?_
      rintro e w10 ⟨rfl, hb⟩
      have HB10 : Hid (Below w.heap.size w w10) := Lib.hid (HB9.out.trans (hb.mono HB9.out.size))
      have HZ10 : Hid (w9.heap.size ≤ w10.heap.size) := Lib.hid hb.size
      have HRk10 := Lib.hid (HRk0.out.below HB10.out (Nat.le_refl _))
      have HRy10 := Lib.hid (HRy9.out.below hb (Nat.le_refl _))
      have HKy10 := Lib.hid ((hb.block _ (lt_of_block HKy9.out)).trans HKy9.out)
      have HBs8_10 : Hid (Below w8.heap.size w8 w10) := Lib.hid (HBs8_9.out.trans (hb.mono HBs8_9.out.size))
      clear hb
      have lty := lt_of_block HKy10.out
      obtain ⟨cy0, cy1, cy2, fy0, fy1, fy2⟩ := cell3 HKy10.out
      go_wp2_with fail
      refine (HS2.out _ _ HRy10.out).mono ?_
      rintro e w11 ⟨rfl, hb⟩
      have HB11 : Hid (Below w.heap.size w w11) := Lib.hid (HB10.out.trans (hb.mono HB10.out.size))
      have HZ11 : Hid (w10.heap.size ≤ w11.heap.size) := Lib.hid hb.size
      have HRk11 := Lib.hid (HRk0.out.below HB11.out (Nat.le_refl _))
      have HRy11 := Lib.hid (HRy10.out.below hb (Nat.le_refl _))
      have HKy11 := Lib.hid ((hb.block _ (lt_of_block HKy10.out)).trans HKy10.out)
      have HBs8_11 : Hid (Below w8.heap.size w8 w11) := Lib.hid (HBs8_10.out.trans (hb.mono HBs8_10.out.size))
      clear hb
      cases b2 with
      | true =>
        obtain ⟨rs, hAd, hR1, hR2, hdf, hl8⟩ := hY2 rfl
        have HAD := Lib.hid hAd
        have HR1 := Lib.hid hR1
        have HR2 := Lib.hid hR2
        have HDF := Lib.hid hdf
        clear hY2 hAd hR1 hR2 hdf
        clear cy0 cy1 cy2 fy0 fy1 fy2 lty
        have lty := lt_of_block HKy11.out
        obtain ⟨cy0, cy1, cy2, fy0, fy1, fy2⟩ := cell3 HKy11.out
        go_wp2_with fail
        refine (HAD.out _ _ HRy11.out).mono ?_
        rintro e w12 ⟨⟨v, rfl, ho⟩, hb⟩
        have HB12 : Hid (Below w.heap.size w w12) := Lib.hid (HB11.out.trans (hb.mono HB11.out.size))
        have HZ12 : Hid (w11.heap.size ≤ w12.heap.size) := Lib.hid hb.size
        have HRk12 := Lib.hid (HRk0.out.below HB12.out (Nat.le_refl _))
        have HRy12 := Lib.hid (HRy11.out.below hb (Nat.le_refl _))
        have HKy12 := Lib.hid ((hb.block _ (lt_of_block HKy11.out)).trans HKy11.out)
        have HBs8_12 : Hid (Below w8.heap.size w8 w12) := Lib.hid (HBs8_11.out.trans (hb.mono HBs8_11.out.size))
        clear hb
        obtain ⟨qas, qcs, rfl⟩ : ∃ a c, v = .slice a rs.length c := by obtain ⟨a, c, e, _⟩ := ho; exact ⟨a, c, e⟩
        have HRs12 := Lib.hid (ho)
        have HBs12_12 : Hid (Below w12.heap.size w12 w12) := Lib.hid (Below.refl _ _)
        clear ho
        clear cy0 cy1 cy2 fy0 fy1 fy2 lty
        have lty := lt_of_block HKy12.out
        obtain ⟨cy0, cy1, cy2, fy0, fy1, fy2⟩ := cell3 HKy12.out
        go_wp2_with fail
        have hb : Below w12.heap.size w12 (w12.alloc (.cells #[.int .i64 yu, .int .i64 yl, .slice qas rs.length qcs] 26)) := (Below.refl _ _).alloc (Nat.le_refl _) _
        have hk : (w12.alloc (.cells #[.int .i64 yu, .int .i64 yl, .slice qas rs.length qcs] 26)).heap[w12.heap.size]? = some (.cells #[.int .i64 yu, .int .i64 yl, .slice qas rs.length qcs] 26 (0, 0)) := alloc_at rfl
        have hz : (w12.alloc (.cells #[.int .i64 yu, .int .i64 yl, .slice qas rs.length qcs] 26)).heap.size = w12.heap.size + 1 := by simp
        generalize w12.alloc (.cells #[.int .i64 yu, .int .i64 yl, .slice qas rs.length qcs] 26) = w13 at hb hk hz ⊢
        have HB13 : Hid (Below w.heap.size w w13) := Lib.hid (HB12.out.trans (hb.mono HB12.out.size))
        have HZ13 : Hid (w12.heap.size ≤ w13.heap.size) := Lib.hid hb.size
        have HRk13 := Lib.hid (HRk0.out.below HB13.out (Nat.le_refl _))
        have HRy13 := Lib.hid (HRy12.out.below hb (Nat.le_refl _))
        have HKy13 := Lib.hid ((hb.block _ (lt_of_block HKy12.out)).trans HKy12.out)
        have HRs13 := Lib.hid (HRs12.out.below hb (Nat.le_refl _))
        have HBs8_13 : Hid (Below w8.heap.size w8 w13) := Lib.hid (HBs8_12.out.trans (hb.mono HBs8_12.out.size))
        have HBs12_13 : Hid (Below w12.heap.size w12 w13) := Lib.hid (HBs12_12.out.trans (hb.mono HBs12_12.out.size))
        have HKs13 := Lib.hid hk
        replace HZ13 : Hid (w12.heap.size < w13.heap.size) := Lib.hid (by omega)
        have HE13 := Lib.hid hz
        clear hb hk hz
        have HBL := Lib.hid HB13.out
        have HKY := Lib.hid HKy13.out
        have HKS0 := Lib.hid HKs13.out
        have HRY := Lib.hid HRy13.out
        have HRS := Lib.hid HRs13.out
        clear cy0 cy1 cy2 fy0 fy1 fy2 lty
        have lty := lt_of_block HKy13.out
        obtain ⟨cy0, cy1, cy2, fy0, fy1, fy2⟩ := cell3 HKy13.out
        have lts := lt_of_block HKs13.out
        obtain ⟨cs0, cs1, cs2, fs0, fs1, fs2⟩ := cell3 HKs13.out
        try go_wp2_with fail
        go_loopw [25, 26] (fun cv iv w70 => ∃ j : Nat, iv = .int .i64 j ∧ cv = .int .i64 (dfC ys rs j) ∧ j ≤ ys.length ∧ Below w13.heap.size w13 w70) (fun _ iv _ => ys.length - (intOf iv).toNat)
        case atStart => exact ⟨0, rfl, rfl, Nat.zero_le _, Below.refl _ _⟩
        case round =>
          rename World => w70
          obtain ⟨j, rfl, rfl, hj, hb⟩ := hrel
          have HBJ := Lib.hid hb
          have hky := (hb.block _ (lt_of_block HKY.out)).trans HKY.out
          have hks := (hb.block _ (lt_of_block HKS0.out)).trans HKS0.out
          have hry := HRY.out.below hb (Nat.le_refl _)
          have hrs := HRS.out.below hb (Nat.le_refl _)
          have hbw := HBL.out.trans (hb.mono HBL.out.size)
          have hdb := dfC_bd ys rs j
          have HSTEP : Hid (dfC ys rs (j + 1) = dfC ys rs j + (if vAt ys j = vAt rs j then 0 else 1)) := Lib.hid rfl
          generalize hdj : dfC ys rs j = dj at hdb HSTEP
          have HDJ := Lib.hid hdj
          clear hdj
          by_cases hlt : j < ys.length
          · have HV1 := Lib.hid (HR1.out j hlt)
            have HV2 := Lib.hid (HR2.out j hlt)
            have z2 : (j : Int) < (ys.length : Int) := by omega
            generalize vAt ys j = va at HV1 HSTEP
            generalize vAt rs j = vb at HV2 HSTEP
            have hw : IntKind.i64.wrap (dj + 1) = dj + 1 := by rw [IntKind.wrap_i64]; omega
            have HB70 : Hid (Below w.heap.size w w70) := Lib.hid hbw
            have HRk70 := Lib.hid (HRk0.out.below HB70.out (Nat.le_refl _))
            have HKy70 := Lib.hid (hky)
            have HKs70 := Lib.hid (hks)
            have HRy70 := Lib.hid (hry)
            have HBs70_70 : Hid (Below w70.heap.size w70 w70) := Lib.hid (Below.refl _ _)
            have HRs70 := Lib.hid (hrs)
            clear hb hky hks hry hrs hbw
            have lty := lt_of_block HKy70.out
            obtain ⟨cy0, cy1, cy2, fy0, fy1, fy2⟩ := cell3 HKy70.out
            have lts := lt_of_block HKs70.out
            obtain ⟨cs0, cs1, cs2, fs0, fs1, fs2⟩ := cell3 HKs70.out
            go_wp2_with fail
            refine (HV1.out _ _ HRy70.out).mono ?_
            rintro e w71 ⟨rfl, hb⟩
            have HB71 : Hid (Below w.heap.size w w71) := Lib.hid (HB70.out.trans (hb.mono HB70.out.size))
            have HZ71 : Hid (w70.heap.size ≤ w71.heap.size) := Lib.hid hb.size
            have HRk71 := Lib.hid (HRk0.out.below HB71.out (Nat.le_refl _))
            have HKy71 := Lib.hid ((hb.block _ (lt_of_block HKy70.out)).trans HKy70.out)
            have HKs71 := Lib.hid ((hb.block _ (lt_of_block HKs70.out)).trans HKs70.out)
            have HRy71 := Lib.hid (HRy70.out.below hb (Nat.le_refl _))
            have HRs71 := Lib.hid (HRs70.out.below hb (Nat.le_refl _))
            have HBs70_71 : Hid (Below w70.heap.size w70 w71) := Lib.hid (HBs70_70.out.trans (hb.mono HBs70_70.out.size))
            clear hb
            clear cy0 cy1 cy2 fy0 fy1 fy2 lty cs0 cs1 cs2 fs0 fs1 fs2 lts
            have lty := lt_of_block HKy71.out
            obtain ⟨cy0, cy1, cy2, fy0, fy1, fy2⟩ := cell3 HKy71.out
            have lts := lt_of_block HKs71.out
            obtain ⟨cs0, cs1, cs2, fs0, fs1, fs2⟩ := cell3 HKs71.out
            go_wp2_with fail
            refine (HV2.out _ _ HRs71.out).mono ?_
            rintro e w72 ⟨rfl, hb⟩
            have HB72 : Hid (Below w.heap.size w w72) := Lib.hid (HB71.out.trans (hb.mono HB71.out.size))
            have HZ72 : Hid (w71.heap.size ≤ w72.heap.size) := Lib.hid hb.size
            have HRk72 := Lib.hid (HRk0.out.below HB72.out (Nat.le_refl _))
            have HKy72 := Lib.hid ((hb.block _ (lt_of_block HKy71.out)).trans HKy71.out)
            have HKs72 := Lib.hid ((hb.block _ (lt_of_block HKs71.out)).trans HKs71.out)
            have HRy72 := Lib.hid (HRy71.out.below hb (Nat.le_refl _))
            have HRs72 := Lib.hid (HRs71.out.below hb (Nat.le_refl _))
            have HBs70_72 : Hid (Below w70.heap.size w70 w72) := Lib.hid (HBs70_71.out.trans (hb.mono HBs70_71.out.size))
            clear hb
            by_cases he : va = vb
            · subst he
              have hee : (va != va) = false := by simp
              clear cy0 cy1 cy2 fy0 fy1 fy2 lty cs0 cs1 cs2 fs0 fs1 fs2 lts
              have lty := lt_of_block HKy72.out
              obtain ⟨cy0, cy1, cy2, fy0, fy1, fy2⟩ := cell3 HKy72.out
              have lts := lt_of_block HKs72.out
              obtain ⟨cs0, cs1, cs2, fs0, fs1, fs2⟩ := cell3 HKs72.out
              go_wp2_with fail
              go_roundw
              case rel => exact ⟨j + 1, by go_num, by rw [HSTEP.out]; simp, by omega, HBJ.out.trans (HBs70_72.out.mono HBJ.out.size)⟩
              case measure => simp [intOf]; omega
            · have hee : (va != vb) = true := by simp [he]
              clear cy0 cy1 cy2 fy0 fy1 fy2 lty cs0 cs1 cs2 fs0 fs1 fs2 lts
              have lty := lt_of_block HKy72.out
              obtain ⟨cy0, cy1, cy2, fy0, fy1, fy2⟩ := cell3 HKy72.out
              have lts := lt_of_block HKs72.out
              obtain ⟨cs0, cs1, cs2, fs0, fs1, fs2⟩ := cell3 HKs72.out
              go_wp2_with fail
              go_roundw
              case rel => exact ⟨j + 1, by go_num, by rw [HSTEP.out, if_neg he], by omega, HBJ.out.trans (HBs70_72.out.mono HBJ.out.size)⟩
              case measure => simp [intOf]; omega
          · obtain rfl : j = ys.length := by omega
            have z2 : ¬ ((ys.length : Int) < (ys.length : Int)) := by omega
            have hjn : dj = n2 := by rw [← HDJ.out]; exact HDF.out
            subst hjn
            have HB71 : Hid (Below w.heap.size w w70) := Lib.hid hbw
            have HRk71 := Lib.hid (HRk0.out.below HB71.out (Nat.le_refl _))
            have HKy71 := Lib.hid (hky)
            clear hb hky hks hry hrs hbw
            have lty := lt_of_block HKy71.out
            obtain ⟨cy0, cy1, cy2, fy0, fy1, fy2⟩ := cell3 HKy71.out
            go_wp2_with fail
            refine (drawKindOfAdd_any _ L _ HRk71.out).mono ?_
            rintro e w72 ⟨⟨kv, kd, rfl⟩, hb⟩
            have HB72 : Hid (Below w.heap.size w w72) := Lib.hid (HB71.out.trans (hb.mono HB71.out.size))
            have HZ72 : Hid (w70.heap.size ≤ w72.heap.size) := Lib.hid hb.size
            have HRk72 := Lib.hid (HRk0.out.below HB72.out (Nat.le_refl _))
            clear hb
            obtain ⟨ks, kb, hKS, hKI⟩ := kind_same kv kd
            have HKS := Lib.hid hKS
            have HKI := Lib.hid (hKI _ (tabn_below HTN.out HB72.out))
            clear hKS hKI
            have hks1 : (!ks.toList == ks.toList) = false := by simp
            have hks2 : (ks.toList == ks.toList) = true := by simp
            have hkb1 : (kb == kb) = true := by simp
            clear cy0 cy1 cy2 fy0 fy1 fy2 lty
            go_wp2_with fail
            refine (HKI.out).mono ?_
            rintro e w73 ⟨rfl, hb⟩
            have HB73 : Hid (Below w.heap.size w w73) := Lib.hid (HB72.out.trans (hb.mono HB72.out.size))
            have HZ73 : Hid (w72.heap.size ≤ w73.heap.size) := Lib.hid hb.size
            have HRk73 := Lib.hid (HRk0.out.below HB73.out (Nat.le_refl _))
            clear hb
            go_wp2_with fail
            refine (HKS.out _).mono ?_
            rintro e w74 ⟨rfl, hb⟩
            have HB74 : Hid (Below w.heap.size w w74) := Lib.hid (HB73.out.trans (hb.mono HB73.out.size))
            have HZ74 : Hid (w73.heap.size ≤ w74.heap.size) := Lib.hid hb.size
            have HRk74 := Lib.hid (HRk0.out.below HB74.out (Nat.le_refl _))
            clear hb
            go_wp2_with fail
            go_ret
            exact ⟨ret_bool (by first | (simp; done) | rfl), HB74.out⟩
      | false =>
        clear hY2
        clear cy0 cy1 cy2 fy0 fy1 fy2 lty
        have lty := lt_of_block HKy11.out
        obtain ⟨cy0, cy1, cy2, fy0, fy1, fy2⟩ := cell3 HKy11.out
        go_wp2_with fail
        refine (drawKindOfAdd_any _ L _ HRk11.out).mono ?_
        rintro e w12 ⟨⟨kv, kd, rfl⟩, hb⟩
        have HB12 : Hid (Below w.heap.size w w12) := Lib.hid (HB11.out.trans (hb.mono HB11.out.size))
        have HZ12 : Hid (w11.heap.size ≤ w12.heap.size) := Lib.hid hb.size
        have HRk12 := Lib.hid (HRk0.out.below HB12.out (Nat.le_refl _))
        have HRy12 := Lib.hid (HRy11.out.below hb (Nat.le_refl _))
        have HKy12 := Lib.hid ((hb.block _ (lt_of_block HKy11.out)).trans HKy11.out)
        have HBs8_12 : Hid (Below w8.heap.size w8 w12) := Lib.hid (HBs8_11.out.trans (hb.mono HBs8_11.out.size))
        clear hb
        obtain ⟨ks, kb, hKS, hKI⟩ := kind_same kv kd
        have HKS := Lib.hid hKS
        have HKI := Lib.hid (hKI _ (tabn_below HTN.out HB12.out))
        clear hKS hKI
        have hks1 : (!ks.toList == ks.toList) = false := by simp
        have hks2 : (ks.toList == ks.toList) = true := by simp
        have hkb1 : (kb == kb) = true := by simp
        clear cy0 cy1 cy2 fy0 fy1 fy2 lty
        have lty := lt_of_block HKy12.out
        obtain ⟨cy0, cy1, cy2, fy0, fy1, fy2⟩ := cell3 HKy12.out
        go_wp2_with fail
        refine (HKI.out).mono ?_
        rintro e w13 ⟨rfl, hb⟩
        have HB13 : Hid (Below w.heap.size w w13) := Lib.hid (HB12.out.trans (hb.mono HB12.out.size))
        have HZ13 : Hid (w12.heap.size ≤ w13.heap.size) := Lib.hid hb.size
        have HRk13 := Lib.hid (HRk0.out.below HB13.out (Nat.le_refl _))
        have HRy13 := Lib.hid (HRy12.out.below hb (Nat.le_refl _))
        have HKy13 := Lib.hid ((hb.block _ (lt_of_block HKy12.out)).trans HKy12.out)
        have HBs8_13 : Hid (Below w8.heap.size w8 w13) := Lib.hid (HBs8_12.out.trans (hb.mono HBs8_12.out.size))
        clear hb
        clear cy0 cy1 cy2 fy0 fy1 fy2 lty
        have lty := lt_of_block HKy13.out
        obtain ⟨cy0, cy1, cy2, fy0, fy1, fy2⟩ := cell3 HKy13.out
        go_wp2_with fail
        refine (HKS.out _).mono ?_
        rintro e w14 ⟨rfl, hb⟩
        have HB14 : Hid (Below w.heap.size w w14) := Lib.hid (HB13.out.trans (hb.mono HB13.out.size))
        have HZ14 : Hid (w13.heap.size ≤ w14.heap.size) := Lib.hid hb.size
        have HRk14 := Lib.hid (HRk0.out.below HB14.out (Nat.le_refl _))
        have HRy14 := Lib.hid (HRy13.out.below hb (Nat.le_refl _))
        have HKy14 := Lib.hid ((hb.block _ (lt_of_block HKy13.out)).trans HKy13.out)
        have HBs8_14 : Hid (Below w8.heap.size w8 w14) := Lib.hid (HBs8_13.out.trans (hb.mono HBs8_13.out.size))
        clear hb
        clear cy0 cy1 cy2 fy0 fy1 fy2 lty
        have lty := lt_of_block HKy14.out
        obtain ⟨cy0, cy1, cy2, fy0, fy1, fy2⟩ := cell3 HKy14.out
        go_wp2_with fail
        go_ret
        exact ⟨ret_bool (by first | (simp; done) | rfl), HB14.out⟩
end Go.Proofs.YtjkjaadcdolbhaaDoor
