/- The law FnDecimals. -/
import Derived.Test.YtocaiddpeoimhaaVin
import Derived.Test.YtocaiddpeoimhaaKh
import Derived.Test.YtocaiddpeoimhaaDdv
import Derived.Test.YtocaiddpeoimhaaJd3
import Derived.Test.YtocaiddpeoimhaaJd4
namespace Go.Proofs.Ytocaiddpeoimhaa
set_option linter.unusedVariables false
open Go.RowKit
set_option linter.unusedSimpArgs false

def I2B (f : Nat) (av : Array Value) (w : World) (m n : Int) (b : Bool) : Prop :=
  Calls Try.prog f av w fun e w' => e = .returned (.tuple #[.int .i64 m, .int .i64 n, .bool b]) ∧ Below w.heap.size w w'
/-- What the law asks of the decimals: they come again with the period. -/
def PeF (ds : List Int) (be pe : Int) : Prop := ∀ i j (hi : i < ds.length) (hj : j < ds.length), be ≤ (i : Int) → 0 < pe → (j : Int) = (i : Int) + pe → ds[i] = ds[j]
theorem dec12 (x y : Int) (h : okD x y) : (∀ w, IsB 39 #[.int .i64 x, .int .i64 y, .int .i64 12] w (dcL y (x % y) 12) true) ∧ (∀ w, IsB 38 #[.int .i64 x, .int .i64 y, .int .i64 12] w (dcL y (x % y) 12) true) :=
  ⟨fun w => speDecimalsOf_yes x y 12 w h (Nat.le_refl _), fun w => ofOwnI (impDecimalsOf_yes x y 12 w h (Nat.le_refl _))⟩
theorem pe_same (x y : Int) : ∃ (be pe : Int) (b : Bool), (∀ w, I2B 37 #[.int .i64 x, .int .i64 y] w be pe b) ∧ (∀ w, I2B 36 #[.int .i64 x, .int .i64 y] w be pe b) ∧
    (b = true → ∃ ds : List Int, ds.length = 12 ∧ (∀ w, IsB 39 #[.int .i64 x, .int .i64 y, .int .i64 12] w ds true) ∧ (∀ w, IsB 38 #[.int .i64 x, .int .i64 y, .int .i64 12] w ds true) ∧ (0 ≤ be ∧ be ≤ 500) ∧ (0 ≤ pe ∧ pe ≤ 500) ∧ PeF ds be pe) := by
  by_cases hc : okD x y ∧ y ≤ 500
  · obtain ⟨b, p, hf, hp⟩ := fst_ex (R := rsD y (x % y)) (D := y.toNat) (fun i => by have := rsD_bd (d := y) hc.1.2.1 (r := x % y) ⟨Int.emod_nonneg _ (by have := hc.1.2.1; omega), Int.emod_lt_of_pos _ (by have := hc.1.2.1; omega)⟩ i; have := hc.1.2.1; omega)
    have h5 : p ≤ 500 := by have := hc.2; omega
    obtain ⟨u, v, huv⟩ := perA_ex (rsD y (x % y)) b p
    obtain ⟨hd1, hd2⟩ := dec12 x y hc.1
    refine ⟨u, v, true, fun w => spePeriodOf_yes x y w hc.1 hc.2 b p h5 hf u v huv, fun w => impPeriodOf_yes x y w hc.1 hc.2 b p h5 hf u v huv, fun _ => ⟨dcL y (x % y) 12, dcL_len _ _ _, hd1, hd2, ?_⟩⟩
    have hbp := hf.1
    by_cases hz : rsD y (x % y) p = 0
    · obtain ⟨rfl, rfl⟩ := huv.1 hz
      exact ⟨by omega, by omega, fun i j hi hj h1 h2 h3 => absurd h2 (by omega)⟩
    · obtain ⟨rfl, rfl⟩ := huv.2 hz
      refine ⟨by omega, by omega, fun i j hi hj h1 h2 h3 => ?_⟩
      rw [dcL_len] at hi hj
      rw [dcL_at y (x % y) 12 i hi, dcL_at y (x % y) 12 j hj]
      have h4 := rsD_add y (x % y) b p hf.2.1 (i - b)
      rw [show b + (i - b) = i by omega, show p + (i - b) = j by omega] at h4
      rw [h4]
  · exact ⟨0, 0, false, fun w => spePeriodOf_no x y w hc, fun w => impPeriodOf_no x y w hc, fun h => by cases h⟩
theorem de_same (x y p : Int) : ∃ (ds : List Int) (b : Bool), (∀ w, IsB 39 #[.int .i64 x, .int .i64 y, .int .i64 p] w ds b) ∧ (∀ w, IsB 38 #[.int .i64 x, .int .i64 y, .int .i64 p] w ds b) ∧ (b = true → (ds.length : Int) = p) := by
  by_cases hc : okP12 x y p
  · obtain ⟨n, rfl⟩ : ∃ n : Nat, p = (n : Int) := ⟨p.toNat, by have := hc.2.1; omega⟩
    have hp : n ≤ 12 := by have := hc.2.2; omega
    exact ⟨dcL y (x % y) n, true, fun w => speDecimalsOf_yes x y n w hc.1 hp, fun w => ofOwnI (impDecimalsOf_yes x y n w hc.1 hp), fun _ => by rw [dcL_len]⟩
  · exact ⟨[], false, fun w => speDecimalsOf_no x y p w hc, fun w => ofOwnI (impDecimalsOf_no x y p w hc), fun h => by cases h⟩
theorem dr_same (n : Int) : ∃ (ds : List Int) (b : Bool), (∀ w, IsB 43 #[.int .i64 n] w ds b) ∧ (∀ w, IsB 42 #[.int .i64 n] w ds b) ∧
    (∀ i (h : i < ds.length), (∀ w, I2B 20 #[.int .i64 n, .int .i64 ds[i]] w (n / ds[i]) 0 true) ∧ IntKind.i64.wrap (n / ds[i] * ds[i]) = n) := by
  by_cases hc : 0 ≤ n ∧ n ≤ 99999999
  · refine ⟨dvL n 99, true, fun w => speDivisorsOf_yes n w hc, fun w => ofOwnI (impDivisorsOf_yes n w hc), fun i h => ?_⟩
    obtain ⟨h1, h2⟩ := dvL_mem n 99 _ (List.getElem_mem h)
    generalize (dvL n 99)[i] = l at h1 h2
    have h3 : okD n l := ⟨hc, by omega, by omega⟩
    refine ⟨fun w => ?_, ?_⟩
    · have := impQuotientOf_yes n l w h3
      rw [h2] at this; exact this
    · have h4 := Int.mul_ediv_add_emod n l
      rw [h2, Int.add_zero, Int.mul_comm] at h4
      rw [h4, IntKind.wrap_i64]; omega
  · exact ⟨[], false, fun w => speDivisorsOf_no n w hc, fun w => ofOwnI (impDivisorsOf_no n w hc), fun i h => by simp at h⟩
set_option maxRecDepth 100000 in
set_option maxHeartbeats 12800000 in
theorem lawDecimals (w : World) (ad : Option Addr) (cp : Nat) (L : List UInt8) (h : SlR w (.slice ad L.length cp) (L.map fun c => .int .u8 (c.toNat : Int))) :
    Calls Try.prog 4 #[.slice ad L.length cp] w fun e w' => e = .returned (.bool true) ∧ Below w.heap.size w w' := by
  have hm : L.length ≤ 9223372036854775807 := by
    obtain ⟨a, c, e, ⟨m, _⟩, _⟩ := h
    rw [List.length_map] at m
    exact m
  have HB0 : Hid (Below w.heap.size w w) := Lib.hid (Below.refl _ _)
  have HRk0 := Lib.hid (h)
  clear h
  by_cases hbig : (65536 : Int) < (L.length : Int)
  · go_enter Try.func4, Try.ntmps4
    go_wp2_with fail
    refine (vBig_any ad L.length cp _ true (decide_eq_true hbig)).mono ?_
    rintro e w' ⟨rfl, hw⟩
    subst w'
    go_wp2_with fail
    go_ret
    exact ⟨rfl, Below.refl _ _⟩
  · go_enter Try.func4, Try.ntmps4
    go_wp2_with fail
    refine (vBig_any ad L.length cp _ false (decide_eq_false (by omega))).mono ?_
    rintro e w' ⟨rfl, hw⟩
    subst w'
    go_wp2_with fail
    refine (drawPeriodOf_any _ L _ HRk0.out).mono ?_
    rintro e w1 ⟨⟨x, y, rfl⟩, hb⟩
    have HB1 : Hid (Below w.heap.size w w1) := Lib.hid (HB0.out.trans (hb.mono HB0.out.size))
    have HZ1 : Hid (w.heap.size ≤ w1.heap.size) := Lib.hid hb.size
    have HRk1 := Lib.hid (HRk0.out.below HB1.out (Nat.le_refl _))
    clear hb
    obtain ⟨be, pe, b, h1, h2, hY⟩ := pe_same x y
    have HP1 := Lib.hid h1
    have HP2 := Lib.hid h2
    clear h1 h2
    have hb1 : (b != b) = false := by simp
    have hq1 : (be != be) = false := by simp
    have hr1 : (pe != pe) = false := by simp
    go_wp2_with fail
    refine (HP2.out _).mono ?_
    rintro e w2 ⟨rfl, hb⟩
    have HB2 : Hid (Below w.heap.size w w2) := Lib.hid (HB1.out.trans (hb.mono HB1.out.size))
    have HZ2 : Hid (w1.heap.size ≤ w2.heap.size) := Lib.hid hb.size
    have HRk2 := Lib.hid (HRk0.out.below HB2.out (Nat.le_refl _))
    clear hb
    go_wp2_with fail
    refine (HP1.out _).mono ?_
    rintro e w3 ⟨rfl, hb⟩
    have HB3 : Hid (Below w.heap.size w w3) := Lib.hid (HB2.out.trans (hb.mono HB2.out.size))
    have HZ3 : Hid (w2.heap.size ≤ w3.heap.size) := Lib.hid hb.size
    have HRk3 := Lib.hid (HRk0.out.below HB3.out (Nat.le_refl _))
    clear hb
    cases b with
    | true =>
      obtain ⟨ds, hl, h1, h2, hbe, hpe, hpf⟩ := hY rfl
      have HD1 := Lib.hid h1
      have HD2 := Lib.hid h2
      have HPF := Lib.hid hpf
      have HLN := Lib.hid hl
      clear hY h1 h2 hpf hl
      have htt : (true != true) = false := rfl
      go_wp2_with fail
      refine (HD2.out _).mono ?_
      rintro e w4 ⟨⟨v, rfl, ho⟩, hb⟩
      have HB4 : Hid (Below w.heap.size w w4) := Lib.hid (HB3.out.trans (hb.mono HB3.out.size))
      have HZ4 : Hid (w3.heap.size ≤ w4.heap.size) := Lib.hid hb.size
      have HRk4 := Lib.hid (HRk0.out.below HB4.out (Nat.le_refl _))
      clear hb
      obtain ⟨qao, qco, rfl⟩ := ho.form
      have HRo4 := Lib.hid (ho)
      have HBs4_4 : Hid (Below w4.heap.size w4 w4) := Lib.hid (Below.refl _ _)
      clear ho
      go_wp2_with fail
      refine (HD1.out _).mono ?_
      rintro e w5 ⟨⟨v, rfl, ho⟩, hb⟩
      have HB5 : Hid (Below w.heap.size w w5) := Lib.hid (HB4.out.trans (hb.mono HB4.out.size))
      have HZ5 : Hid (w4.heap.size ≤ w5.heap.size) := Lib.hid hb.size
      have HRk5 := Lib.hid (HRk0.out.below HB5.out (Nat.le_refl _))
      have HRo5 := Lib.hid (HRo4.out.below hb (Nat.le_refl _))
      have HBs4_5 : Hid (Below w4.heap.size w4 w5) := Lib.hid (HBs4_4.out.trans (hb.mono HBs4_4.out.size))
      clear hb
      obtain ⟨qap, qcp, rfl⟩ := ho.form
      have HRp5 := Lib.hid (ho)
      have HBs5_5 : Hid (Below w5.heap.size w5 w5) := Lib.hid (Below.refl _ _)
      clear ho
      go_wp2_with fail
      refine (vInts_yes _ _ ds _ HRo5.out HRp5.out).mono ?_
      rintro e w6 ⟨rfl, hb⟩
      have HB6 : Hid (Below w.heap.size w w6) := Lib.hid (HB5.out.trans (hb.mono HB5.out.size))
      have HZ6 : Hid (w5.heap.size ≤ w6.heap.size) := Lib.hid hb.size
      have HRk6 := Lib.hid (HRk0.out.below HB6.out (Nat.le_refl _))
      have HRo6 := Lib.hid (HRo5.out.below hb (Nat.le_refl _))
      have HRp6 := Lib.hid (HRp5.out.below hb (Nat.le_refl _))
      have HBs4_6 : Hid (Below w4.heap.size w4 w6) := Lib.hid (HBs4_5.out.trans (hb.mono HBs4_5.out.size))
      have HBs5_6 : Hid (Below w5.heap.size w5 w6) := Lib.hid (HBs5_5.out.trans (hb.mono HBs5_5.out.size))
      clear hb
      have hml : ds.length ≤ 9223372036854775807 := by have := HLN.out; omega
      have HRO := Lib.hid HRo6.out.at
      go_wp2_with fail
      go_loopw [15] (fun iv wr => ∃ j : Nat, iv = .int .i64 (j : Int) ∧ be ≤ (j : Int) ∧ j ≤ 600 ∧ Below w6.heap.size w6 wr) (fun iv _ => 13 - (intOf iv).toNat)
      case atStart => exact ⟨be.toNat, by rw [Int.toNat_of_nonneg hbe.1], by omega, by omega, Below.refl _ _⟩
      case round =>
        rename World => w7
        obtain ⟨j, rfl, hbj, hj6, hb⟩ := hrel
        have HBL := Lib.hid hb
        by_cases hp0 : 0 < pe
        · by_cases hjp : (j : Int) + pe < (ds.length : Int)
          · have hln := HLN.out
            have hlt : j < ds.length := by omega
            obtain ⟨k, hk⟩ : ∃ k : Nat, (j : Int) + pe = (k : Int) := ⟨((j : Int) + pe).toNat, by omega⟩
            have hkl : k < ds.length := by omega
            obtain ⟨b0, o0, rfl, l0, k0⟩ := HRO.out _ hb j hlt
            obtain ⟨b1, o1, h9, l1, k1⟩ := HRO.out _ hb k hkl
            injection h9 with h9
            injection h9 with h91 h92
            subst h91
            subst h92
            have p1 : w7.cell? ⟨b0, o0 + j, none⟩ = some (.int .i64 ds[j]) := by have := k0 0 (by omega); rw [Nat.mul_one] at this; exact this
            have p3 : w7.cell? ⟨b0, o0 + k, none⟩ = some (.int .i64 ds[k]) := by have := k1 0 (by omega); rw [Nat.mul_one] at this; exact this
            rw [← HPF.out j k hlt hkl hbj hp0 hk.symm] at p3
            obtain ⟨X, hX⟩ : ∃ X, ds[j] = X := ⟨_, rfl⟩
            rw [hX] at p1 p3
            have hwk : IntKind.i64.wrap ((j : Int) + pe) = (k : Int) := by rw [hk, IntKind.wrap_i64]; omega
            have z1 : (0 : Int) ≤ (j : Int) := by omega
            have z2 : (j : Int) < (ds.length : Int) := by omega
            have z3 : (0 : Int) ≤ (k : Int) := by omega
            have z4 : (k : Int) < (ds.length : Int) := by omega
            have hxx : (X != X) = false := by simp
            have HJB : Hid (j < 12) := Lib.hid (by omega)
            have HK := Lib.hid hk
            clear k0 k1 hX hb hln hk hjp
            go_wp2_with fail
            go_quiet (fail)
            rename Nat => nq
            have HBq : Hid (Below w6.heap.size w6 (w7.drewN nq)) := Lib.hid (bl_drewN HBL.out nq)
            clear p1 p3
            generalize w7.drewN nq = wq at HBq ⊢
            go_wp2_with fail
            go_roundw
            case rel => exact ⟨j + 1, by go_num, by omega, by have := HJB.out; omega, HBq.out⟩
            case measure => have := HJB.out; simp [intOf]; omega
          · have hn1 : ¬ ((j : Int) + pe < (ds.length : Int)) := hjp
            have hwk : IntKind.i64.wrap ((j : Int) + pe) = (j : Int) + pe := by rw [IntKind.wrap_i64]; omega
            have hb := HBL.out
            have HB7 : Hid (Below w.heap.size w w7) := Lib.hid (HB6.out.trans (hb.mono HB6.out.size))
            have HZ7 : Hid (w6.heap.size ≤ w7.heap.size) := Lib.hid hb.size
            have HRk7 := Lib.hid (HRk0.out.below HB7.out (Nat.le_refl _))
            clear hb
            go_wp2_with fail
            refine (drawDecimalsOf_any _ L _ HRk7.out).mono ?_
            rintro e w8 ⟨⟨x2, y2, p2, rfl⟩, hb⟩
            have HB8 : Hid (Below w.heap.size w w8) := Lib.hid (HB7.out.trans (hb.mono HB7.out.size))
            have HZ8 : Hid (w7.heap.size ≤ w8.heap.size) := Lib.hid hb.size
            have HRk8 := Lib.hid (HRk0.out.below HB8.out (Nat.le_refl _))
            clear hb
            obtain ⟨d2, b2, h1, h2, h3⟩ := de_same x2 y2 p2
            have HE1 := Lib.hid h1
            have HE2 := Lib.hid h2
            clear h1 h2
            have hb2 : (b2 != b2) = false := by simp
            go_wp2_with fail
            refine (HE2.out _).mono ?_
            rintro e w9 ⟨⟨v, rfl, ho⟩, hb⟩
            have HB9 : Hid (Below w.heap.size w w9) := Lib.hid (HB8.out.trans (hb.mono HB8.out.size))
            have HZ9 : Hid (w8.heap.size ≤ w9.heap.size) := Lib.hid hb.size
            have HRk9 := Lib.hid (HRk0.out.below HB9.out (Nat.le_refl _))
            clear hb
            obtain ⟨qay, qcy, rfl⟩ := ho.form
            have HRy9 := Lib.hid (ho)
            have HBs9_9 : Hid (Below w9.heap.size w9 w9) := Lib.hid (Below.refl _ _)
            clear ho
            go_wp2_with fail
            refine (HE1.out _).mono ?_
            rintro e w10 ⟨⟨v, rfl, ho⟩, hb⟩
            have HB10 : Hid (Below w.heap.size w w10) := Lib.hid (HB9.out.trans (hb.mono HB9.out.size))
            have HZ10 : Hid (w9.heap.size ≤ w10.heap.size) := Lib.hid hb.size
            have HRk10 := Lib.hid (HRk0.out.below HB10.out (Nat.le_refl _))
            have HRy10 := Lib.hid (HRy9.out.below hb (Nat.le_refl _))
            have HBs9_10 : Hid (Below w9.heap.size w9 w10) := Lib.hid (HBs9_9.out.trans (hb.mono HBs9_9.out.size))
            clear hb
            obtain ⟨qaz, qcz, rfl⟩ := ho.form
            have HRz10 := Lib.hid (ho)
            have HBs10_10 : Hid (Below w10.heap.size w10 w10) := Lib.hid (Below.refl _ _)
            clear ho
            go_wp2_with fail
            refine (vInts_yes _ _ d2 _ HRy10.out HRz10.out).mono ?_
            rintro e w11 ⟨rfl, hb⟩
            have HB11 : Hid (Below w.heap.size w w11) := Lib.hid (HB10.out.trans (hb.mono HB10.out.size))
            have HZ11 : Hid (w10.heap.size ≤ w11.heap.size) := Lib.hid hb.size
            have HRk11 := Lib.hid (HRk0.out.below HB11.out (Nat.le_refl _))
            have HRy11 := Lib.hid (HRy10.out.below hb (Nat.le_refl _))
            have HRz11 := Lib.hid (HRz10.out.below hb (Nat.le_refl _))
            have HBs9_11 : Hid (Below w9.heap.size w9 w11) := Lib.hid (HBs9_10.out.trans (hb.mono HBs9_10.out.size))
            have HBs10_11 : Hid (Below w10.heap.size w10 w11) := Lib.hid (HBs10_10.out.trans (hb.mono HBs10_10.out.size))
            clear hb
            have hmd : d2.length ≤ 9223372036854775807 := by obtain ⟨_, _, _, ⟨m, _⟩, _⟩ := HRy11.out; exact m
            cases b2 with
            | true =>
              have hlp : ((d2.length : Int) != p2) = false := by rw [h3 rfl]; simp
              clear h3
              go_wp2_with fail
              refine (drawDivisorsOf_any _ L _ HRk11.out).mono ?_
              rintro e w12 ⟨⟨n3, rfl⟩, hb⟩
              have HB12 : Hid (Below w.heap.size w w12) := Lib.hid (HB11.out.trans (hb.mono HB11.out.size))
              have HZ12 : Hid (w11.heap.size ≤ w12.heap.size) := Lib.hid hb.size
              have HRk12 := Lib.hid (HRk0.out.below HB12.out (Nat.le_refl _))
              clear hb
              obtain ⟨ls, b3, h1, h2, h3⟩ := dr_same n3
              have HV1 := Lib.hid h1
              have HV2 := Lib.hid h2
              have HV3 := Lib.hid h3
              clear h1 h2 h3
              have hb3 : (b3 != b3) = false := by simp
              go_wp2_with fail
              refine (HV2.out _).mono ?_
              rintro e w13 ⟨⟨v, rfl, ho⟩, hb⟩
              have HB13 : Hid (Below w.heap.size w w13) := Lib.hid (HB12.out.trans (hb.mono HB12.out.size))
              have HZ13 : Hid (w12.heap.size ≤ w13.heap.size) := Lib.hid hb.size
              have HRk13 := Lib.hid (HRk0.out.below HB13.out (Nat.le_refl _))
              clear hb
              obtain ⟨qas, qcs, rfl⟩ := ho.form
              have HRs13 := Lib.hid (ho)
              have HBs13_13 : Hid (Below w13.heap.size w13 w13) := Lib.hid (Below.refl _ _)
              clear ho
              go_wp2_with fail
              refine (HV1.out _).mono ?_
              rintro e w14 ⟨⟨v, rfl, ho⟩, hb⟩
              have HB14 : Hid (Below w.heap.size w w14) := Lib.hid (HB13.out.trans (hb.mono HB13.out.size))
              have HZ14 : Hid (w13.heap.size ≤ w14.heap.size) := Lib.hid hb.size
              have HRk14 := Lib.hid (HRk0.out.below HB14.out (Nat.le_refl _))
              have HRs14 := Lib.hid (HRs13.out.below hb (Nat.le_refl _))
              have HBs13_14 : Hid (Below w13.heap.size w13 w14) := Lib.hid (HBs13_13.out.trans (hb.mono HBs13_13.out.size))
              clear hb
              obtain ⟨qat, qct, rfl⟩ := ho.form
              have HRt14 := Lib.hid (ho)
              have HBs14_14 : Hid (Below w14.heap.size w14 w14) := Lib.hid (Below.refl _ _)
              clear ho
              go_wp2_with fail
              refine (vInts_yes _ _ ls _ HRs14.out HRt14.out).mono ?_
              rintro e w15 ⟨rfl, hb⟩
              have HB15 : Hid (Below w.heap.size w w15) := Lib.hid (HB14.out.trans (hb.mono HB14.out.size))
              have HZ15 : Hid (w14.heap.size ≤ w15.heap.size) := Lib.hid hb.size
              have HRk15 := Lib.hid (HRk0.out.below HB15.out (Nat.le_refl _))
              have HRs15 := Lib.hid (HRs14.out.below hb (Nat.le_refl _))
              have HRt15 := Lib.hid (HRt14.out.below hb (Nat.le_refl _))
              have HBs13_15 : Hid (Below w13.heap.size w13 w15) := Lib.hid (HBs13_14.out.trans (hb.mono HBs13_14.out.size))
              have HBs14_15 : Hid (Below w14.heap.size w14 w15) := Lib.hid (HBs14_14.out.trans (hb.mono HBs14_14.out.size))
              clear hb
              have hml3 : ls.length ≤ 9223372036854775807 := by obtain ⟨_, _, _, ⟨m, _⟩, _⟩ := HRs15.out; exact m
              have HRS := Lib.hid HRs15.out.at
              have HBW := Lib.hid HB15.out
              go_wp2_with fail
              go_loopw [28] (fun iv wr => ∃ j : Nat, j ≤ ls.length ∧ iv = .int .i64 j ∧ Below w15.heap.size w15 wr) (fun iv _ => ls.length - (intOf iv).toNat)
              case atStart => exact ⟨0, Nat.zero_le _, rfl, Below.refl _ _⟩
              case round =>
                rename World => wj
                obtain ⟨j, hjk, rfl, hb⟩ := hrel
                have HBL := Lib.hid hb
                have z1 : (0 : Int) ≤ (j : Int) := by omega
                by_cases hlt : j < ls.length
                · obtain ⟨b0, o0, rfl, l0, k0⟩ := HRS.out _ hb j hlt
                  have p1 : wj.cell? ⟨b0, o0 + j, none⟩ = some (.int .i64 ls[j]) := by have := k0 0 (by omega); rw [Nat.mul_one] at this; exact this
                  obtain ⟨hq, hwr⟩ := HV3.out j hlt
                  have HP : Hid (∀ w', Below w15.heap.size w15 w' → w'.cell? ⟨b0, o0 + j, none⟩ = some (.int .i64 ls[j])) := Lib.hid (fun w' hbb => by
                    obtain ⟨b9, o9, h9, _, k9⟩ := HRS.out w' hbb j hlt
                    injection h9 with h9
                    injection h9 with h91 h92
                    subst h91
                    subst h92
                    have := k9 0 (by omega)
                    rw [Nat.mul_one] at this
                    exact this)
                  obtain ⟨X, hX⟩ : ∃ X, ls[j] = X := ⟨_, rfl⟩
                  rw [hX] at p1 hq hwr HP
                  have HQT := Lib.hid hq
                  have z2 : (j : Int) < (ls.length : Int) := by omega
                  obtain ⟨Y, hY⟩ : ∃ Y, n3 / X = Y := ⟨_, rfl⟩
                  rw [hY] at HQT hwr
                  have hnn : (n3 != n3) = false := by simp
                  clear k0 hq hX hY hb
                  go_wp2_with fail
                  refine (HQT.out _).mono ?_
                  rintro e wk ⟨rfl, hbk⟩
                  have HBK := Lib.hid (HBL.out.trans (hbk.mono HBL.out.size))
                  have p2 := HP.out wk HBK.out
                  clear p1 hbk
                  go_wp2_with fail
                  go_roundw
                  case rel => exact ⟨j + 1, by omega, by go_num, HBK.out⟩
                  case measure => simp [intOf]; omega
                · obtain rfl : j = ls.length := by omega
                  have HBE := Lib.hid (HBW.out.trans (HBL.out.mono HBW.out.size))
                  clear hb
                  go_wp2_with fail
                  go_ret
                  exact ⟨rfl, HBE.out⟩
            | false =>
              clear h3
              go_wp2_with fail
              refine (drawDivisorsOf_any _ L _ HRk11.out).mono ?_
              rintro e w12 ⟨⟨n3, rfl⟩, hb⟩
              have HB12 : Hid (Below w.heap.size w w12) := Lib.hid (HB11.out.trans (hb.mono HB11.out.size))
              have HZ12 : Hid (w11.heap.size ≤ w12.heap.size) := Lib.hid hb.size
              have HRk12 := Lib.hid (HRk0.out.below HB12.out (Nat.le_refl _))
              clear hb
              obtain ⟨ls, b3, h1, h2, h3⟩ := dr_same n3
              have HV1 := Lib.hid h1
              have HV2 := Lib.hid h2
              have HV3 := Lib.hid h3
              clear h1 h2 h3
              have hb3 : (b3 != b3) = false := by simp
              go_wp2_with fail
              refine (HV2.out _).mono ?_
              rintro e w13 ⟨⟨v, rfl, ho⟩, hb⟩
              have HB13 : Hid (Below w.heap.size w w13) := Lib.hid (HB12.out.trans (hb.mono HB12.out.size))
              have HZ13 : Hid (w12.heap.size ≤ w13.heap.size) := Lib.hid hb.size
              have HRk13 := Lib.hid (HRk0.out.below HB13.out (Nat.le_refl _))
              clear hb
              obtain ⟨qas, qcs, rfl⟩ := ho.form
              have HRs13 := Lib.hid (ho)
              have HBs13_13 : Hid (Below w13.heap.size w13 w13) := Lib.hid (Below.refl _ _)
              clear ho
              go_wp2_with fail
              refine (HV1.out _).mono ?_
              rintro e w14 ⟨⟨v, rfl, ho⟩, hb⟩
              have HB14 : Hid (Below w.heap.size w w14) := Lib.hid (HB13.out.trans (hb.mono HB13.out.size))
              have HZ14 : Hid (w13.heap.size ≤ w14.heap.size) := Lib.hid hb.size
              have HRk14 := Lib.hid (HRk0.out.below HB14.out (Nat.le_refl _))
              have HRs14 := Lib.hid (HRs13.out.below hb (Nat.le_refl _))
              have HBs13_14 : Hid (Below w13.heap.size w13 w14) := Lib.hid (HBs13_13.out.trans (hb.mono HBs13_13.out.size))
              clear hb
              obtain ⟨qat, qct, rfl⟩ := ho.form
              have HRt14 := Lib.hid (ho)
              have HBs14_14 : Hid (Below w14.heap.size w14 w14) := Lib.hid (Below.refl _ _)
              clear ho
              go_wp2_with fail
              refine (vInts_yes _ _ ls _ HRs14.out HRt14.out).mono ?_
              rintro e w15 ⟨rfl, hb⟩
              have HB15 : Hid (Below w.heap.size w w15) := Lib.hid (HB14.out.trans (hb.mono HB14.out.size))
              have HZ15 : Hid (w14.heap.size ≤ w15.heap.size) := Lib.hid hb.size
              have HRk15 := Lib.hid (HRk0.out.below HB15.out (Nat.le_refl _))
              have HRs15 := Lib.hid (HRs14.out.below hb (Nat.le_refl _))
              have HRt15 := Lib.hid (HRt14.out.below hb (Nat.le_refl _))
              have HBs13_15 : Hid (Below w13.heap.size w13 w15) := Lib.hid (HBs13_14.out.trans (hb.mono HBs13_14.out.size))
              have HBs14_15 : Hid (Below w14.heap.size w14 w15) := Lib.hid (HBs14_14.out.trans (hb.mono HBs14_14.out.size))
              clear hb
              have hml3 : ls.length ≤ 9223372036854775807 := by obtain ⟨_, _, _, ⟨m, _⟩, _⟩ := HRs15.out; exact m
              have HRS := Lib.hid HRs15.out.at
              have HBW := Lib.hid HB15.out
              go_wp2_with fail
              go_loopw [28] (fun iv wr => ∃ j : Nat, j ≤ ls.length ∧ iv = .int .i64 j ∧ Below w15.heap.size w15 wr) (fun iv _ => ls.length - (intOf iv).toNat)
              case atStart => exact ⟨0, Nat.zero_le _, rfl, Below.refl _ _⟩
              case round =>
                rename World => wj
                obtain ⟨j, hjk, rfl, hb⟩ := hrel
                have HBL := Lib.hid hb
                have z1 : (0 : Int) ≤ (j : Int) := by omega
                by_cases hlt : j < ls.length
                · obtain ⟨b0, o0, rfl, l0, k0⟩ := HRS.out _ hb j hlt
                  have p1 : wj.cell? ⟨b0, o0 + j, none⟩ = some (.int .i64 ls[j]) := by have := k0 0 (by omega); rw [Nat.mul_one] at this; exact this
                  obtain ⟨hq, hwr⟩ := HV3.out j hlt
                  have HP : Hid (∀ w', Below w15.heap.size w15 w' → w'.cell? ⟨b0, o0 + j, none⟩ = some (.int .i64 ls[j])) := Lib.hid (fun w' hbb => by
                    obtain ⟨b9, o9, h9, _, k9⟩ := HRS.out w' hbb j hlt
                    injection h9 with h9
                    injection h9 with h91 h92
                    subst h91
                    subst h92
                    have := k9 0 (by omega)
                    rw [Nat.mul_one] at this
                    exact this)
                  obtain ⟨X, hX⟩ : ∃ X, ls[j] = X := ⟨_, rfl⟩
                  rw [hX] at p1 hq hwr HP
                  have HQT := Lib.hid hq
                  have z2 : (j : Int) < (ls.length : Int) := by omega
                  obtain ⟨Y, hY⟩ : ∃ Y, n3 / X = Y := ⟨_, rfl⟩
                  rw [hY] at HQT hwr
                  have hnn : (n3 != n3) = false := by simp
                  clear k0 hq hX hY hb
                  go_wp2_with fail
                  refine (HQT.out _).mono ?_
                  rintro e wk ⟨rfl, hbk⟩
                  have HBK := Lib.hid (HBL.out.trans (hbk.mono HBL.out.size))
                  have p2 := HP.out wk HBK.out
                  clear p1 hbk
                  go_wp2_with fail
                  go_roundw
                  case rel => exact ⟨j + 1, by omega, by go_num, HBK.out⟩
                  case measure => simp [intOf]; omega
                · obtain rfl : j = ls.length := by omega
                  have HBE := Lib.hid (HBW.out.trans (HBL.out.mono HBW.out.size))
                  clear hb
                  go_wp2_with fail
                  go_ret
                  exact ⟨rfl, HBE.out⟩
        · have hn1 : ¬ (0 < pe) := hp0
          have hb := HBL.out
          have HB7 : Hid (Below w.heap.size w w7) := Lib.hid (HB6.out.trans (hb.mono HB6.out.size))
          have HZ7 : Hid (w6.heap.size ≤ w7.heap.size) := Lib.hid hb.size
          have HRk7 := Lib.hid (HRk0.out.below HB7.out (Nat.le_refl _))
          clear hb
          go_wp2_with fail
          refine (drawDecimalsOf_any _ L _ HRk7.out).mono ?_
          rintro e w8 ⟨⟨x2, y2, p2, rfl⟩, hb⟩
          have HB8 : Hid (Below w.heap.size w w8) := Lib.hid (HB7.out.trans (hb.mono HB7.out.size))
          have HZ8 : Hid (w7.heap.size ≤ w8.heap.size) := Lib.hid hb.size
          have HRk8 := Lib.hid (HRk0.out.below HB8.out (Nat.le_refl _))
          clear hb
          obtain ⟨d2, b2, h1, h2, h3⟩ := de_same x2 y2 p2
          have HE1 := Lib.hid h1
          have HE2 := Lib.hid h2
          clear h1 h2
          have hb2 : (b2 != b2) = false := by simp
          go_wp2_with fail
          refine (HE2.out _).mono ?_
          rintro e w9 ⟨⟨v, rfl, ho⟩, hb⟩
          have HB9 : Hid (Below w.heap.size w w9) := Lib.hid (HB8.out.trans (hb.mono HB8.out.size))
          have HZ9 : Hid (w8.heap.size ≤ w9.heap.size) := Lib.hid hb.size
          have HRk9 := Lib.hid (HRk0.out.below HB9.out (Nat.le_refl _))
          clear hb
          obtain ⟨qay, qcy, rfl⟩ := ho.form
          have HRy9 := Lib.hid (ho)
          have HBs9_9 : Hid (Below w9.heap.size w9 w9) := Lib.hid (Below.refl _ _)
          clear ho
          go_wp2_with fail
          refine (HE1.out _).mono ?_
          rintro e w10 ⟨⟨v, rfl, ho⟩, hb⟩
          have HB10 : Hid (Below w.heap.size w w10) := Lib.hid (HB9.out.trans (hb.mono HB9.out.size))
          have HZ10 : Hid (w9.heap.size ≤ w10.heap.size) := Lib.hid hb.size
          have HRk10 := Lib.hid (HRk0.out.below HB10.out (Nat.le_refl _))
          have HRy10 := Lib.hid (HRy9.out.below hb (Nat.le_refl _))
          have HBs9_10 : Hid (Below w9.heap.size w9 w10) := Lib.hid (HBs9_9.out.trans (hb.mono HBs9_9.out.size))
          clear hb
          obtain ⟨qaz, qcz, rfl⟩ := ho.form
          have HRz10 := Lib.hid (ho)
          have HBs10_10 : Hid (Below w10.heap.size w10 w10) := Lib.hid (Below.refl _ _)
          clear ho
          go_wp2_with fail
          refine (vInts_yes _ _ d2 _ HRy10.out HRz10.out).mono ?_
          rintro e w11 ⟨rfl, hb⟩
          have HB11 : Hid (Below w.heap.size w w11) := Lib.hid (HB10.out.trans (hb.mono HB10.out.size))
          have HZ11 : Hid (w10.heap.size ≤ w11.heap.size) := Lib.hid hb.size
          have HRk11 := Lib.hid (HRk0.out.below HB11.out (Nat.le_refl _))
          have HRy11 := Lib.hid (HRy10.out.below hb (Nat.le_refl _))
          have HRz11 := Lib.hid (HRz10.out.below hb (Nat.le_refl _))
          have HBs9_11 : Hid (Below w9.heap.size w9 w11) := Lib.hid (HBs9_10.out.trans (hb.mono HBs9_10.out.size))
          have HBs10_11 : Hid (Below w10.heap.size w10 w11) := Lib.hid (HBs10_10.out.trans (hb.mono HBs10_10.out.size))
          clear hb
          have hmd : d2.length ≤ 9223372036854775807 := by obtain ⟨_, _, _, ⟨m, _⟩, _⟩ := HRy11.out; exact m
          cases b2 with
          | true =>
            have hlp : ((d2.length : Int) != p2) = false := by rw [h3 rfl]; simp
            clear h3
            go_wp2_with fail
            refine (drawDivisorsOf_any _ L _ HRk11.out).mono ?_
            rintro e w12 ⟨⟨n3, rfl⟩, hb⟩
            have HB12 : Hid (Below w.heap.size w w12) := Lib.hid (HB11.out.trans (hb.mono HB11.out.size))
            have HZ12 : Hid (w11.heap.size ≤ w12.heap.size) := Lib.hid hb.size
            have HRk12 := Lib.hid (HRk0.out.below HB12.out (Nat.le_refl _))
            clear hb
            obtain ⟨ls, b3, h1, h2, h3⟩ := dr_same n3
            have HV1 := Lib.hid h1
            have HV2 := Lib.hid h2
            have HV3 := Lib.hid h3
            clear h1 h2 h3
            have hb3 : (b3 != b3) = false := by simp
            go_wp2_with fail
            refine (HV2.out _).mono ?_
            rintro e w13 ⟨⟨v, rfl, ho⟩, hb⟩
            have HB13 : Hid (Below w.heap.size w w13) := Lib.hid (HB12.out.trans (hb.mono HB12.out.size))
            have HZ13 : Hid (w12.heap.size ≤ w13.heap.size) := Lib.hid hb.size
            have HRk13 := Lib.hid (HRk0.out.below HB13.out (Nat.le_refl _))
            clear hb
            obtain ⟨qas, qcs, rfl⟩ := ho.form
            have HRs13 := Lib.hid (ho)
            have HBs13_13 : Hid (Below w13.heap.size w13 w13) := Lib.hid (Below.refl _ _)
            clear ho
            go_wp2_with fail
            refine (HV1.out _).mono ?_
            rintro e w14 ⟨⟨v, rfl, ho⟩, hb⟩
            have HB14 : Hid (Below w.heap.size w w14) := Lib.hid (HB13.out.trans (hb.mono HB13.out.size))
            have HZ14 : Hid (w13.heap.size ≤ w14.heap.size) := Lib.hid hb.size
            have HRk14 := Lib.hid (HRk0.out.below HB14.out (Nat.le_refl _))
            have HRs14 := Lib.hid (HRs13.out.below hb (Nat.le_refl _))
            have HBs13_14 : Hid (Below w13.heap.size w13 w14) := Lib.hid (HBs13_13.out.trans (hb.mono HBs13_13.out.size))
            clear hb
            obtain ⟨qat, qct, rfl⟩ := ho.form
            have HRt14 := Lib.hid (ho)
            have HBs14_14 : Hid (Below w14.heap.size w14 w14) := Lib.hid (Below.refl _ _)
            clear ho
            go_wp2_with fail
            refine (vInts_yes _ _ ls _ HRs14.out HRt14.out).mono ?_
            rintro e w15 ⟨rfl, hb⟩
            have HB15 : Hid (Below w.heap.size w w15) := Lib.hid (HB14.out.trans (hb.mono HB14.out.size))
            have HZ15 : Hid (w14.heap.size ≤ w15.heap.size) := Lib.hid hb.size
            have HRk15 := Lib.hid (HRk0.out.below HB15.out (Nat.le_refl _))
            have HRs15 := Lib.hid (HRs14.out.below hb (Nat.le_refl _))
            have HRt15 := Lib.hid (HRt14.out.below hb (Nat.le_refl _))
            have HBs13_15 : Hid (Below w13.heap.size w13 w15) := Lib.hid (HBs13_14.out.trans (hb.mono HBs13_14.out.size))
            have HBs14_15 : Hid (Below w14.heap.size w14 w15) := Lib.hid (HBs14_14.out.trans (hb.mono HBs14_14.out.size))
            clear hb
            have hml3 : ls.length ≤ 9223372036854775807 := by obtain ⟨_, _, _, ⟨m, _⟩, _⟩ := HRs15.out; exact m
            have HRS := Lib.hid HRs15.out.at
            have HBW := Lib.hid HB15.out
            go_wp2_with fail
            go_loopw [28] (fun iv wr => ∃ j : Nat, j ≤ ls.length ∧ iv = .int .i64 j ∧ Below w15.heap.size w15 wr) (fun iv _ => ls.length - (intOf iv).toNat)
            case atStart => exact ⟨0, Nat.zero_le _, rfl, Below.refl _ _⟩
            case round =>
              rename World => wj
              obtain ⟨j, hjk, rfl, hb⟩ := hrel
              have HBL := Lib.hid hb
              have z1 : (0 : Int) ≤ (j : Int) := by omega
              by_cases hlt : j < ls.length
              · obtain ⟨b0, o0, rfl, l0, k0⟩ := HRS.out _ hb j hlt
                have p1 : wj.cell? ⟨b0, o0 + j, none⟩ = some (.int .i64 ls[j]) := by have := k0 0 (by omega); rw [Nat.mul_one] at this; exact this
                obtain ⟨hq, hwr⟩ := HV3.out j hlt
                have HP : Hid (∀ w', Below w15.heap.size w15 w' → w'.cell? ⟨b0, o0 + j, none⟩ = some (.int .i64 ls[j])) := Lib.hid (fun w' hbb => by
                  obtain ⟨b9, o9, h9, _, k9⟩ := HRS.out w' hbb j hlt
                  injection h9 with h9
                  injection h9 with h91 h92
                  subst h91
                  subst h92
                  have := k9 0 (by omega)
                  rw [Nat.mul_one] at this
                  exact this)
                obtain ⟨X, hX⟩ : ∃ X, ls[j] = X := ⟨_, rfl⟩
                rw [hX] at p1 hq hwr HP
                have HQT := Lib.hid hq
                have z2 : (j : Int) < (ls.length : Int) := by omega
                obtain ⟨Y, hY⟩ : ∃ Y, n3 / X = Y := ⟨_, rfl⟩
                rw [hY] at HQT hwr
                have hnn : (n3 != n3) = false := by simp
                clear k0 hq hX hY hb
                go_wp2_with fail
                refine (HQT.out _).mono ?_
                rintro e wk ⟨rfl, hbk⟩
                have HBK := Lib.hid (HBL.out.trans (hbk.mono HBL.out.size))
                have p2 := HP.out wk HBK.out
                clear p1 hbk
                go_wp2_with fail
                go_roundw
                case rel => exact ⟨j + 1, by omega, by go_num, HBK.out⟩
                case measure => simp [intOf]; omega
              · obtain rfl : j = ls.length := by omega
                have HBE := Lib.hid (HBW.out.trans (HBL.out.mono HBW.out.size))
                clear hb
                go_wp2_with fail
                go_ret
                exact ⟨rfl, HBE.out⟩
          | false =>
            clear h3
            go_wp2_with fail
            refine (drawDivisorsOf_any _ L _ HRk11.out).mono ?_
            rintro e w12 ⟨⟨n3, rfl⟩, hb⟩
            have HB12 : Hid (Below w.heap.size w w12) := Lib.hid (HB11.out.trans (hb.mono HB11.out.size))
            have HZ12 : Hid (w11.heap.size ≤ w12.heap.size) := Lib.hid hb.size
            have HRk12 := Lib.hid (HRk0.out.below HB12.out (Nat.le_refl _))
            clear hb
            obtain ⟨ls, b3, h1, h2, h3⟩ := dr_same n3
            have HV1 := Lib.hid h1
            have HV2 := Lib.hid h2
            have HV3 := Lib.hid h3
            clear h1 h2 h3
            have hb3 : (b3 != b3) = false := by simp
            go_wp2_with fail
            refine (HV2.out _).mono ?_
            rintro e w13 ⟨⟨v, rfl, ho⟩, hb⟩
            have HB13 : Hid (Below w.heap.size w w13) := Lib.hid (HB12.out.trans (hb.mono HB12.out.size))
            have HZ13 : Hid (w12.heap.size ≤ w13.heap.size) := Lib.hid hb.size
            have HRk13 := Lib.hid (HRk0.out.below HB13.out (Nat.le_refl _))
            clear hb
            obtain ⟨qas, qcs, rfl⟩ := ho.form
            have HRs13 := Lib.hid (ho)
            have HBs13_13 : Hid (Below w13.heap.size w13 w13) := Lib.hid (Below.refl _ _)
            clear ho
            go_wp2_with fail
            refine (HV1.out _).mono ?_
            rintro e w14 ⟨⟨v, rfl, ho⟩, hb⟩
            have HB14 : Hid (Below w.heap.size w w14) := Lib.hid (HB13.out.trans (hb.mono HB13.out.size))
            have HZ14 : Hid (w13.heap.size ≤ w14.heap.size) := Lib.hid hb.size
            have HRk14 := Lib.hid (HRk0.out.below HB14.out (Nat.le_refl _))
            have HRs14 := Lib.hid (HRs13.out.below hb (Nat.le_refl _))
            have HBs13_14 : Hid (Below w13.heap.size w13 w14) := Lib.hid (HBs13_13.out.trans (hb.mono HBs13_13.out.size))
            clear hb
            obtain ⟨qat, qct, rfl⟩ := ho.form
            have HRt14 := Lib.hid (ho)
            have HBs14_14 : Hid (Below w14.heap.size w14 w14) := Lib.hid (Below.refl _ _)
            clear ho
            go_wp2_with fail
            refine (vInts_yes _ _ ls _ HRs14.out HRt14.out).mono ?_
            rintro e w15 ⟨rfl, hb⟩
            have HB15 : Hid (Below w.heap.size w w15) := Lib.hid (HB14.out.trans (hb.mono HB14.out.size))
            have HZ15 : Hid (w14.heap.size ≤ w15.heap.size) := Lib.hid hb.size
            have HRk15 := Lib.hid (HRk0.out.below HB15.out (Nat.le_refl _))
            have HRs15 := Lib.hid (HRs14.out.below hb (Nat.le_refl _))
            have HRt15 := Lib.hid (HRt14.out.below hb (Nat.le_refl _))
            have HBs13_15 : Hid (Below w13.heap.size w13 w15) := Lib.hid (HBs13_14.out.trans (hb.mono HBs13_14.out.size))
            have HBs14_15 : Hid (Below w14.heap.size w14 w15) := Lib.hid (HBs14_14.out.trans (hb.mono HBs14_14.out.size))
            clear hb
            have hml3 : ls.length ≤ 9223372036854775807 := by obtain ⟨_, _, _, ⟨m, _⟩, _⟩ := HRs15.out; exact m
            have HRS := Lib.hid HRs15.out.at
            have HBW := Lib.hid HB15.out
            go_wp2_with fail
            go_loopw [28] (fun iv wr => ∃ j : Nat, j ≤ ls.length ∧ iv = .int .i64 j ∧ Below w15.heap.size w15 wr) (fun iv _ => ls.length - (intOf iv).toNat)
            case atStart => exact ⟨0, Nat.zero_le _, rfl, Below.refl _ _⟩
            case round =>
              rename World => wj
              obtain ⟨j, hjk, rfl, hb⟩ := hrel
              have HBL := Lib.hid hb
              have z1 : (0 : Int) ≤ (j : Int) := by omega
              by_cases hlt : j < ls.length
              · obtain ⟨b0, o0, rfl, l0, k0⟩ := HRS.out _ hb j hlt
                have p1 : wj.cell? ⟨b0, o0 + j, none⟩ = some (.int .i64 ls[j]) := by have := k0 0 (by omega); rw [Nat.mul_one] at this; exact this
                obtain ⟨hq, hwr⟩ := HV3.out j hlt
                have HP : Hid (∀ w', Below w15.heap.size w15 w' → w'.cell? ⟨b0, o0 + j, none⟩ = some (.int .i64 ls[j])) := Lib.hid (fun w' hbb => by
                  obtain ⟨b9, o9, h9, _, k9⟩ := HRS.out w' hbb j hlt
                  injection h9 with h9
                  injection h9 with h91 h92
                  subst h91
                  subst h92
                  have := k9 0 (by omega)
                  rw [Nat.mul_one] at this
                  exact this)
                obtain ⟨X, hX⟩ : ∃ X, ls[j] = X := ⟨_, rfl⟩
                rw [hX] at p1 hq hwr HP
                have HQT := Lib.hid hq
                have z2 : (j : Int) < (ls.length : Int) := by omega
                obtain ⟨Y, hY⟩ : ∃ Y, n3 / X = Y := ⟨_, rfl⟩
                rw [hY] at HQT hwr
                have hnn : (n3 != n3) = false := by simp
                clear k0 hq hX hY hb
                go_wp2_with fail
                refine (HQT.out _).mono ?_
                rintro e wk ⟨rfl, hbk⟩
                have HBK := Lib.hid (HBL.out.trans (hbk.mono HBL.out.size))
                have p2 := HP.out wk HBK.out
                clear p1 hbk
                go_wp2_with fail
                go_roundw
                case rel => exact ⟨j + 1, by omega, by go_num, HBK.out⟩
                case measure => simp [intOf]; omega
              · obtain rfl : j = ls.length := by omega
                have HBE := Lib.hid (HBW.out.trans (HBL.out.mono HBW.out.size))
                clear hb
                go_wp2_with fail
                go_ret
                exact ⟨rfl, HBE.out⟩
    | false =>
      clear hY
      go_wp2_with fail
      refine (drawDecimalsOf_any _ L _ HRk3.out).mono ?_
      rintro e w4 ⟨⟨x2, y2, p2, rfl⟩, hb⟩
      have HB4 : Hid (Below w.heap.size w w4) := Lib.hid (HB3.out.trans (hb.mono HB3.out.size))
      have HZ4 : Hid (w3.heap.size ≤ w4.heap.size) := Lib.hid hb.size
      have HRk4 := Lib.hid (HRk0.out.below HB4.out (Nat.le_refl _))
      clear hb
      obtain ⟨d2, b2, h1, h2, h3⟩ := de_same x2 y2 p2
      have HE1 := Lib.hid h1
      have HE2 := Lib.hid h2
      clear h1 h2
      have hb2 : (b2 != b2) = false := by simp
      go_wp2_with fail
      refine (HE2.out _).mono ?_
      rintro e w5 ⟨⟨v, rfl, ho⟩, hb⟩
      have HB5 : Hid (Below w.heap.size w w5) := Lib.hid (HB4.out.trans (hb.mono HB4.out.size))
      have HZ5 : Hid (w4.heap.size ≤ w5.heap.size) := Lib.hid hb.size
      have HRk5 := Lib.hid (HRk0.out.below HB5.out (Nat.le_refl _))
      clear hb
      obtain ⟨qay, qcy, rfl⟩ := ho.form
      have HRy5 := Lib.hid (ho)
      have HBs5_5 : Hid (Below w5.heap.size w5 w5) := Lib.hid (Below.refl _ _)
      clear ho
      go_wp2_with fail
      refine (HE1.out _).mono ?_
      rintro e w6 ⟨⟨v, rfl, ho⟩, hb⟩
      have HB6 : Hid (Below w.heap.size w w6) := Lib.hid (HB5.out.trans (hb.mono HB5.out.size))
      have HZ6 : Hid (w5.heap.size ≤ w6.heap.size) := Lib.hid hb.size
      have HRk6 := Lib.hid (HRk0.out.below HB6.out (Nat.le_refl _))
      have HRy6 := Lib.hid (HRy5.out.below hb (Nat.le_refl _))
      have HBs5_6 : Hid (Below w5.heap.size w5 w6) := Lib.hid (HBs5_5.out.trans (hb.mono HBs5_5.out.size))
      clear hb
      obtain ⟨qaz, qcz, rfl⟩ := ho.form
      have HRz6 := Lib.hid (ho)
      have HBs6_6 : Hid (Below w6.heap.size w6 w6) := Lib.hid (Below.refl _ _)
      clear ho
      go_wp2_with fail
      refine (vInts_yes _ _ d2 _ HRy6.out HRz6.out).mono ?_
      rintro e w7 ⟨rfl, hb⟩
      have HB7 : Hid (Below w.heap.size w w7) := Lib.hid (HB6.out.trans (hb.mono HB6.out.size))
      have HZ7 : Hid (w6.heap.size ≤ w7.heap.size) := Lib.hid hb.size
      have HRk7 := Lib.hid (HRk0.out.below HB7.out (Nat.le_refl _))
      have HRy7 := Lib.hid (HRy6.out.below hb (Nat.le_refl _))
      have HRz7 := Lib.hid (HRz6.out.below hb (Nat.le_refl _))
      have HBs5_7 : Hid (Below w5.heap.size w5 w7) := Lib.hid (HBs5_6.out.trans (hb.mono HBs5_6.out.size))
      have HBs6_7 : Hid (Below w6.heap.size w6 w7) := Lib.hid (HBs6_6.out.trans (hb.mono HBs6_6.out.size))
      clear hb
      have hmd : d2.length ≤ 9223372036854775807 := by obtain ⟨_, _, _, ⟨m, _⟩, _⟩ := HRy7.out; exact m
      cases b2 with
      | true =>
        have hlp : ((d2.length : Int) != p2) = false := by rw [h3 rfl]; simp
        clear h3
        go_wp2_with fail
        refine (drawDivisorsOf_any _ L _ HRk7.out).mono ?_
        rintro e w8 ⟨⟨n3, rfl⟩, hb⟩
        have HB8 : Hid (Below w.heap.size w w8) := Lib.hid (HB7.out.trans (hb.mono HB7.out.size))
        have HZ8 : Hid (w7.heap.size ≤ w8.heap.size) := Lib.hid hb.size
        have HRk8 := Lib.hid (HRk0.out.below HB8.out (Nat.le_refl _))
        clear hb
        obtain ⟨ls, b3, h1, h2, h3⟩ := dr_same n3
        have HV1 := Lib.hid h1
        have HV2 := Lib.hid h2
        have HV3 := Lib.hid h3
        clear h1 h2 h3
        have hb3 : (b3 != b3) = false := by simp
        go_wp2_with fail
        refine (HV2.out _).mono ?_
        rintro e w9 ⟨⟨v, rfl, ho⟩, hb⟩
        have HB9 : Hid (Below w.heap.size w w9) := Lib.hid (HB8.out.trans (hb.mono HB8.out.size))
        have HZ9 : Hid (w8.heap.size ≤ w9.heap.size) := Lib.hid hb.size
        have HRk9 := Lib.hid (HRk0.out.below HB9.out (Nat.le_refl _))
        clear hb
        obtain ⟨qas, qcs, rfl⟩ := ho.form
        have HRs9 := Lib.hid (ho)
        have HBs9_9 : Hid (Below w9.heap.size w9 w9) := Lib.hid (Below.refl _ _)
        clear ho
        go_wp2_with fail
        refine (HV1.out _).mono ?_
        rintro e w10 ⟨⟨v, rfl, ho⟩, hb⟩
        have HB10 : Hid (Below w.heap.size w w10) := Lib.hid (HB9.out.trans (hb.mono HB9.out.size))
        have HZ10 : Hid (w9.heap.size ≤ w10.heap.size) := Lib.hid hb.size
        have HRk10 := Lib.hid (HRk0.out.below HB10.out (Nat.le_refl _))
        have HRs10 := Lib.hid (HRs9.out.below hb (Nat.le_refl _))
        have HBs9_10 : Hid (Below w9.heap.size w9 w10) := Lib.hid (HBs9_9.out.trans (hb.mono HBs9_9.out.size))
        clear hb
        obtain ⟨qat, qct, rfl⟩ := ho.form
        have HRt10 := Lib.hid (ho)
        have HBs10_10 : Hid (Below w10.heap.size w10 w10) := Lib.hid (Below.refl _ _)
        clear ho
        go_wp2_with fail
        refine (vInts_yes _ _ ls _ HRs10.out HRt10.out).mono ?_
        rintro e w11 ⟨rfl, hb⟩
        have HB11 : Hid (Below w.heap.size w w11) := Lib.hid (HB10.out.trans (hb.mono HB10.out.size))
        have HZ11 : Hid (w10.heap.size ≤ w11.heap.size) := Lib.hid hb.size
        have HRk11 := Lib.hid (HRk0.out.below HB11.out (Nat.le_refl _))
        have HRs11 := Lib.hid (HRs10.out.below hb (Nat.le_refl _))
        have HRt11 := Lib.hid (HRt10.out.below hb (Nat.le_refl _))
        have HBs9_11 : Hid (Below w9.heap.size w9 w11) := Lib.hid (HBs9_10.out.trans (hb.mono HBs9_10.out.size))
        have HBs10_11 : Hid (Below w10.heap.size w10 w11) := Lib.hid (HBs10_10.out.trans (hb.mono HBs10_10.out.size))
        clear hb
        have hml3 : ls.length ≤ 9223372036854775807 := by obtain ⟨_, _, _, ⟨m, _⟩, _⟩ := HRs11.out; exact m
        have HRS := Lib.hid HRs11.out.at
        have HBW := Lib.hid HB11.out
        go_wp2_with fail
        go_loopw [28] (fun iv wr => ∃ j : Nat, j ≤ ls.length ∧ iv = .int .i64 j ∧ Below w11.heap.size w11 wr) (fun iv _ => ls.length - (intOf iv).toNat)
        case atStart => exact ⟨0, Nat.zero_le _, rfl, Below.refl _ _⟩
        case round =>
          rename World => wj
          obtain ⟨j, hjk, rfl, hb⟩ := hrel
          have HBL := Lib.hid hb
          have z1 : (0 : Int) ≤ (j : Int) := by omega
          by_cases hlt : j < ls.length
          · obtain ⟨b0, o0, rfl, l0, k0⟩ := HRS.out _ hb j hlt
            have p1 : wj.cell? ⟨b0, o0 + j, none⟩ = some (.int .i64 ls[j]) := by have := k0 0 (by omega); rw [Nat.mul_one] at this; exact this
            obtain ⟨hq, hwr⟩ := HV3.out j hlt
            have HP : Hid (∀ w', Below w11.heap.size w11 w' → w'.cell? ⟨b0, o0 + j, none⟩ = some (.int .i64 ls[j])) := Lib.hid (fun w' hbb => by
              obtain ⟨b9, o9, h9, _, k9⟩ := HRS.out w' hbb j hlt
              injection h9 with h9
              injection h9 with h91 h92
              subst h91
              subst h92
              have := k9 0 (by omega)
              rw [Nat.mul_one] at this
              exact this)
            obtain ⟨X, hX⟩ : ∃ X, ls[j] = X := ⟨_, rfl⟩
            rw [hX] at p1 hq hwr HP
            have HQT := Lib.hid hq
            have z2 : (j : Int) < (ls.length : Int) := by omega
            obtain ⟨Y, hY⟩ : ∃ Y, n3 / X = Y := ⟨_, rfl⟩
            rw [hY] at HQT hwr
            have hnn : (n3 != n3) = false := by simp
            clear k0 hq hX hY hb
            go_wp2_with fail
            refine (HQT.out _).mono ?_
            rintro e wk ⟨rfl, hbk⟩
            have HBK := Lib.hid (HBL.out.trans (hbk.mono HBL.out.size))
            have p2 := HP.out wk HBK.out
            clear p1 hbk
            go_wp2_with fail
            go_roundw
            case rel => exact ⟨j + 1, by omega, by go_num, HBK.out⟩
            case measure => simp [intOf]; omega
          · obtain rfl : j = ls.length := by omega
            have HBE := Lib.hid (HBW.out.trans (HBL.out.mono HBW.out.size))
            clear hb
            go_wp2_with fail
            go_ret
            exact ⟨rfl, HBE.out⟩
      | false =>
        clear h3
        go_wp2_with fail
        refine (drawDivisorsOf_any _ L _ HRk7.out).mono ?_
        rintro e w8 ⟨⟨n3, rfl⟩, hb⟩
        have HB8 : Hid (Below w.heap.size w w8) := Lib.hid (HB7.out.trans (hb.mono HB7.out.size))
        have HZ8 : Hid (w7.heap.size ≤ w8.heap.size) := Lib.hid hb.size
        have HRk8 := Lib.hid (HRk0.out.below HB8.out (Nat.le_refl _))
        clear hb
        obtain ⟨ls, b3, h1, h2, h3⟩ := dr_same n3
        have HV1 := Lib.hid h1
        have HV2 := Lib.hid h2
        have HV3 := Lib.hid h3
        clear h1 h2 h3
        have hb3 : (b3 != b3) = false := by simp
        go_wp2_with fail
        refine (HV2.out _).mono ?_
        rintro e w9 ⟨⟨v, rfl, ho⟩, hb⟩
        have HB9 : Hid (Below w.heap.size w w9) := Lib.hid (HB8.out.trans (hb.mono HB8.out.size))
        have HZ9 : Hid (w8.heap.size ≤ w9.heap.size) := Lib.hid hb.size
        have HRk9 := Lib.hid (HRk0.out.below HB9.out (Nat.le_refl _))
        clear hb
        obtain ⟨qas, qcs, rfl⟩ := ho.form
        have HRs9 := Lib.hid (ho)
        have HBs9_9 : Hid (Below w9.heap.size w9 w9) := Lib.hid (Below.refl _ _)
        clear ho
        go_wp2_with fail
        refine (HV1.out _).mono ?_
        rintro e w10 ⟨⟨v, rfl, ho⟩, hb⟩
        have HB10 : Hid (Below w.heap.size w w10) := Lib.hid (HB9.out.trans (hb.mono HB9.out.size))
        have HZ10 : Hid (w9.heap.size ≤ w10.heap.size) := Lib.hid hb.size
        have HRk10 := Lib.hid (HRk0.out.below HB10.out (Nat.le_refl _))
        have HRs10 := Lib.hid (HRs9.out.below hb (Nat.le_refl _))
        have HBs9_10 : Hid (Below w9.heap.size w9 w10) := Lib.hid (HBs9_9.out.trans (hb.mono HBs9_9.out.size))
        clear hb
        obtain ⟨qat, qct, rfl⟩ := ho.form
        have HRt10 := Lib.hid (ho)
        have HBs10_10 : Hid (Below w10.heap.size w10 w10) := Lib.hid (Below.refl _ _)
        clear ho
        go_wp2_with fail
        refine (vInts_yes _ _ ls _ HRs10.out HRt10.out).mono ?_
        rintro e w11 ⟨rfl, hb⟩
        have HB11 : Hid (Below w.heap.size w w11) := Lib.hid (HB10.out.trans (hb.mono HB10.out.size))
        have HZ11 : Hid (w10.heap.size ≤ w11.heap.size) := Lib.hid hb.size
        have HRk11 := Lib.hid (HRk0.out.below HB11.out (Nat.le_refl _))
        have HRs11 := Lib.hid (HRs10.out.below hb (Nat.le_refl _))
        have HRt11 := Lib.hid (HRt10.out.below hb (Nat.le_refl _))
        have HBs9_11 : Hid (Below w9.heap.size w9 w11) := Lib.hid (HBs9_10.out.trans (hb.mono HBs9_10.out.size))
        have HBs10_11 : Hid (Below w10.heap.size w10 w11) := Lib.hid (HBs10_10.out.trans (hb.mono HBs10_10.out.size))
        clear hb
        have hml3 : ls.length ≤ 9223372036854775807 := by obtain ⟨_, _, _, ⟨m, _⟩, _⟩ := HRs11.out; exact m
        have HRS := Lib.hid HRs11.out.at
        have HBW := Lib.hid HB11.out
        go_wp2_with fail
        go_loopw [28] (fun iv wr => ∃ j : Nat, j ≤ ls.length ∧ iv = .int .i64 j ∧ Below w11.heap.size w11 wr) (fun iv _ => ls.length - (intOf iv).toNat)
        case atStart => exact ⟨0, Nat.zero_le _, rfl, Below.refl _ _⟩
        case round =>
          rename World => wj
          obtain ⟨j, hjk, rfl, hb⟩ := hrel
          have HBL := Lib.hid hb
          have z1 : (0 : Int) ≤ (j : Int) := by omega
          by_cases hlt : j < ls.length
          · obtain ⟨b0, o0, rfl, l0, k0⟩ := HRS.out _ hb j hlt
            have p1 : wj.cell? ⟨b0, o0 + j, none⟩ = some (.int .i64 ls[j]) := by have := k0 0 (by omega); rw [Nat.mul_one] at this; exact this
            obtain ⟨hq, hwr⟩ := HV3.out j hlt
            have HP : Hid (∀ w', Below w11.heap.size w11 w' → w'.cell? ⟨b0, o0 + j, none⟩ = some (.int .i64 ls[j])) := Lib.hid (fun w' hbb => by
              obtain ⟨b9, o9, h9, _, k9⟩ := HRS.out w' hbb j hlt
              injection h9 with h9
              injection h9 with h91 h92
              subst h91
              subst h92
              have := k9 0 (by omega)
              rw [Nat.mul_one] at this
              exact this)
            obtain ⟨X, hX⟩ : ∃ X, ls[j] = X := ⟨_, rfl⟩
            rw [hX] at p1 hq hwr HP
            have HQT := Lib.hid hq
            have z2 : (j : Int) < (ls.length : Int) := by omega
            obtain ⟨Y, hY⟩ : ∃ Y, n3 / X = Y := ⟨_, rfl⟩
            rw [hY] at HQT hwr
            have hnn : (n3 != n3) = false := by simp
            clear k0 hq hX hY hb
            go_wp2_with fail
            refine (HQT.out _).mono ?_
            rintro e wk ⟨rfl, hbk⟩
            have HBK := Lib.hid (HBL.out.trans (hbk.mono HBL.out.size))
            have p2 := HP.out wk HBK.out
            clear p1 hbk
            go_wp2_with fail
            go_roundw
            case rel => exact ⟨j + 1, by omega, by go_num, HBK.out⟩
            case measure => simp [intOf]; omega
          · obtain rfl : j = ls.length := by omega
            have HBE := Lib.hid (HBW.out.trans (HBL.out.mono HBW.out.size))
            clear hb
            go_wp2_with fail
            go_ret
            exact ⟨rfl, HBE.out⟩
end Go.Proofs.Ytocaiddpeoimhaa
