/- The law FnLevels. -/
import Derived.Test.YtlhcediejccieaaVpu
import Derived.Test.YtlhcediejccieaaVtb
import Derived.Test.YtlhcediejccieaaLv1
import Derived.Test.YtlhcediejccieaaDpd
namespace Go.Proofs.Ytlhcediejccieaa
set_option linter.unusedVariables false
open Go.RowKit
set_option linter.unusedSimpArgs false

set_option maxRecDepth 100000 in
set_option maxHeartbeats 12800000 in
theorem lawLevels (w : World) (ad : Option Addr) (cp : Nat) (L : List UInt8) (h : SlR w (.slice ad L.length cp) (L.map fun c => .int .u8 (c.toNat : Int))) :
    Calls Try.prog 4 #[.slice ad L.length cp] w fun e w' => e = .returned (.bool true) ∧ Below w.heap.size w w' := by
  have hm : L.length ≤ 9223372036854775807 := by
    obtain ⟨a, c, e, ⟨m, _⟩, _⟩ := h
    rw [List.length_map] at m
    exact m
  have HB0 : Hid (Below w.heap.size w w) := Lib.hid (Below.refl _ _)
  have HRk0 := Lib.hid (h)
  clear h
  by_cases hbig : (65536 : Int) < (L.length : Int)
  · go_enter Try.func4, Try.ntmps4
    go_wp2_with fail
    refine (rBig_any ad L.length cp _ true (decide_eq_true hbig)).mono ?_
    rintro e w' ⟨rfl, hw⟩
    subst w'
    go_wp2_with fail
    go_ret
    exact ⟨rfl, Below.refl _ _⟩
  · go_enter Try.func4, Try.ntmps4
    go_wp2_with fail
    refine (rBig_any ad L.length cp _ false (decide_eq_false (by omega))).mono ?_
    rintro e w' ⟨rfl, hw⟩
    subst w'
    go_wp2_with fail
    refine (drawPlaceAll_any _ L _ HRk0.out).mono ?_
    rintro e w1 ⟨⟨v, ps, rfl, ho, hl, hnm⟩, hb⟩
    have HB1 : Hid (Below w.heap.size w w1) := Lib.hid (HB0.out.trans (hb.mono HB0.out.size))
    have HZ1 : Hid (w.heap.size ≤ w1.heap.size) := Lib.hid hb.size
    have HRk1 := Lib.hid (HRk0.out.below HB1.out (Nat.le_refl _))
    clear hb
    obtain ⟨qap, qcp, rfl⟩ := ho.form
    have HRp1 := Lib.hid (ho)
    have HBs1_1 : Hid (Below w1.heap.size w1 w1) := Lib.hid (Below.refl _ _)
    clear ho
    obtain ⟨qs, n, xss, b, hS, hI, hT, hJ, hY⟩ := pl_same ps hnm hl
    have HS1 := Lib.hid hS
    have HI1 := Lib.hid hI
    clear hS hI
    have HT1 := Lib.hid hT
    have HJ1 := Lib.hid hJ
    clear hT hJ hnm
    have hneb : (b != b) = false := by simp
    have hnen : (n != n) = false := by simp
    go_wp2_with fail
    refine (HI1.out _ _ HRp1.out).mono ?_
    rintro e w2 ⟨⟨v, rfl, ho⟩, hb⟩
    have HB2 : Hid (Below w.heap.size w w2) := Lib.hid (HB1.out.trans (hb.mono HB1.out.size))
    have HZ2 : Hid (w1.heap.size ≤ w2.heap.size) := Lib.hid hb.size
    have HRk2 := Lib.hid (HRk0.out.below HB2.out (Nat.le_refl _))
    have HRp2 := Lib.hid (HRp1.out.below hb (Nat.le_refl _))
    have HBs1_2 : Hid (Below w1.heap.size w1 w2) := Lib.hid (HBs1_1.out.trans (hb.mono HBs1_1.out.size))
    clear hb
    obtain ⟨qaq, qcq, rfl⟩ := ho.form
    have HRq2 := Lib.hid (ho)
    have HBs2_2 : Hid (Below w2.heap.size w2 w2) := Lib.hid (Below.refl _ _)
    clear ho
    go_wp2_with fail
    refine (HS1.out _ _ HRp2.out).mono ?_
    rintro e w3 ⟨⟨v, rfl, ho⟩, hb⟩
    have HB3 : Hid (Below w.heap.size w w3) := Lib.hid (HB2.out.trans (hb.mono HB2.out.size))
    have HZ3 : Hid (w2.heap.size ≤ w3.heap.size) := Lib.hid hb.size
    have HRk3 := Lib.hid (HRk0.out.below HB3.out (Nat.le_refl _))
    have HRp3 := Lib.hid (HRp2.out.below hb (Nat.le_refl _))
    have HRq3 := Lib.hid (HRq2.out.below hb (Nat.le_refl _))
    have HBs1_3 : Hid (Below w1.heap.size w1 w3) := Lib.hid (HBs1_2.out.trans (hb.mono HBs1_2.out.size))
    have HBs2_3 : Hid (Below w2.heap.size w2 w3) := Lib.hid (HBs2_2.out.trans (hb.mono HBs2_2.out.size))
    clear hb
    obtain ⟨qar, qcr, rfl⟩ := ho.form
    have HRr3 := Lib.hid (ho)
    have HBs3_3 : Hid (Below w3.heap.size w3 w3) := Lib.hid (Below.refl _ _)
    clear ho
    go_wp2_with fail
    refine (rPupils_yes _ _ qs _ HRq3.out HRr3.out).mono ?_
    rintro e w4 ⟨rfl, hb⟩
    have HB4 : Hid (Below w.heap.size w w4) := Lib.hid (HB3.out.trans (hb.mono HB3.out.size))
    have HZ4 : Hid (w3.heap.size ≤ w4.heap.size) := Lib.hid hb.size
    have HRk4 := Lib.hid (HRk0.out.below HB4.out (Nat.le_refl _))
    have HRp4 := Lib.hid (HRp3.out.below hb (Nat.le_refl _))
    have HRq4 := Lib.hid (HRq3.out.below hb (Nat.le_refl _))
    have HRr4 := Lib.hid (HRr3.out.below hb (Nat.le_refl _))
    have HBs1_4 : Hid (Below w1.heap.size w1 w4) := Lib.hid (HBs1_3.out.trans (hb.mono HBs1_3.out.size))
    have HBs2_4 : Hid (Below w2.heap.size w2 w4) := Lib.hid (HBs2_3.out.trans (hb.mono HBs2_3.out.size))
    have HBs3_4 : Hid (Below w3.heap.size w3 w4) := Lib.hid (HBs3_3.out.trans (hb.mono HBs3_3.out.size))
    clear hb
    cases b with
    | true =>
      obtain ⟨is, k1, k2, k3, k4⟩ := hY rfl
      subst k2
      have HK1 := Lib.hid k1
      have HK3 := Lib.hid k3
      have HK4 := Lib.hid k4
      clear hY k1 k3 k4
      go_wp2_with fail
      refine (HK1.out _ _ HRq4.out).mono ?_
      rintro e w5 ⟨⟨v, rfl, ho⟩, hb⟩
      have HB5 : Hid (Below w.heap.size w w5) := Lib.hid (HB4.out.trans (hb.mono HB4.out.size))
      have HZ5 : Hid (w4.heap.size ≤ w5.heap.size) := Lib.hid hb.size
      have HRk5 := Lib.hid (HRk0.out.below HB5.out (Nat.le_refl _))
      have HRp5 := Lib.hid (HRp4.out.below hb (Nat.le_refl _))
      have HRq5 := Lib.hid (HRq4.out.below hb (Nat.le_refl _))
      have HBs1_5 : Hid (Below w1.heap.size w1 w5) := Lib.hid (HBs1_4.out.trans (hb.mono HBs1_4.out.size))
      have HBs2_5 : Hid (Below w2.heap.size w2 w5) := Lib.hid (HBs2_4.out.trans (hb.mono HBs2_4.out.size))
      clear hb
      obtain ⟨qai, qci, rfl⟩ := ho.form
      have HRi5 := Lib.hid (ho)
      have HBs5_5 : Hid (Below w5.heap.size w5 w5) := Lib.hid (Below.refl _ _)
      clear ho
      go_wp2_with fail
      refine (HK4.out _ _ HRq5.out).mono ?_
      rintro e w6 ⟨⟨v, rfl, ho⟩, hb⟩
      have HB6 : Hid (Below w.heap.size w w6) := Lib.hid (HB5.out.trans (hb.mono HB5.out.size))
      have HZ6 : Hid (w5.heap.size ≤ w6.heap.size) := Lib.hid hb.size
      have HRk6 := Lib.hid (HRk0.out.below HB6.out (Nat.le_refl _))
      have HRp6 := Lib.hid (HRp5.out.below hb (Nat.le_refl _))
      have HRq6 := Lib.hid (HRq5.out.below hb (Nat.le_refl _))
      have HRi6 := Lib.hid (HRi5.out.below hb (Nat.le_refl _))
      have HBs1_6 : Hid (Below w1.heap.size w1 w6) := Lib.hid (HBs1_5.out.trans (hb.mono HBs1_5.out.size))
      have HBs2_6 : Hid (Below w2.heap.size w2 w6) := Lib.hid (HBs2_5.out.trans (hb.mono HBs2_5.out.size))
      have HBs5_6 : Hid (Below w5.heap.size w5 w6) := Lib.hid (HBs5_5.out.trans (hb.mono HBs5_5.out.size))
      clear hb
      obtain ⟨qaa, qca, rfl⟩ := ho.form
      have HRa6 := Lib.hid (ho)
      have HBs6_6 : Hid (Below w6.heap.size w6 w6) := Lib.hid (Below.refl _ _)
      clear ho
      go_wp2_with fail
      refine (HK3.out _ _ HRq6.out).mono ?_
      rintro e w7 ⟨rfl, hb⟩
      have HB7 : Hid (Below w.heap.size w w7) := Lib.hid (HB6.out.trans (hb.mono HB6.out.size))
      have HZ7 : Hid (w6.heap.size ≤ w7.heap.size) := Lib.hid hb.size
      have HRk7 := Lib.hid (HRk0.out.below HB7.out (Nat.le_refl _))
      have HRp7 := Lib.hid (HRp6.out.below hb (Nat.le_refl _))
      have HRq7 := Lib.hid (HRq6.out.below hb (Nat.le_refl _))
      have HRi7 := Lib.hid (HRi6.out.below hb (Nat.le_refl _))
      have HRa7 := Lib.hid (HRa6.out.below hb (Nat.le_refl _))
      have HBs1_7 : Hid (Below w1.heap.size w1 w7) := Lib.hid (HBs1_6.out.trans (hb.mono HBs1_6.out.size))
      have HBs2_7 : Hid (Below w2.heap.size w2 w7) := Lib.hid (HBs2_6.out.trans (hb.mono HBs2_6.out.size))
      have HBs5_7 : Hid (Below w5.heap.size w5 w7) := Lib.hid (HBs5_6.out.trans (hb.mono HBs5_6.out.size))
      have HBs6_7 : Hid (Below w6.heap.size w6 w7) := Lib.hid (HBs6_6.out.trans (hb.mono HBs6_6.out.size))
      clear hb
      go_wp2_with fail
      refine (rPupils_yes _ _ qs _ HRa7.out HRq7.out).mono ?_
      rintro e w8 ⟨rfl, hb⟩
      have HB8 : Hid (Below w.heap.size w w8) := Lib.hid (HB7.out.trans (hb.mono HB7.out.size))
      have HZ8 : Hid (w7.heap.size ≤ w8.heap.size) := Lib.hid hb.size
      have HRk8 := Lib.hid (HRk0.out.below HB8.out (Nat.le_refl _))
      have HRp8 := Lib.hid (HRp7.out.below hb (Nat.le_refl _))
      have HRq8 := Lib.hid (HRq7.out.below hb (Nat.le_refl _))
      have HRi8 := Lib.hid (HRi7.out.below hb (Nat.le_refl _))
      have HRa8 := Lib.hid (HRa7.out.below hb (Nat.le_refl _))
      have HBs1_8 : Hid (Below w1.heap.size w1 w8) := Lib.hid (HBs1_7.out.trans (hb.mono HBs1_7.out.size))
      have HBs2_8 : Hid (Below w2.heap.size w2 w8) := Lib.hid (HBs2_7.out.trans (hb.mono HBs2_7.out.size))
      have HBs5_8 : Hid (Below w5.heap.size w5 w8) := Lib.hid (HBs5_7.out.trans (hb.mono HBs5_7.out.size))
      have HBs6_8 : Hid (Below w6.heap.size w6 w8) := Lib.hid (HBs6_7.out.trans (hb.mono HBs6_7.out.size))
      clear hb
      go_wp2_with fail
      refine (drawRaiseLevel_any _ L _ HRk8.out).mono ?_
      rintro e w9 ⟨⟨v, ls, id2, rfl, ho, hl2, hnm2⟩, hb⟩
      have HB9 : Hid (Below w.heap.size w w9) := Lib.hid (HB8.out.trans (hb.mono HB8.out.size))
      have HZ9 : Hid (w8.heap.size ≤ w9.heap.size) := Lib.hid hb.size
      have HRk9 := Lib.hid (HRk0.out.below HB9.out (Nat.le_refl _))
      have HRp9 := Lib.hid (HRp8.out.below hb (Nat.le_refl _))
      have HBs1_9 : Hid (Below w1.heap.size w1 w9) := Lib.hid (HBs1_8.out.trans (hb.mono HBs1_8.out.size))
      clear hb
      obtain ⟨qal, qcl, rfl⟩ := ho.form
      have HRl9 := Lib.hid (ho)
      have HBs9_9 : Hid (Below w9.heap.size w9 w9) := Lib.hid (Below.refl _ _)
      clear ho
      obtain ⟨rs, b2, hS, hI, hV2⟩ := ra_same ls hnm2 hl2 id2
      have HS2 := Lib.hid hS
      have HI2 := Lib.hid hI
      clear hS hI
      have HV2 := Lib.hid hV2
      clear hV2 hnm2
      have hneb2 : (b2 != b2) = false := by simp
      go_wp2_with fail
      refine (HI2.out _ _ HRl9.out).mono ?_
      rintro e w10 ⟨⟨v, rfl, ho⟩, hb⟩
      have HB10 : Hid (Below w.heap.size w w10) := Lib.hid (HB9.out.trans (hb.mono HB9.out.size))
      have HZ10 : Hid (w9.heap.size ≤ w10.heap.size) := Lib.hid hb.size
      have HRk10 := Lib.hid (HRk0.out.below HB10.out (Nat.le_refl _))
      have HRp10 := Lib.hid (HRp9.out.below hb (Nat.le_refl _))
      have HRl10 := Lib.hid (HRl9.out.below hb (Nat.le_refl _))
      have HBs1_10 : Hid (Below w1.heap.size w1 w10) := Lib.hid (HBs1_9.out.trans (hb.mono HBs1_9.out.size))
      have HBs9_10 : Hid (Below w9.heap.size w9 w10) := Lib.hid (HBs9_9.out.trans (hb.mono HBs9_9.out.size))
      clear hb
      obtain ⟨qas, qcs, rfl⟩ := ho.form
      have HRs10 := Lib.hid (ho)
      have HBs10_10 : Hid (Below w10.heap.size w10 w10) := Lib.hid (Below.refl _ _)
      clear ho
      go_wp2_with fail
      refine (HS2.out _ _ HRl10.out).mono ?_
      rintro e w11 ⟨⟨v, rfl, ho⟩, hb⟩
      have HB11 : Hid (Below w.heap.size w w11) := Lib.hid (HB10.out.trans (hb.mono HB10.out.size))
      have HZ11 : Hid (w10.heap.size ≤ w11.heap.size) := Lib.hid hb.size
      have HRk11 := Lib.hid (HRk0.out.below HB11.out (Nat.le_refl _))
      have HRp11 := Lib.hid (HRp10.out.below hb (Nat.le_refl _))
      have HRl11 := Lib.hid (HRl10.out.below hb (Nat.le_refl _))
      have HRs11 := Lib.hid (HRs10.out.below hb (Nat.le_refl _))
      have HBs1_11 : Hid (Below w1.heap.size w1 w11) := Lib.hid (HBs1_10.out.trans (hb.mono HBs1_10.out.size))
      have HBs9_11 : Hid (Below w9.heap.size w9 w11) := Lib.hid (HBs9_10.out.trans (hb.mono HBs9_10.out.size))
      have HBs10_11 : Hid (Below w10.heap.size w10 w11) := Lib.hid (HBs10_10.out.trans (hb.mono HBs10_10.out.size))
      clear hb
      obtain ⟨qat, qct, rfl⟩ := ho.form
      have HRt11 := Lib.hid (ho)
      have HBs11_11 : Hid (Below w11.heap.size w11 w11) := Lib.hid (Below.refl _ _)
      clear ho
      go_wp2_with fail
      refine (rPupils_yes _ _ rs _ HRs11.out HRt11.out).mono ?_
      rintro e w12 ⟨rfl, hb⟩
      have HB12 : Hid (Below w.heap.size w w12) := Lib.hid (HB11.out.trans (hb.mono HB11.out.size))
      have HZ12 : Hid (w11.heap.size ≤ w12.heap.size) := Lib.hid hb.size
      have HRk12 := Lib.hid (HRk0.out.below HB12.out (Nat.le_refl _))
      have HRp12 := Lib.hid (HRp11.out.below hb (Nat.le_refl _))
      have HRl12 := Lib.hid (HRl11.out.below hb (Nat.le_refl _))
      have HRs12 := Lib.hid (HRs11.out.below hb (Nat.le_refl _))
      have HRt12 := Lib.hid (HRt11.out.below hb (Nat.le_refl _))
      have HBs1_12 : Hid (Below w1.heap.size w1 w12) := Lib.hid (HBs1_11.out.trans (hb.mono HBs1_11.out.size))
      have HBs9_12 : Hid (Below w9.heap.size w9 w12) := Lib.hid (HBs9_11.out.trans (hb.mono HBs9_11.out.size))
      have HBs10_12 : Hid (Below w10.heap.size w10 w12) := Lib.hid (HBs10_11.out.trans (hb.mono HBs10_11.out.size))
      have HBs11_12 : Hid (Below w11.heap.size w11 w12) := Lib.hid (HBs11_11.out.trans (hb.mono HBs11_11.out.size))
      clear hb
      have hmr : rs.length ≤ 9223372036854775807 := by obtain ⟨_, _, _, ⟨m, _⟩, _⟩ := HRs12.out; exact m
      have HRL := Lib.hid HRl12.out.at
      have HRS := Lib.hid HRs12.out.at
      have HRP := Lib.hid HRp12.out
      have HBW := Lib.hid HB12.out
      go_wp2_with fail
      go_loopw [21] (fun iv wr => ∃ j : Nat, j ≤ ls.length ∧ j ≤ rs.length ∧ iv = .int .i64 j ∧ Below w12.heap.size w12 wr) (fun iv _ => ls.length - (intOf iv).toNat)
      case atStart => exact ⟨0, Nat.zero_le _, Nat.zero_le _, rfl, Below.refl _ _⟩
      case round =>
        rename World => w60
        obtain ⟨j, q1, q2, rfl, hb⟩ := hrel
        have HBL := Lib.hid hb
        by_cases hlt : j < ls.length
        · by_cases hlr : j < rs.length
          · obtain ⟨e1, o1, rfl, l1, k1⟩ := HRL.out _ hb j hlt
            obtain ⟨e2, o2, rfl, l2, k2⟩ := HRS.out _ hb j hlr
            have p0 : w60.cell? ⟨e1, o1 + j * 5, none⟩ = some (.int .i64 ls[j].id) := k1 0 (by omega)
            have p4 : w60.cell? ⟨e1, o1 + j * 5 + 4, none⟩ = some (.int .i64 ls[j].lvl) := k1 4 (by omega)
            have p5 : w60.cell? ⟨e2, o2 + j * 5 + 4, none⟩ = some (.int .i64 rs[j].lvl) := k2 4 (by omega)
            have hv := HV2.out j hlt hlr
            have z1 : (0 : Int) ≤ (j : Int) := by omega
            have z2 : (j : Int) < (ls.length : Int) := by omega
            have z3 : (j : Int) < (rs.length : Int) := by omega
            clear k1 k2 hb
            generalize ls[j].id = y0 at p0 hv
            generalize ls[j].lvl = y1 at p4 hv
            generalize rs[j].lvl = y2 at p5 hv
            by_cases he : y0 = id2
            · have he1 : (y0 == id2) = true := by simp [he]
              obtain ⟨v1, v2, v3⟩ := hv he
              have hw : IntKind.i64.wrap (y1 + 1) = y1 + 1 := by rw [IntKind.wrap_i64]; omega
              have hnn : (y2 != y1 + 1) = false := by simp [v1]
              clear hv he
              go_wp2_with fail
              go_quiet (fail)
              rename Nat => nq
              have HBq := Lib.hid (bl_drewN HBL.out nq)
              clear p0 p4 p5
              generalize w60.drewN nq = wq at HBq ⊢
              go_wp2_with fail
              go_roundw
              case rel => exact ⟨j + 1, by omega, by omega, by go_num, HBq.out⟩
              case measure => simp [intOf]; omega
            · have he1 : (y0 == id2) = false := beq_eq_false_iff_ne.2 he
              clear hv
              go_wp2_with fail
              go_quiet (fail)
              rename Nat => nq
              have HBq := Lib.hid (bl_drewN HBL.out nq)
              clear p0 p4 p5
              generalize w60.drewN nq = wq at HBq ⊢
              go_wp2_with fail
              go_roundw
              case rel => exact ⟨j + 1, by omega, by omega, by go_num, HBq.out⟩
              case measure => simp [intOf]; omega
          · have z2 : (j : Int) < (ls.length : Int) := by omega
            have z3 : ¬ (j : Int) < (rs.length : Int) := by omega
            have hb9 := HBW.out.trans (hb.mono HBW.out.size)
            have HB60 : Hid (Below w.heap.size w w60) := Lib.hid hb9
            have HRk60 := Lib.hid (HRk0.out.below HB60.out (Nat.le_refl _))
            have HRp60 := Lib.hid ((HRP.out.below HBL.out (Nat.le_refl _)))
            have HBs60_60 : Hid (Below w60.heap.size w60 w60) := Lib.hid (Below.refl _ _)
            clear hb hb9
            go_wp2_with fail
            refine (HJ1.out _ _ HRp60.out).mono ?_
            rintro e w61 ⟨⟨v, rfl, ho⟩, hb⟩
            have HB61 : Hid (Below w.heap.size w w61) := Lib.hid (HB60.out.trans (hb.mono HB60.out.size))
            have HZ61 : Hid (w60.heap.size ≤ w61.heap.size) := Lib.hid hb.size
            have HRk61 := Lib.hid (HRk0.out.below HB61.out (Nat.le_refl _))
            have HRp61 := Lib.hid (HRp60.out.below hb (Nat.le_refl _))
            have HBs60_61 : Hid (Below w60.heap.size w60 w61) := Lib.hid (HBs60_60.out.trans (hb.mono HBs60_60.out.size))
            clear hb
            obtain ⟨qay, qcy, rfl⟩ := ho.form
            have HRy61 := Lib.hid (ho)
            have HBs61_61 : Hid (Below w61.heap.size w61 w61) := Lib.hid (Below.refl _ _)
            clear ho
            go_wp2_with fail
            refine (HT1.out _ _ HRp61.out).mono ?_
            rintro e w62 ⟨⟨v, rfl, ho⟩, hb⟩
            have HB62 : Hid (Below w.heap.size w w62) := Lib.hid (HB61.out.trans (hb.mono HB61.out.size))
            have HZ62 : Hid (w61.heap.size ≤ w62.heap.size) := Lib.hid hb.size
            have HRk62 := Lib.hid (HRk0.out.below HB62.out (Nat.le_refl _))
            have HRp62 := Lib.hid (HRp61.out.below hb (Nat.le_refl _))
            have HRy62 := Lib.hid (HRy61.out.below hb (Nat.le_refl _))
            have HBs60_62 : Hid (Below w60.heap.size w60 w62) := Lib.hid (HBs60_61.out.trans (hb.mono HBs60_61.out.size))
            have HBs61_62 : Hid (Below w61.heap.size w61 w62) := Lib.hid (HBs61_61.out.trans (hb.mono HBs61_61.out.size))
            clear hb
            obtain ⟨qaz, qcz, rfl⟩ := ho.form
            have HRz62 := Lib.hid (ho)
            have HBs62_62 : Hid (Below w62.heap.size w62 w62) := Lib.hid (Below.refl _ _)
            clear ho
            go_wp2_with fail
            refine (rTable_yes _ _ xss _ HRy62.out HRz62.out).mono ?_
            rintro e w63 ⟨rfl, hb⟩
            have HB63 : Hid (Below w.heap.size w w63) := Lib.hid (HB62.out.trans (hb.mono HB62.out.size))
            have HZ63 : Hid (w62.heap.size ≤ w63.heap.size) := Lib.hid hb.size
            have HRk63 := Lib.hid (HRk0.out.below HB63.out (Nat.le_refl _))
            have HRy63 := Lib.hid (HRy62.out.below hb (Nat.le_refl _))
            have HRz63 := Lib.hid (HRz62.out.below hb (Nat.le_refl _))
            have HBs61_63 : Hid (Below w61.heap.size w61 w63) := Lib.hid (HBs61_62.out.trans (hb.mono HBs61_62.out.size))
            have HBs62_63 : Hid (Below w62.heap.size w62 w63) := Lib.hid (HBs62_62.out.trans (hb.mono HBs62_62.out.size))
            clear hb
            go_wp2_with fail
            refine (drawMeanLevel_any _ L _ HRk63.out).mono ?_
            rintro e w64 ⟨⟨v, us, c3, rfl, ho, hl3, hnm3⟩, hb⟩
            have HB64 : Hid (Below w.heap.size w w64) := Lib.hid (HB63.out.trans (hb.mono HB63.out.size))
            have HZ64 : Hid (w63.heap.size ≤ w64.heap.size) := Lib.hid hb.size
            have HRk64 := Lib.hid (HRk0.out.below HB64.out (Nat.le_refl _))
            clear hb
            obtain ⟨qau, qcu, rfl⟩ := ho.form
            have HRu64 := Lib.hid (ho)
            have HBs64_64 : Hid (Below w64.heap.size w64 w64) := Lib.hid (Below.refl _ _)
            clear ho
            obtain ⟨m1, m2, x3, t3, is3, r3, hS, hI, hO, hP, hC, hY3⟩ := mo_same us hnm3 hl3 c3
            have HS3 := Lib.hid hS
            have HI3 := Lib.hid hI
            clear hS hI
            have HO3 := Lib.hid hO
            have HP3 := Lib.hid hP
            have HC3 := Lib.hid hC
            clear hO hP hC hnm3
            have hnem1 : (m1 != m1) = false := by simp
            have hnem2 : (m2 != m2) = false := by simp
            have hnex3 : (x3 != x3) = false := by simp
            have hnet3 : (t3 != t3) = false := by simp
            go_wp2_with fail
            refine (HI3.out _ _ HRu64.out).mono ?_
            rintro e w65 ⟨rfl, hb⟩
            have HB65 : Hid (Below w.heap.size w w65) := Lib.hid (HB64.out.trans (hb.mono HB64.out.size))
            have HZ65 : Hid (w64.heap.size ≤ w65.heap.size) := Lib.hid hb.size
            have HRk65 := Lib.hid (HRk0.out.below HB65.out (Nat.le_refl _))
            have HRu65 := Lib.hid (HRu64.out.below hb (Nat.le_refl _))
            have HBs64_65 : Hid (Below w64.heap.size w64 w65) := Lib.hid (HBs64_64.out.trans (hb.mono HBs64_64.out.size))
            clear hb
            go_wp2_with fail
            refine (HS3.out _ _ HRu65.out).mono ?_
            rintro e w66 ⟨rfl, hb⟩
            have HB66 : Hid (Below w.heap.size w w66) := Lib.hid (HB65.out.trans (hb.mono HB65.out.size))
            have HZ66 : Hid (w65.heap.size ≤ w66.heap.size) := Lib.hid hb.size
            have HRk66 := Lib.hid (HRk0.out.below HB66.out (Nat.le_refl _))
            have HRu66 := Lib.hid (HRu65.out.below hb (Nat.le_refl _))
            have HBs64_66 : Hid (Below w64.heap.size w64 w66) := Lib.hid (HBs64_65.out.trans (hb.mono HBs64_65.out.size))
            clear hb
            go_wp2_with fail
            refine (HP3.out _ _ HRu66.out).mono ?_
            rintro e w67 ⟨rfl, hb⟩
            have HB67 : Hid (Below w.heap.size w w67) := Lib.hid (HB66.out.trans (hb.mono HB66.out.size))
            have HZ67 : Hid (w66.heap.size ≤ w67.heap.size) := Lib.hid hb.size
            have HRk67 := Lib.hid (HRk0.out.below HB67.out (Nat.le_refl _))
            have HRu67 := Lib.hid (HRu66.out.below hb (Nat.le_refl _))
            have HBs64_67 : Hid (Below w64.heap.size w64 w67) := Lib.hid (HBs64_66.out.trans (hb.mono HBs64_66.out.size))
            clear hb
            go_wp2_with fail
            refine (HO3.out _ _ HRu67.out).mono ?_
            rintro e w68 ⟨rfl, hb⟩
            have HB68 : Hid (Below w.heap.size w w68) := Lib.hid (HB67.out.trans (hb.mono HB67.out.size))
            have HZ68 : Hid (w67.heap.size ≤ w68.heap.size) := Lib.hid hb.size
            have HRk68 := Lib.hid (HRk0.out.below HB68.out (Nat.le_refl _))
            have HRu68 := Lib.hid (HRu67.out.below hb (Nat.le_refl _))
            have HBs64_68 : Hid (Below w64.heap.size w64 w68) := Lib.hid (HBs64_67.out.trans (hb.mono HBs64_67.out.size))
            clear hb
            go_wp2_with fail
            refine (HC3.out _ _ HRu68.out).mono ?_
            rintro e w69 ⟨⟨v, rfl, ho⟩, hb⟩
            have HB69 : Hid (Below w.heap.size w w69) := Lib.hid (HB68.out.trans (hb.mono HB68.out.size))
            have HZ69 : Hid (w68.heap.size ≤ w69.heap.size) := Lib.hid hb.size
            have HRk69 := Lib.hid (HRk0.out.below HB69.out (Nat.le_refl _))
            have HRu69 := Lib.hid (HRu68.out.below hb (Nat.le_refl _))
            have HBs64_69 : Hid (Below w64.heap.size w64 w69) := Lib.hid (HBs64_68.out.trans (hb.mono HBs64_68.out.size))
            clear hb
            obtain ⟨qao, qco, rfl⟩ := ho.form
            have HRo69 := Lib.hid (ho)
            have HBs69_69 : Hid (Below w69.heap.size w69 w69) := Lib.hid (Below.refl _ _)
            clear ho
            cases t3 with
            | false =>
              clear hY3
              go_wp2_with fail
              go_ret
              exact ⟨ret_bool (by first | (simp; done) | rfl), HB69.out⟩
            | true =>
              obtain ⟨rfl, hin⟩ := hY3 rfl
              go_wp2_with fail
              refine (rHas_any _ is3 x3 true _ HRo69.out (by simp [hin])).mono ?_
              rintro e w70 ⟨rfl, hb⟩
              have HB70 : Hid (Below w.heap.size w w70) := Lib.hid (HB69.out.trans (hb.mono HB69.out.size))
              have HZ70 : Hid (w69.heap.size ≤ w70.heap.size) := Lib.hid hb.size
              have HRk70 := Lib.hid (HRk0.out.below HB70.out (Nat.le_refl _))
              have HRo70 := Lib.hid (HRo69.out.below hb (Nat.le_refl _))
              have HBs69_70 : Hid (Below w69.heap.size w69 w70) := Lib.hid (HBs69_69.out.trans (hb.mono HBs69_69.out.size))
              clear hb
              go_wp2_with fail
              go_ret
              exact ⟨ret_bool (by first | (simp; done) | rfl), HB70.out⟩
        · have z2 : ¬ (j : Int) < (ls.length : Int) := by omega
          have hb9 := HBW.out.trans (hb.mono HBW.out.size)
          have HB60 : Hid (Below w.heap.size w w60) := Lib.hid hb9
          have HRk60 := Lib.hid (HRk0.out.below HB60.out (Nat.le_refl _))
          have HRp60 := Lib.hid ((HRP.out.below HBL.out (Nat.le_refl _)))
          have HBs60_60 : Hid (Below w60.heap.size w60 w60) := Lib.hid (Below.refl _ _)
          clear hb hb9
          go_wp2_with fail
          refine (HJ1.out _ _ HRp60.out).mono ?_
          rintro e w61 ⟨⟨v, rfl, ho⟩, hb⟩
          have HB61 : Hid (Below w.heap.size w w61) := Lib.hid (HB60.out.trans (hb.mono HB60.out.size))
          have HZ61 : Hid (w60.heap.size ≤ w61.heap.size) := Lib.hid hb.size
          have HRk61 := Lib.hid (HRk0.out.below HB61.out (Nat.le_refl _))
          have HRp61 := Lib.hid (HRp60.out.below hb (Nat.le_refl _))
          have HBs60_61 : Hid (Below w60.heap.size w60 w61) := Lib.hid (HBs60_60.out.trans (hb.mono HBs60_60.out.size))
          clear hb
          obtain ⟨qay, qcy, rfl⟩ := ho.form
          have HRy61 := Lib.hid (ho)
          have HBs61_61 : Hid (Below w61.heap.size w61 w61) := Lib.hid (Below.refl _ _)
          clear ho
          go_wp2_with fail
          refine (HT1.out _ _ HRp61.out).mono ?_
          rintro e w62 ⟨⟨v, rfl, ho⟩, hb⟩
          have HB62 : Hid (Below w.heap.size w w62) := Lib.hid (HB61.out.trans (hb.mono HB61.out.size))
          have HZ62 : Hid (w61.heap.size ≤ w62.heap.size) := Lib.hid hb.size
          have HRk62 := Lib.hid (HRk0.out.below HB62.out (Nat.le_refl _))
          have HRp62 := Lib.hid (HRp61.out.below hb (Nat.le_refl _))
          have HRy62 := Lib.hid (HRy61.out.below hb (Nat.le_refl _))
          have HBs60_62 : Hid (Below w60.heap.size w60 w62) := Lib.hid (HBs60_61.out.trans (hb.mono HBs60_61.out.size))
          have HBs61_62 : Hid (Below w61.heap.size w61 w62) := Lib.hid (HBs61_61.out.trans (hb.mono HBs61_61.out.size))
          clear hb
          obtain ⟨qaz, qcz, rfl⟩ := ho.form
          have HRz62 := Lib.hid (ho)
          have HBs62_62 : Hid (Below w62.heap.size w62 w62) := Lib.hid (Below.refl _ _)
          clear ho
          go_wp2_with fail
          refine (rTable_yes _ _ xss _ HRy62.out HRz62.out).mono ?_
          rintro e w63 ⟨rfl, hb⟩
          have HB63 : Hid (Below w.heap.size w w63) := Lib.hid (HB62.out.trans (hb.mono HB62.out.size))
          have HZ63 : Hid (w62.heap.size ≤ w63.heap.size) := Lib.hid hb.size
          have HRk63 := Lib.hid (HRk0.out.below HB63.out (Nat.le_refl _))
          have HRy63 := Lib.hid (HRy62.out.below hb (Nat.le_refl _))
          have HRz63 := Lib.hid (HRz62.out.below hb (Nat.le_refl _))
          have HBs61_63 : Hid (Below w61.heap.size w61 w63) := Lib.hid (HBs61_62.out.trans (hb.mono HBs61_62.out.size))
          have HBs62_63 : Hid (Below w62.heap.size w62 w63) := Lib.hid (HBs62_62.out.trans (hb.mono HBs62_62.out.size))
          clear hb
          go_wp2_with fail
          refine (drawMeanLevel_any _ L _ HRk63.out).mono ?_
          rintro e w64 ⟨⟨v, us, c3, rfl, ho, hl3, hnm3⟩, hb⟩
          have HB64 : Hid (Below w.heap.size w w64) := Lib.hid (HB63.out.trans (hb.mono HB63.out.size))
          have HZ64 : Hid (w63.heap.size ≤ w64.heap.size) := Lib.hid hb.size
          have HRk64 := Lib.hid (HRk0.out.below HB64.out (Nat.le_refl _))
          clear hb
          obtain ⟨qau, qcu, rfl⟩ := ho.form
          have HRu64 := Lib.hid (ho)
          have HBs64_64 : Hid (Below w64.heap.size w64 w64) := Lib.hid (Below.refl _ _)
          clear ho
          obtain ⟨m1, m2, x3, t3, is3, r3, hS, hI, hO, hP, hC, hY3⟩ := mo_same us hnm3 hl3 c3
          have HS3 := Lib.hid hS
          have HI3 := Lib.hid hI
          clear hS hI
          have HO3 := Lib.hid hO
          have HP3 := Lib.hid hP
          have HC3 := Lib.hid hC
          clear hO hP hC hnm3
          have hnem1 : (m1 != m1) = false := by simp
          have hnem2 : (m2 != m2) = false := by simp
          have hnex3 : (x3 != x3) = false := by simp
          have hnet3 : (t3 != t3) = false := by simp
          go_wp2_with fail
          refine (HI3.out _ _ HRu64.out).mono ?_
          rintro e w65 ⟨rfl, hb⟩
          have HB65 : Hid (Below w.heap.size w w65) := Lib.hid (HB64.out.trans (hb.mono HB64.out.size))
          have HZ65 : Hid (w64.heap.size ≤ w65.heap.size) := Lib.hid hb.size
          have HRk65 := Lib.hid (HRk0.out.below HB65.out (Nat.le_refl _))
          have HRu65 := Lib.hid (HRu64.out.below hb (Nat.le_refl _))
          have HBs64_65 : Hid (Below w64.heap.size w64 w65) := Lib.hid (HBs64_64.out.trans (hb.mono HBs64_64.out.size))
          clear hb
          go_wp2_with fail
          refine (HS3.out _ _ HRu65.out).mono ?_
          rintro e w66 ⟨rfl, hb⟩
          have HB66 : Hid (Below w.heap.size w w66) := Lib.hid (HB65.out.trans (hb.mono HB65.out.size))
          have HZ66 : Hid (w65.heap.size ≤ w66.heap.size) := Lib.hid hb.size
          have HRk66 := Lib.hid (HRk0.out.below HB66.out (Nat.le_refl _))
          have HRu66 := Lib.hid (HRu65.out.below hb (Nat.le_refl _))
          have HBs64_66 : Hid (Below w64.heap.size w64 w66) := Lib.hid (HBs64_65.out.trans (hb.mono HBs64_65.out.size))
          clear hb
          go_wp2_with fail
          refine (HP3.out _ _ HRu66.out).mono ?_
          rintro e w67 ⟨rfl, hb⟩
          have HB67 : Hid (Below w.heap.size w w67) := Lib.hid (HB66.out.trans (hb.mono HB66.out.size))
          have HZ67 : Hid (w66.heap.size ≤ w67.heap.size) := Lib.hid hb.size
          have HRk67 := Lib.hid (HRk0.out.below HB67.out (Nat.le_refl _))
          have HRu67 := Lib.hid (HRu66.out.below hb (Nat.le_refl _))
          have HBs64_67 : Hid (Below w64.heap.size w64 w67) := Lib.hid (HBs64_66.out.trans (hb.mono HBs64_66.out.size))
          clear hb
          go_wp2_with fail
          refine (HO3.out _ _ HRu67.out).mono ?_
          rintro e w68 ⟨rfl, hb⟩
          have HB68 : Hid (Below w.heap.size w w68) := Lib.hid (HB67.out.trans (hb.mono HB67.out.size))
          have HZ68 : Hid (w67.heap.size ≤ w68.heap.size) := Lib.hid hb.size
          have HRk68 := Lib.hid (HRk0.out.below HB68.out (Nat.le_refl _))
          have HRu68 := Lib.hid (HRu67.out.below hb (Nat.le_refl _))
          have HBs64_68 : Hid (Below w64.heap.size w64 w68) := Lib.hid (HBs64_67.out.trans (hb.mono HBs64_67.out.size))
          clear hb
          go_wp2_with fail
          refine (HC3.out _ _ HRu68.out).mono ?_
          rintro e w69 ⟨⟨v, rfl, ho⟩, hb⟩
          have HB69 : Hid (Below w.heap.size w w69) := Lib.hid (HB68.out.trans (hb.mono HB68.out.size))
          have HZ69 : Hid (w68.heap.size ≤ w69.heap.size) := Lib.hid hb.size
          have HRk69 := Lib.hid (HRk0.out.below HB69.out (Nat.le_refl _))
          have HRu69 := Lib.hid (HRu68.out.below hb (Nat.le_refl _))
          have HBs64_69 : Hid (Below w64.heap.size w64 w69) := Lib.hid (HBs64_68.out.trans (hb.mono HBs64_68.out.size))
          clear hb
          obtain ⟨qao, qco, rfl⟩ := ho.form
          have HRo69 := Lib.hid (ho)
          have HBs69_69 : Hid (Below w69.heap.size w69 w69) := Lib.hid (Below.refl _ _)
          clear ho
          cases t3 with
          | false =>
            clear hY3
            go_wp2_with fail
            go_ret
            exact ⟨ret_bool (by first | (simp; done) | rfl), HB69.out⟩
          | true =>
            obtain ⟨rfl, hin⟩ := hY3 rfl
            go_wp2_with fail
            refine (rHas_any _ is3 x3 true _ HRo69.out (by simp [hin])).mono ?_
            rintro e w70 ⟨rfl, hb⟩
            have HB70 : Hid (Below w.heap.size w w70) := Lib.hid (HB69.out.trans (hb.mono HB69.out.size))
            have HZ70 : Hid (w69.heap.size ≤ w70.heap.size) := Lib.hid hb.size
            have HRk70 := Lib.hid (HRk0.out.below HB70.out (Nat.le_refl _))
            have HRo70 := Lib.hid (HRo69.out.below hb (Nat.le_refl _))
            have HBs69_70 : Hid (Below w69.heap.size w69 w70) := Lib.hid (HBs69_69.out.trans (hb.mono HBs69_69.out.size))
            clear hb
            go_wp2_with fail
            go_ret
            exact ⟨ret_bool (by first | (simp; done) | rfl), HB70.out⟩
    | false =>
      clear hY
      go_wp2_with fail
      refine (drawRaiseLevel_any _ L _ HRk4.out).mono ?_
      rintro e w5 ⟨⟨v, ls, id2, rfl, ho, hl2, hnm2⟩, hb⟩
      have HB5 : Hid (Below w.heap.size w w5) := Lib.hid (HB4.out.trans (hb.mono HB4.out.size))
      have HZ5 : Hid (w4.heap.size ≤ w5.heap.size) := Lib.hid hb.size
      have HRk5 := Lib.hid (HRk0.out.below HB5.out (Nat.le_refl _))
      have HRp5 := Lib.hid (HRp4.out.below hb (Nat.le_refl _))
      have HBs1_5 : Hid (Below w1.heap.size w1 w5) := Lib.hid (HBs1_4.out.trans (hb.mono HBs1_4.out.size))
      clear hb
      obtain ⟨qal, qcl, rfl⟩ := ho.form
      have HRl5 := Lib.hid (ho)
      have HBs5_5 : Hid (Below w5.heap.size w5 w5) := Lib.hid (Below.refl _ _)
      clear ho
      obtain ⟨rs, b2, hS, hI, hV2⟩ := ra_same ls hnm2 hl2 id2
      have HS2 := Lib.hid hS
      have HI2 := Lib.hid hI
      clear hS hI
      have HV2 := Lib.hid hV2
      clear hV2 hnm2
      have hneb2 : (b2 != b2) = false := by simp
      go_wp2_with fail
      refine (HI2.out _ _ HRl5.out).mono ?_
      rintro e w6 ⟨⟨v, rfl, ho⟩, hb⟩
      have HB6 : Hid (Below w.heap.size w w6) := Lib.hid (HB5.out.trans (hb.mono HB5.out.size))
      have HZ6 : Hid (w5.heap.size ≤ w6.heap.size) := Lib.hid hb.size
      have HRk6 := Lib.hid (HRk0.out.below HB6.out (Nat.le_refl _))
      have HRp6 := Lib.hid (HRp5.out.below hb (Nat.le_refl _))
      have HRl6 := Lib.hid (HRl5.out.below hb (Nat.le_refl _))
      have HBs1_6 : Hid (Below w1.heap.size w1 w6) := Lib.hid (HBs1_5.out.trans (hb.mono HBs1_5.out.size))
      have HBs5_6 : Hid (Below w5.heap.size w5 w6) := Lib.hid (HBs5_5.out.trans (hb.mono HBs5_5.out.size))
      clear hb
      obtain ⟨qas, qcs, rfl⟩ := ho.form
      have HRs6 := Lib.hid (ho)
      have HBs6_6 : Hid (Below w6.heap.size w6 w6) := Lib.hid (Below.refl _ _)
      clear ho
      go_wp2_with fail
      refine (HS2.out _ _ HRl6.out).mono ?_
      rintro e w7 ⟨⟨v, rfl, ho⟩, hb⟩
      have HB7 : Hid (Below w.heap.size w w7) := Lib.hid (HB6.out.trans (hb.mono HB6.out.size))
      have HZ7 : Hid (w6.heap.size ≤ w7.heap.size) := Lib.hid hb.size
      have HRk7 := Lib.hid (HRk0.out.below HB7.out (Nat.le_refl _))
      have HRp7 := Lib.hid (HRp6.out.below hb (Nat.le_refl _))
      have HRl7 := Lib.hid (HRl6.out.below hb (Nat.le_refl _))
      have HRs7 := Lib.hid (HRs6.out.below hb (Nat.le_refl _))
      have HBs1_7 : Hid (Below w1.heap.size w1 w7) := Lib.hid (HBs1_6.out.trans (hb.mono HBs1_6.out.size))
      have HBs5_7 : Hid (Below w5.heap.size w5 w7) := Lib.hid (HBs5_6.out.trans (hb.mono HBs5_6.out.size))
      have HBs6_7 : Hid (Below w6.heap.size w6 w7) := Lib.hid (HBs6_6.out.trans (hb.mono HBs6_6.out.size))
      clear hb
      obtain ⟨qat, qct, rfl⟩ := ho.form
      have HRt7 := Lib.hid (ho)
      have HBs7_7 : Hid (Below w7.heap.size w7 w7) := Lib.hid (Below.refl _ _)
      clear ho
      go_wp2_with fail
      refine (rPupils_yes _ _ rs _ HRs7.out HRt7.out).mono ?_
      rintro e w8 ⟨rfl, hb⟩
      have HB8 : Hid (Below w.heap.size w w8) := Lib.hid (HB7.out.trans (hb.mono HB7.out.size))
      have HZ8 : Hid (w7.heap.size ≤ w8.heap.size) := Lib.hid hb.size
      have HRk8 := Lib.hid (HRk0.out.below HB8.out (Nat.le_refl _))
      have HRp8 := Lib.hid (HRp7.out.below hb (Nat.le_refl _))
      have HRl8 := Lib.hid (HRl7.out.below hb (Nat.le_refl _))
      have HRs8 := Lib.hid (HRs7.out.below hb (Nat.le_refl _))
      have HRt8 := Lib.hid (HRt7.out.below hb (Nat.le_refl _))
      have HBs1_8 : Hid (Below w1.heap.size w1 w8) := Lib.hid (HBs1_7.out.trans (hb.mono HBs1_7.out.size))
      have HBs5_8 : Hid (Below w5.heap.size w5 w8) := Lib.hid (HBs5_7.out.trans (hb.mono HBs5_7.out.size))
      have HBs6_8 : Hid (Below w6.heap.size w6 w8) := Lib.hid (HBs6_7.out.trans (hb.mono HBs6_7.out.size))
      have HBs7_8 : Hid (Below w7.heap.size w7 w8) := Lib.hid (HBs7_7.out.trans (hb.mono HBs7_7.out.size))
      clear hb
      have hmr : rs.length ≤ 9223372036854775807 := by obtain ⟨_, _, _, ⟨m, _⟩, _⟩ := HRs8.out; exact m
      have HRL := Lib.hid HRl8.out.at
      have HRS := Lib.hid HRs8.out.at
      have HRP := Lib.hid HRp8.out
      have HBW := Lib.hid HB8.out
      go_wp2_with fail
      go_loopw [21] (fun iv wr => ∃ j : Nat, j ≤ ls.length ∧ j ≤ rs.length ∧ iv = .int .i64 j ∧ Below w8.heap.size w8 wr) (fun iv _ => ls.length - (intOf iv).toNat)
      case atStart => exact ⟨0, Nat.zero_le _, Nat.zero_le _, rfl, Below.refl _ _⟩
      case round =>
        rename World => w60
        obtain ⟨j, q1, q2, rfl, hb⟩ := hrel
        have HBL := Lib.hid hb
        by_cases hlt : j < ls.length
        · by_cases hlr : j < rs.length
          · obtain ⟨e1, o1, rfl, l1, k1⟩ := HRL.out _ hb j hlt
            obtain ⟨e2, o2, rfl, l2, k2⟩ := HRS.out _ hb j hlr
            have p0 : w60.cell? ⟨e1, o1 + j * 5, none⟩ = some (.int .i64 ls[j].id) := k1 0 (by omega)
            have p4 : w60.cell? ⟨e1, o1 + j * 5 + 4, none⟩ = some (.int .i64 ls[j].lvl) := k1 4 (by omega)
            have p5 : w60.cell? ⟨e2, o2 + j * 5 + 4, none⟩ = some (.int .i64 rs[j].lvl) := k2 4 (by omega)
            have hv := HV2.out j hlt hlr
            have z1 : (0 : Int) ≤ (j : Int) := by omega
            have z2 : (j : Int) < (ls.length : Int) := by omega
            have z3 : (j : Int) < (rs.length : Int) := by omega
            clear k1 k2 hb
            generalize ls[j].id = y0 at p0 hv
            generalize ls[j].lvl = y1 at p4 hv
            generalize rs[j].lvl = y2 at p5 hv
            by_cases he : y0 = id2
            · have he1 : (y0 == id2) = true := by simp [he]
              obtain ⟨v1, v2, v3⟩ := hv he
              have hw : IntKind.i64.wrap (y1 + 1) = y1 + 1 := by rw [IntKind.wrap_i64]; omega
              have hnn : (y2 != y1 + 1) = false := by simp [v1]
              clear hv he
              go_wp2_with fail
              go_quiet (fail)
              rename Nat => nq
              have HBq := Lib.hid (bl_drewN HBL.out nq)
              clear p0 p4 p5
              generalize w60.drewN nq = wq at HBq ⊢
              go_wp2_with fail
              go_roundw
              case rel => exact ⟨j + 1, by omega, by omega, by go_num, HBq.out⟩
              case measure => simp [intOf]; omega
            · have he1 : (y0 == id2) = false := beq_eq_false_iff_ne.2 he
              clear hv
              go_wp2_with fail
              go_quiet (fail)
              rename Nat => nq
              have HBq := Lib.hid (bl_drewN HBL.out nq)
              clear p0 p4 p5
              generalize w60.drewN nq = wq at HBq ⊢
              go_wp2_with fail
              go_roundw
              case rel => exact ⟨j + 1, by omega, by omega, by go_num, HBq.out⟩
              case measure => simp [intOf]; omega
          · have z2 : (j : Int) < (ls.length : Int) := by omega
            have z3 : ¬ (j : Int) < (rs.length : Int) := by omega
            have hb9 := HBW.out.trans (hb.mono HBW.out.size)
            have HB60 : Hid (Below w.heap.size w w60) := Lib.hid hb9
            have HRk60 := Lib.hid (HRk0.out.below HB60.out (Nat.le_refl _))
            have HRp60 := Lib.hid ((HRP.out.below HBL.out (Nat.le_refl _)))
            have HBs60_60 : Hid (Below w60.heap.size w60 w60) := Lib.hid (Below.refl _ _)
            clear hb hb9
            go_wp2_with fail
            refine (HJ1.out _ _ HRp60.out).mono ?_
            rintro e w61 ⟨⟨v, rfl, ho⟩, hb⟩
            have HB61 : Hid (Below w.heap.size w w61) := Lib.hid (HB60.out.trans (hb.mono HB60.out.size))
            have HZ61 : Hid (w60.heap.size ≤ w61.heap.size) := Lib.hid hb.size
            have HRk61 := Lib.hid (HRk0.out.below HB61.out (Nat.le_refl _))
            have HRp61 := Lib.hid (HRp60.out.below hb (Nat.le_refl _))
            have HBs60_61 : Hid (Below w60.heap.size w60 w61) := Lib.hid (HBs60_60.out.trans (hb.mono HBs60_60.out.size))
            clear hb
            obtain ⟨qay, qcy, rfl⟩ := ho.form
            have HRy61 := Lib.hid (ho)
            have HBs61_61 : Hid (Below w61.heap.size w61 w61) := Lib.hid (Below.refl _ _)
            clear ho
            go_wp2_with fail
            refine (HT1.out _ _ HRp61.out).mono ?_
            rintro e w62 ⟨⟨v, rfl, ho⟩, hb⟩
            have HB62 : Hid (Below w.heap.size w w62) := Lib.hid (HB61.out.trans (hb.mono HB61.out.size))
            have HZ62 : Hid (w61.heap.size ≤ w62.heap.size) := Lib.hid hb.size
            have HRk62 := Lib.hid (HRk0.out.below HB62.out (Nat.le_refl _))
            have HRp62 := Lib.hid (HRp61.out.below hb (Nat.le_refl _))
            have HRy62 := Lib.hid (HRy61.out.below hb (Nat.le_refl _))
            have HBs60_62 : Hid (Below w60.heap.size w60 w62) := Lib.hid (HBs60_61.out.trans (hb.mono HBs60_61.out.size))
            have HBs61_62 : Hid (Below w61.heap.size w61 w62) := Lib.hid (HBs61_61.out.trans (hb.mono HBs61_61.out.size))
            clear hb
            obtain ⟨qaz, qcz, rfl⟩ := ho.form
            have HRz62 := Lib.hid (ho)
            have HBs62_62 : Hid (Below w62.heap.size w62 w62) := Lib.hid (Below.refl _ _)
            clear ho
            go_wp2_with fail
            refine (rTable_yes _ _ xss _ HRy62.out HRz62.out).mono ?_
            rintro e w63 ⟨rfl, hb⟩
            have HB63 : Hid (Below w.heap.size w w63) := Lib.hid (HB62.out.trans (hb.mono HB62.out.size))
            have HZ63 : Hid (w62.heap.size ≤ w63.heap.size) := Lib.hid hb.size
            have HRk63 := Lib.hid (HRk0.out.below HB63.out (Nat.le_refl _))
            have HRy63 := Lib.hid (HRy62.out.below hb (Nat.le_refl _))
            have HRz63 := Lib.hid (HRz62.out.below hb (Nat.le_refl _))
            have HBs61_63 : Hid (Below w61.heap.size w61 w63) := Lib.hid (HBs61_62.out.trans (hb.mono HBs61_62.out.size))
            have HBs62_63 : Hid (Below w62.heap.size w62 w63) := Lib.hid (HBs62_62.out.trans (hb.mono HBs62_62.out.size))
            clear hb
            go_wp2_with fail
            refine (drawMeanLevel_any _ L _ HRk63.out).mono ?_
            rintro e w64 ⟨⟨v, us, c3, rfl, ho, hl3, hnm3⟩, hb⟩
            have HB64 : Hid (Below w.heap.size w w64) := Lib.hid (HB63.out.trans (hb.mono HB63.out.size))
            have HZ64 : Hid (w63.heap.size ≤ w64.heap.size) := Lib.hid hb.size
            have HRk64 := Lib.hid (HRk0.out.below HB64.out (Nat.le_refl _))
            clear hb
            obtain ⟨qau, qcu, rfl⟩ := ho.form
            have HRu64 := Lib.hid (ho)
            have HBs64_64 : Hid (Below w64.heap.size w64 w64) := Lib.hid (Below.refl _ _)
            clear ho
            obtain ⟨m1, m2, x3, t3, is3, r3, hS, hI, hO, hP, hC, hY3⟩ := mo_same us hnm3 hl3 c3
            have HS3 := Lib.hid hS
            have HI3 := Lib.hid hI
            clear hS hI
            have HO3 := Lib.hid hO
            have HP3 := Lib.hid hP
            have HC3 := Lib.hid hC
            clear hO hP hC hnm3
            have hnem1 : (m1 != m1) = false := by simp
            have hnem2 : (m2 != m2) = false := by simp
            have hnex3 : (x3 != x3) = false := by simp
            have hnet3 : (t3 != t3) = false := by simp
            go_wp2_with fail
            refine (HI3.out _ _ HRu64.out).mono ?_
            rintro e w65 ⟨rfl, hb⟩
            have HB65 : Hid (Below w.heap.size w w65) := Lib.hid (HB64.out.trans (hb.mono HB64.out.size))
            have HZ65 : Hid (w64.heap.size ≤ w65.heap.size) := Lib.hid hb.size
            have HRk65 := Lib.hid (HRk0.out.below HB65.out (Nat.le_refl _))
            have HRu65 := Lib.hid (HRu64.out.below hb (Nat.le_refl _))
            have HBs64_65 : Hid (Below w64.heap.size w64 w65) := Lib.hid (HBs64_64.out.trans (hb.mono HBs64_64.out.size))
            clear hb
            go_wp2_with fail
            refine (HS3.out _ _ HRu65.out).mono ?_
            rintro e w66 ⟨rfl, hb⟩
            have HB66 : Hid (Below w.heap.size w w66) := Lib.hid (HB65.out.trans (hb.mono HB65.out.size))
            have HZ66 : Hid (w65.heap.size ≤ w66.heap.size) := Lib.hid hb.size
            have HRk66 := Lib.hid (HRk0.out.below HB66.out (Nat.le_refl _))
            have HRu66 := Lib.hid (HRu65.out.below hb (Nat.le_refl _))
            have HBs64_66 : Hid (Below w64.heap.size w64 w66) := Lib.hid (HBs64_65.out.trans (hb.mono HBs64_65.out.size))
            clear hb
            go_wp2_with fail
            refine (HP3.out _ _ HRu66.out).mono ?_
            rintro e w67 ⟨rfl, hb⟩
            have HB67 : Hid (Below w.heap.size w w67) := Lib.hid (HB66.out.trans (hb.mono HB66.out.size))
            have HZ67 : Hid (w66.heap.size ≤ w67.heap.size) := Lib.hid hb.size
            have HRk67 := Lib.hid (HRk0.out.below HB67.out (Nat.le_refl _))
            have HRu67 := Lib.hid (HRu66.out.below hb (Nat.le_refl _))
            have HBs64_67 : Hid (Below w64.heap.size w64 w67) := Lib.hid (HBs64_66.out.trans (hb.mono HBs64_66.out.size))
            clear hb
            go_wp2_with fail
            refine (HO3.out _ _ HRu67.out).mono ?_
            rintro e w68 ⟨rfl, hb⟩
            have HB68 : Hid (Below w.heap.size w w68) := Lib.hid (HB67.out.trans (hb.mono HB67.out.size))
            have HZ68 : Hid (w67.heap.size ≤ w68.heap.size) := Lib.hid hb.size
            have HRk68 := Lib.hid (HRk0.out.below HB68.out (Nat.le_refl _))
            have HRu68 := Lib.hid (HRu67.out.below hb (Nat.le_refl _))
            have HBs64_68 : Hid (Below w64.heap.size w64 w68) := Lib.hid (HBs64_67.out.trans (hb.mono HBs64_67.out.size))
            clear hb
            go_wp2_with fail
            refine (HC3.out _ _ HRu68.out).mono ?_
            rintro e w69 ⟨⟨v, rfl, ho⟩, hb⟩
            have HB69 : Hid (Below w.heap.size w w69) := Lib.hid (HB68.out.trans (hb.mono HB68.out.size))
            have HZ69 : Hid (w68.heap.size ≤ w69.heap.size) := Lib.hid hb.size
            have HRk69 := Lib.hid (HRk0.out.below HB69.out (Nat.le_refl _))
            have HRu69 := Lib.hid (HRu68.out.below hb (Nat.le_refl _))
            have HBs64_69 : Hid (Below w64.heap.size w64 w69) := Lib.hid (HBs64_68.out.trans (hb.mono HBs64_68.out.size))
            clear hb
            obtain ⟨qao, qco, rfl⟩ := ho.form
            have HRo69 := Lib.hid (ho)
            have HBs69_69 : Hid (Below w69.heap.size w69 w69) := Lib.hid (Below.refl _ _)
            clear ho
            cases t3 with
            | false =>
              clear hY3
              go_wp2_with fail
              go_ret
              exact ⟨ret_bool (by first | (simp; done) | rfl), HB69.out⟩
            | true =>
              obtain ⟨rfl, hin⟩ := hY3 rfl
              go_wp2_with fail
              refine (rHas_any _ is3 x3 true _ HRo69.out (by simp [hin])).mono ?_
              rintro e w70 ⟨rfl, hb⟩
              have HB70 : Hid (Below w.heap.size w w70) := Lib.hid (HB69.out.trans (hb.mono HB69.out.size))
              have HZ70 : Hid (w69.heap.size ≤ w70.heap.size) := Lib.hid hb.size
              have HRk70 := Lib.hid (HRk0.out.below HB70.out (Nat.le_refl _))
              have HRo70 := Lib.hid (HRo69.out.below hb (Nat.le_refl _))
              have HBs69_70 : Hid (Below w69.heap.size w69 w70) := Lib.hid (HBs69_69.out.trans (hb.mono HBs69_69.out.size))
              clear hb
              go_wp2_with fail
              go_ret
              exact ⟨ret_bool (by first | (simp; done) | rfl), HB70.out⟩
        · have z2 : ¬ (j : Int) < (ls.length : Int) := by omega
          have hb9 := HBW.out.trans (hb.mono HBW.out.size)
          have HB60 : Hid (Below w.heap.size w w60) := Lib.hid hb9
          have HRk60 := Lib.hid (HRk0.out.below HB60.out (Nat.le_refl _))
          have HRp60 := Lib.hid ((HRP.out.below HBL.out (Nat.le_refl _)))
          have HBs60_60 : Hid (Below w60.heap.size w60 w60) := Lib.hid (Below.refl _ _)
          clear hb hb9
          go_wp2_with fail
          refine (HJ1.out _ _ HRp60.out).mono ?_
          rintro e w61 ⟨⟨v, rfl, ho⟩, hb⟩
          have HB61 : Hid (Below w.heap.size w w61) := Lib.hid (HB60.out.trans (hb.mono HB60.out.size))
          have HZ61 : Hid (w60.heap.size ≤ w61.heap.size) := Lib.hid hb.size
          have HRk61 := Lib.hid (HRk0.out.below HB61.out (Nat.le_refl _))
          have HRp61 := Lib.hid (HRp60.out.below hb (Nat.le_refl _))
          have HBs60_61 : Hid (Below w60.heap.size w60 w61) := Lib.hid (HBs60_60.out.trans (hb.mono HBs60_60.out.size))
          clear hb
          obtain ⟨qay, qcy, rfl⟩ := ho.form
          have HRy61 := Lib.hid (ho)
          have HBs61_61 : Hid (Below w61.heap.size w61 w61) := Lib.hid (Below.refl _ _)
          clear ho
          go_wp2_with fail
          refine (HT1.out _ _ HRp61.out).mono ?_
          rintro e w62 ⟨⟨v, rfl, ho⟩, hb⟩
          have HB62 : Hid (Below w.heap.size w w62) := Lib.hid (HB61.out.trans (hb.mono HB61.out.size))
          have HZ62 : Hid (w61.heap.size ≤ w62.heap.size) := Lib.hid hb.size
          have HRk62 := Lib.hid (HRk0.out.below HB62.out (Nat.le_refl _))
          have HRp62 := Lib.hid (HRp61.out.below hb (Nat.le_refl _))
          have HRy62 := Lib.hid (HRy61.out.below hb (Nat.le_refl _))
          have HBs60_62 : Hid (Below w60.heap.size w60 w62) := Lib.hid (HBs60_61.out.trans (hb.mono HBs60_61.out.size))
          have HBs61_62 : Hid (Below w61.heap.size w61 w62) := Lib.hid (HBs61_61.out.trans (hb.mono HBs61_61.out.size))
          clear hb
          obtain ⟨qaz, qcz, rfl⟩ := ho.form
          have HRz62 := Lib.hid (ho)
          have HBs62_62 : Hid (Below w62.heap.size w62 w62) := Lib.hid (Below.refl _ _)
          clear ho
          go_wp2_with fail
          refine (rTable_yes _ _ xss _ HRy62.out HRz62.out).mono ?_
          rintro e w63 ⟨rfl, hb⟩
          have HB63 : Hid (Below w.heap.size w w63) := Lib.hid (HB62.out.trans (hb.mono HB62.out.size))
          have HZ63 : Hid (w62.heap.size ≤ w63.heap.size) := Lib.hid hb.size
          have HRk63 := Lib.hid (HRk0.out.below HB63.out (Nat.le_refl _))
          have HRy63 := Lib.hid (HRy62.out.below hb (Nat.le_refl _))
          have HRz63 := Lib.hid (HRz62.out.below hb (Nat.le_refl _))
          have HBs61_63 : Hid (Below w61.heap.size w61 w63) := Lib.hid (HBs61_62.out.trans (hb.mono HBs61_62.out.size))
          have HBs62_63 : Hid (Below w62.heap.size w62 w63) := Lib.hid (HBs62_62.out.trans (hb.mono HBs62_62.out.size))
          clear hb
          go_wp2_with fail
          refine (drawMeanLevel_any _ L _ HRk63.out).mono ?_
          rintro e w64 ⟨⟨v, us, c3, rfl, ho, hl3, hnm3⟩, hb⟩
          have HB64 : Hid (Below w.heap.size w w64) := Lib.hid (HB63.out.trans (hb.mono HB63.out.size))
          have HZ64 : Hid (w63.heap.size ≤ w64.heap.size) := Lib.hid hb.size
          have HRk64 := Lib.hid (HRk0.out.below HB64.out (Nat.le_refl _))
          clear hb
          obtain ⟨qau, qcu, rfl⟩ := ho.form
          have HRu64 := Lib.hid (ho)
          have HBs64_64 : Hid (Below w64.heap.size w64 w64) := Lib.hid (Below.refl _ _)
          clear ho
          obtain ⟨m1, m2, x3, t3, is3, r3, hS, hI, hO, hP, hC, hY3⟩ := mo_same us hnm3 hl3 c3
          have HS3 := Lib.hid hS
          have HI3 := Lib.hid hI
          clear hS hI
          have HO3 := Lib.hid hO
          have HP3 := Lib.hid hP
          have HC3 := Lib.hid hC
          clear hO hP hC hnm3
          have hnem1 : (m1 != m1) = false := by simp
          have hnem2 : (m2 != m2) = false := by simp
          have hnex3 : (x3 != x3) = false := by simp
          have hnet3 : (t3 != t3) = false := by simp
          go_wp2_with fail
          refine (HI3.out _ _ HRu64.out).mono ?_
          rintro e w65 ⟨rfl, hb⟩
          have HB65 : Hid (Below w.heap.size w w65) := Lib.hid (HB64.out.trans (hb.mono HB64.out.size))
          have HZ65 : Hid (w64.heap.size ≤ w65.heap.size) := Lib.hid hb.size
          have HRk65 := Lib.hid (HRk0.out.below HB65.out (Nat.le_refl _))
          have HRu65 := Lib.hid (HRu64.out.below hb (Nat.le_refl _))
          have HBs64_65 : Hid (Below w64.heap.size w64 w65) := Lib.hid (HBs64_64.out.trans (hb.mono HBs64_64.out.size))
          clear hb
          go_wp2_with fail
          refine (HS3.out _ _ HRu65.out).mono ?_
          rintro e w66 ⟨rfl, hb⟩
          have HB66 : Hid (Below w.heap.size w w66) := Lib.hid (HB65.out.trans (hb.mono HB65.out.size))
          have HZ66 : Hid (w65.heap.size ≤ w66.heap.size) := Lib.hid hb.size
          have HRk66 := Lib.hid (HRk0.out.below HB66.out (Nat.le_refl _))
          have HRu66 := Lib.hid (HRu65.out.below hb (Nat.le_refl _))
          have HBs64_66 : Hid (Below w64.heap.size w64 w66) := Lib.hid (HBs64_65.out.trans (hb.mono HBs64_65.out.size))
          clear hb
          go_wp2_with fail
          refine (HP3.out _ _ HRu66.out).mono ?_
          rintro e w67 ⟨rfl, hb⟩
          have HB67 : Hid (Below w.heap.size w w67) := Lib.hid (HB66.out.trans (hb.mono HB66.out.size))
          have HZ67 : Hid (w66.heap.size ≤ w67.heap.size) := Lib.hid hb.size
          have HRk67 := Lib.hid (HRk0.out.below HB67.out (Nat.le_refl _))
          have HRu67 := Lib.hid (HRu66.out.below hb (Nat.le_refl _))
          have HBs64_67 : Hid (Below w64.heap.size w64 w67) := Lib.hid (HBs64_66.out.trans (hb.mono HBs64_66.out.size))
          clear hb
          go_wp2_with fail
          refine (HO3.out _ _ HRu67.out).mono ?_
          rintro e w68 ⟨rfl, hb⟩
          have HB68 : Hid (Below w.heap.size w w68) := Lib.hid (HB67.out.trans (hb.mono HB67.out.size))
          have HZ68 : Hid (w67.heap.size ≤ w68.heap.size) := Lib.hid hb.size
          have HRk68 := Lib.hid (HRk0.out.below HB68.out (Nat.le_refl _))
          have HRu68 := Lib.hid (HRu67.out.below hb (Nat.le_refl _))
          have HBs64_68 : Hid (Below w64.heap.size w64 w68) := Lib.hid (HBs64_67.out.trans (hb.mono HBs64_67.out.size))
          clear hb
          go_wp2_with fail
          refine (HC3.out _ _ HRu68.out).mono ?_
          rintro e w69 ⟨⟨v, rfl, ho⟩, hb⟩
          have HB69 : Hid (Below w.heap.size w w69) := Lib.hid (HB68.out.trans (hb.mono HB68.out.size))
          have HZ69 : Hid (w68.heap.size ≤ w69.heap.size) := Lib.hid hb.size
          have HRk69 := Lib.hid (HRk0.out.below HB69.out (Nat.le_refl _))
          have HRu69 := Lib.hid (HRu68.out.below hb (Nat.le_refl _))
          have HBs64_69 : Hid (Below w64.heap.size w64 w69) := Lib.hid (HBs64_68.out.trans (hb.mono HBs64_68.out.size))
          clear hb
          obtain ⟨qao, qco, rfl⟩ := ho.form
          have HRo69 := Lib.hid (ho)
          have HBs69_69 : Hid (Below w69.heap.size w69 w69) := Lib.hid (Below.refl _ _)
          clear ho
          cases t3 with
          | false =>
            clear hY3
            go_wp2_with fail
            go_ret
            exact ⟨ret_bool (by first | (simp; done) | rfl), HB69.out⟩
          | true =>
            obtain ⟨rfl, hin⟩ := hY3 rfl
            go_wp2_with fail
            refine (rHas_any _ is3 x3 true _ HRo69.out (by simp [hin])).mono ?_
            rintro e w70 ⟨rfl, hb⟩
            have HB70 : Hid (Below w.heap.size w w70) := Lib.hid (HB69.out.trans (hb.mono HB69.out.size))
            have HZ70 : Hid (w69.heap.size ≤ w70.heap.size) := Lib.hid hb.size
            have HRk70 := Lib.hid (HRk0.out.below HB70.out (Nat.le_refl _))
            have HRo70 := Lib.hid (HRo69.out.below hb (Nat.le_refl _))
            have HBs69_70 : Hid (Below w69.heap.size w69 w70) := Lib.hid (HBs69_69.out.trans (hb.mono HBs69_69.out.size))
            clear hb
            go_wp2_with fail
            go_ret
            exact ⟨ret_bool (by first | (simp; done) | rfl), HB70.out⟩
end Go.Proofs.Ytlhcediejccieaa
