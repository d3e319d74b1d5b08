/- The law FnClasses. -/
import Derived.Test.YtlhcediejccieaaVpu
import Derived.Test.YtlhcediejccieaaLc0
import Derived.Test.YtlhcediejccieaaDpd
namespace Go.Proofs.Ytlhcediejccieaa
set_option linter.unusedVariables false
open Go.RowKit
set_option linter.unusedSimpArgs false

set_option maxRecDepth 100000 in
set_option maxHeartbeats 12800000 in
theorem lawClasses (w : World) (ad : Option Addr) (cp : Nat) (L : List UInt8) (h : SlR w (.slice ad L.length cp) (L.map fun c => .int .u8 (c.toNat : Int))) :
    Calls Try.prog 3 #[.slice ad L.length cp] w fun e w' => e = .returned (.bool true) ∧ Below w.heap.size w w' := by
  have hm : L.length ≤ 9223372036854775807 := by
    obtain ⟨a, c, e, ⟨m, _⟩, _⟩ := h
    rw [List.length_map] at m
    exact m
  have HB0 : Hid (Below w.heap.size w w) := Lib.hid (Below.refl _ _)
  have HRk0 := Lib.hid (h)
  clear h
  by_cases hbig : (65536 : Int) < (L.length : Int)
  · go_enter Try.func3, Try.ntmps3
    go_wp2_with fail
    refine (rBig_any ad L.length cp _ true (decide_eq_true hbig)).mono ?_
    rintro e w' ⟨rfl, hw⟩
    subst w'
    go_wp2_with fail
    go_ret
    exact ⟨rfl, Below.refl _ _⟩
  · go_enter Try.func3, Try.ntmps3
    go_wp2_with fail
    refine (rBig_any ad L.length cp _ false (decide_eq_false (by omega))).mono ?_
    rintro e w' ⟨rfl, hw⟩
    subst w'
    go_wp2_with fail
    refine (drawClassesFor_any _ L _ HRk0.out).mono ?_
    rintro e w1 ⟨⟨v, ps, id, rfl, ho, hl, hnm⟩, hb⟩
    have HB1 : Hid (Below w.heap.size w w1) := Lib.hid (HB0.out.trans (hb.mono HB0.out.size))
    have HZ1 : Hid (w.heap.size ≤ w1.heap.size) := Lib.hid hb.size
    have HRk1 := Lib.hid (HRk0.out.below HB1.out (Nat.le_refl _))
    clear hb
    obtain ⟨qap, qcp, rfl⟩ := ho.form
    have HRp1 := Lib.hid (ho)
    have HBs1_1 : Hid (Below w1.heap.size w1 w1) := Lib.hid (Below.refl _ _)
    clear ho
    obtain ⟨xs, b, hS, hI, hY⟩ := cl_same ps hnm hl id
    have HS1 := Lib.hid hS
    have HI1 := Lib.hid hI
    clear hS hI
    have hneb : (b != b) = false := by simp
    clear hnm
    go_wp2_with fail
    refine (HI1.out _ _ HRp1.out).mono ?_
    rintro e w2 ⟨⟨v, rfl, ho⟩, hb⟩
    have HB2 : Hid (Below w.heap.size w w2) := Lib.hid (HB1.out.trans (hb.mono HB1.out.size))
    have HZ2 : Hid (w1.heap.size ≤ w2.heap.size) := Lib.hid hb.size
    have HRk2 := Lib.hid (HRk0.out.below HB2.out (Nat.le_refl _))
    have HRp2 := Lib.hid (HRp1.out.below hb (Nat.le_refl _))
    have HBs1_2 : Hid (Below w1.heap.size w1 w2) := Lib.hid (HBs1_1.out.trans (hb.mono HBs1_1.out.size))
    clear hb
    obtain ⟨qax, qcx, rfl⟩ := ho.form
    have HRx2 := Lib.hid (ho)
    have HBs2_2 : Hid (Below w2.heap.size w2 w2) := Lib.hid (Below.refl _ _)
    clear ho
    go_wp2_with fail
    refine (HS1.out _ _ HRp2.out).mono ?_
    rintro e w3 ⟨⟨v, rfl, ho⟩, hb⟩
    have HB3 : Hid (Below w.heap.size w w3) := Lib.hid (HB2.out.trans (hb.mono HB2.out.size))
    have HZ3 : Hid (w2.heap.size ≤ w3.heap.size) := Lib.hid hb.size
    have HRk3 := Lib.hid (HRk0.out.below HB3.out (Nat.le_refl _))
    have HRp3 := Lib.hid (HRp2.out.below hb (Nat.le_refl _))
    have HRx3 := Lib.hid (HRx2.out.below hb (Nat.le_refl _))
    have HBs1_3 : Hid (Below w1.heap.size w1 w3) := Lib.hid (HBs1_2.out.trans (hb.mono HBs1_2.out.size))
    have HBs2_3 : Hid (Below w2.heap.size w2 w3) := Lib.hid (HBs2_2.out.trans (hb.mono HBs2_2.out.size))
    clear hb
    obtain ⟨qay, qcy, rfl⟩ := ho.form
    have HRy3 := Lib.hid (ho)
    have HBs3_3 : Hid (Below w3.heap.size w3 w3) := Lib.hid (Below.refl _ _)
    clear ho
    go_wp2_with fail
    refine (rInts_yes _ _ xs _ HRx3.out HRy3.out).mono ?_
    rintro e w4 ⟨rfl, hb⟩
    have HB4 : Hid (Below w.heap.size w w4) := Lib.hid (HB3.out.trans (hb.mono HB3.out.size))
    have HZ4 : Hid (w3.heap.size ≤ w4.heap.size) := Lib.hid hb.size
    have HRk4 := Lib.hid (HRk0.out.below HB4.out (Nat.le_refl _))
    have HRp4 := Lib.hid (HRp3.out.below hb (Nat.le_refl _))
    have HRx4 := Lib.hid (HRx3.out.below hb (Nat.le_refl _))
    have HRy4 := Lib.hid (HRy3.out.below hb (Nat.le_refl _))
    have HBs1_4 : Hid (Below w1.heap.size w1 w4) := Lib.hid (HBs1_3.out.trans (hb.mono HBs1_3.out.size))
    have HBs2_4 : Hid (Below w2.heap.size w2 w4) := Lib.hid (HBs2_3.out.trans (hb.mono HBs2_3.out.size))
    have HBs3_4 : Hid (Below w3.heap.size w3 w4) := Lib.hid (HBs3_3.out.trans (hb.mono HBs3_3.out.size))
    clear hb
    have HRP := Lib.hid HRp4.out
    have HRX := Lib.hid HRx4.out
    have HBW := Lib.hid HB4.out
    go_wp2_with fail
    go_loopw [9] (fun iv wr => ∃ C : Int, iv = .int .i64 C ∧ 1 ≤ C ∧ C ≤ 10 ∧ Below w4.heap.size w4 wr) (fun iv _ => 10 - (intOf iv).toNat)
    case atStart => exact ⟨1, rfl, by omega, by omega, Below.refl _ _⟩
    case round =>
      rename World => w60
      obtain ⟨C, rfl, q1, q2, hb⟩ := hrel
      have HBL := Lib.hid hb
      by_cases hc9 : C ≤ 9
      · cases b with
        | true =>
          obtain ⟨qs, is, one, tw, k1, k2, k3, k4⟩ := hY rfl C q1 hc9
          have HH1 := Lib.hid (fun w v (h : RowsR 1 inC w v xs) => rHas_any v xs C one w h k2)
          have HK1 := Lib.hid k1
          have HK3 := Lib.hid k3
          have hoo : (one != one) = false := by simp
          have hw : IntKind.i64.wrap (C + 1) = C + 1 := by rw [IntKind.wrap_i64]; omega
          clear hY k1 k2 k3 hb
          go_wp2_with fail
          refine (HK1.out _ _ (HRP.out.below HBL.out (Nat.le_refl _))).mono ?_
          rintro e wa ⟨⟨v, rfl, ho⟩, hba⟩
          obtain ⟨ma, mc, rfl⟩ := ho.form
          have HRQ := Lib.hid ho
          have HBA := Lib.hid (HBL.out.trans (hba.mono HBL.out.size))
          clear ho hba
          go_wp2_with fail
          refine (HH1.out _ _ (HRX.out.below HBA.out (Nat.le_refl _))).mono ?_
          rintro e wb ⟨rfl, hbb⟩
          have HRQ2 := Lib.hid (HRQ.out.below hbb (Nat.le_refl _))
          have HBB := Lib.hid (HBA.out.trans (hbb.mono HBA.out.size))
          clear hbb
          go_wp2_with fail
          refine (HK3.out _ _ HRQ2.out).mono ?_
          rintro e wc ⟨⟨v, rfl, ho⟩, hbc⟩
          obtain ⟨na, nc, rfl⟩ := ho.form
          have HRI := Lib.hid ho
          have HBC := Lib.hid (HBB.out.trans (hbc.mono HBB.out.size))
          clear ho hbc
          cases one with
          | false =>
            go_wp2_with fail
            go_roundw
            case rel => exact ⟨C + 1, by first | rfl | rw [hw], by omega, by omega, HBC.out⟩
            case measure => simp [intOf]; omega
          | true =>
            obtain ⟨rfl, hin⟩ := k4 rfl
            have HH2 := Lib.hid (rHas_any _ is id true wc HRI.out (by simp [hin]))
            clear k4 hin
            go_wp2_with fail
            refine (HH2.out).mono ?_
            rintro e w70 ⟨rfl, hbd⟩
            have HBD := Lib.hid (HBC.out.trans (hbd.mono HBC.out.size))
            clear hbd
            go_wp2_with fail
            go_roundw
            case rel => exact ⟨C + 1, by first | rfl | rw [hw], by omega, by omega, HBD.out⟩
            case measure => simp [intOf]; omega
        | false =>
          have hb9 := HBW.out.trans (hb.mono HBW.out.size)
          have HB60 : Hid (Below w.heap.size w w60) := Lib.hid hb9
          have HRk60 := Lib.hid (HRk0.out.below HB60.out (Nat.le_refl _))
          clear hb hb9 hY
          go_wp2_with fail
          refine (drawSwapClasses_any _ L _ HRk60.out).mono ?_
          rintro e w61 ⟨⟨v, ls, sa, sb, rfl, ho, hl2, hnm2⟩, hb⟩
          have HB61 : Hid (Below w.heap.size w w61) := Lib.hid (HB60.out.trans (hb.mono HB60.out.size))
          have HZ61 : Hid (w60.heap.size ≤ w61.heap.size) := Lib.hid hb.size
          have HRk61 := Lib.hid (HRk0.out.below HB61.out (Nat.le_refl _))
          clear hb
          obtain ⟨qal, qcl, rfl⟩ := ho.form
          have HRl61 := Lib.hid (ho)
          have HBs61_61 : Hid (Below w61.heap.size w61 w61) := Lib.hid (Below.refl _ _)
          clear ho
          obtain ⟨ss, b2, hS, hI, hY2⟩ := sw_same ls hnm2 hl2 sa sb
          have HS2 := Lib.hid hS
          have HI2 := Lib.hid hI
          clear hS hI
          have hneb2 : (b2 != b2) = false := by simp
          clear hnm2
          go_wp2_with fail
          refine (HI2.out _ _ HRl61.out).mono ?_
          rintro e w62 ⟨⟨v, rfl, ho⟩, hb⟩
          have HB62 : Hid (Below w.heap.size w w62) := Lib.hid (HB61.out.trans (hb.mono HB61.out.size))
          have HZ62 : Hid (w61.heap.size ≤ w62.heap.size) := Lib.hid hb.size
          have HRk62 := Lib.hid (HRk0.out.below HB62.out (Nat.le_refl _))
          have HRl62 := Lib.hid (HRl61.out.below hb (Nat.le_refl _))
          have HBs61_62 : Hid (Below w61.heap.size w61 w62) := Lib.hid (HBs61_61.out.trans (hb.mono HBs61_61.out.size))
          clear hb
          obtain ⟨qas, qcs, rfl⟩ := ho.form
          have HRs62 := Lib.hid (ho)
          have HBs62_62 : Hid (Below w62.heap.size w62 w62) := Lib.hid (Below.refl _ _)
          clear ho
          go_wp2_with fail
          refine (HS2.out _ _ HRl62.out).mono ?_
          rintro e w63 ⟨⟨v, rfl, ho⟩, hb⟩
          have HB63 : Hid (Below w.heap.size w w63) := Lib.hid (HB62.out.trans (hb.mono HB62.out.size))
          have HZ63 : Hid (w62.heap.size ≤ w63.heap.size) := Lib.hid hb.size
          have HRk63 := Lib.hid (HRk0.out.below HB63.out (Nat.le_refl _))
          have HRl63 := Lib.hid (HRl62.out.below hb (Nat.le_refl _))
          have HRs63 := Lib.hid (HRs62.out.below hb (Nat.le_refl _))
          have HBs61_63 : Hid (Below w61.heap.size w61 w63) := Lib.hid (HBs61_62.out.trans (hb.mono HBs61_62.out.size))
          have HBs62_63 : Hid (Below w62.heap.size w62 w63) := Lib.hid (HBs62_62.out.trans (hb.mono HBs62_62.out.size))
          clear hb
          obtain ⟨qat, qct, rfl⟩ := ho.form
          have HRt63 := Lib.hid (ho)
          have HBs63_63 : Hid (Below w63.heap.size w63 w63) := Lib.hid (Below.refl _ _)
          clear ho
          go_wp2_with fail
          refine (rPupils_yes _ _ ss _ HRs63.out HRt63.out).mono ?_
          rintro e w64 ⟨rfl, hb⟩
          have HB64 : Hid (Below w.heap.size w w64) := Lib.hid (HB63.out.trans (hb.mono HB63.out.size))
          have HZ64 : Hid (w63.heap.size ≤ w64.heap.size) := Lib.hid hb.size
          have HRk64 := Lib.hid (HRk0.out.below HB64.out (Nat.le_refl _))
          have HRl64 := Lib.hid (HRl63.out.below hb (Nat.le_refl _))
          have HRs64 := Lib.hid (HRs63.out.below hb (Nat.le_refl _))
          have HRt64 := Lib.hid (HRt63.out.below hb (Nat.le_refl _))
          have HBs61_64 : Hid (Below w61.heap.size w61 w64) := Lib.hid (HBs61_63.out.trans (hb.mono HBs61_63.out.size))
          have HBs62_64 : Hid (Below w62.heap.size w62 w64) := Lib.hid (HBs62_63.out.trans (hb.mono HBs62_63.out.size))
          have HBs63_64 : Hid (Below w63.heap.size w63 w64) := Lib.hid (HBs63_63.out.trans (hb.mono HBs63_63.out.size))
          clear hb
          cases b2 with
          | true =>
            have HK2 := Lib.hid (hY2 rfl)
            clear hY2
            go_wp2_with fail
            refine (HK2.out _ _ HRs64.out).mono ?_
            rintro e w65 ⟨⟨v, rfl, ho⟩, hb⟩
            have HB65 : Hid (Below w.heap.size w w65) := Lib.hid (HB64.out.trans (hb.mono HB64.out.size))
            have HZ65 : Hid (w64.heap.size ≤ w65.heap.size) := Lib.hid hb.size
            have HRk65 := Lib.hid (HRk0.out.below HB65.out (Nat.le_refl _))
            have HRl65 := Lib.hid (HRl64.out.below hb (Nat.le_refl _))
            have HRs65 := Lib.hid (HRs64.out.below hb (Nat.le_refl _))
            have HBs61_65 : Hid (Below w61.heap.size w61 w65) := Lib.hid (HBs61_64.out.trans (hb.mono HBs61_64.out.size))
            have HBs62_65 : Hid (Below w62.heap.size w62 w65) := Lib.hid (HBs62_64.out.trans (hb.mono HBs62_64.out.size))
            clear hb
            obtain ⟨qar, qcr, rfl⟩ := ho.form
            have HRr65 := Lib.hid (ho)
            have HBs65_65 : Hid (Below w65.heap.size w65 w65) := Lib.hid (Below.refl _ _)
            clear ho
            go_wp2_with fail
            refine (rPupils_yes _ _ ls _ HRr65.out HRl65.out).mono ?_
            rintro e w66 ⟨rfl, hb⟩
            have HB66 : Hid (Below w.heap.size w w66) := Lib.hid (HB65.out.trans (hb.mono HB65.out.size))
            have HZ66 : Hid (w65.heap.size ≤ w66.heap.size) := Lib.hid hb.size
            have HRk66 := Lib.hid (HRk0.out.below HB66.out (Nat.le_refl _))
            have HRl66 := Lib.hid (HRl65.out.below hb (Nat.le_refl _))
            have HRs66 := Lib.hid (HRs65.out.below hb (Nat.le_refl _))
            have HRr66 := Lib.hid (HRr65.out.below hb (Nat.le_refl _))
            have HBs61_66 : Hid (Below w61.heap.size w61 w66) := Lib.hid (HBs61_65.out.trans (hb.mono HBs61_65.out.size))
            have HBs62_66 : Hid (Below w62.heap.size w62 w66) := Lib.hid (HBs62_65.out.trans (hb.mono HBs62_65.out.size))
            have HBs65_66 : Hid (Below w65.heap.size w65 w66) := Lib.hid (HBs65_65.out.trans (hb.mono HBs65_65.out.size))
            clear hb
            go_wp2_with fail
            refine (drawPutInClass_any _ L _ HRk66.out).mono ?_
            rintro e w67 ⟨⟨v, us, x3, c3, rfl, ho, hl3, hnm3⟩, hb⟩
            have HB67 : Hid (Below w.heap.size w w67) := Lib.hid (HB66.out.trans (hb.mono HB66.out.size))
            have HZ67 : Hid (w66.heap.size ≤ w67.heap.size) := Lib.hid hb.size
            have HRk67 := Lib.hid (HRk0.out.below HB67.out (Nat.le_refl _))
            clear hb
            obtain ⟨qau, qcu, rfl⟩ := ho.form
            have HRu67 := Lib.hid (ho)
            have HBs67_67 : Hid (Below w67.heap.size w67 w67) := Lib.hid (Below.refl _ _)
            clear ho
            obtain ⟨fs, b3, hS, hI⟩ := pt_same us hnm3 hl3 x3 c3
            have HS3 := Lib.hid hS
            have HI3 := Lib.hid hI
            clear hS hI
            have hneb3 : (b3 != b3) = false := by simp
            clear hnm3
            go_wp2_with fail
            refine (HI3.out _ _ HRu67.out).mono ?_
            rintro e w68 ⟨⟨v, rfl, ho⟩, hb⟩
            have HB68 : Hid (Below w.heap.size w w68) := Lib.hid (HB67.out.trans (hb.mono HB67.out.size))
            have HZ68 : Hid (w67.heap.size ≤ w68.heap.size) := Lib.hid hb.size
            have HRk68 := Lib.hid (HRk0.out.below HB68.out (Nat.le_refl _))
            have HRu68 := Lib.hid (HRu67.out.below hb (Nat.le_refl _))
            have HBs67_68 : Hid (Below w67.heap.size w67 w68) := Lib.hid (HBs67_67.out.trans (hb.mono HBs67_67.out.size))
            clear hb
            obtain ⟨qaf, qcf, rfl⟩ := ho.form
            have HRf68 := Lib.hid (ho)
            have HBs68_68 : Hid (Below w68.heap.size w68 w68) := Lib.hid (Below.refl _ _)
            clear ho
            go_wp2_with fail
            refine (HS3.out _ _ HRu68.out).mono ?_
            rintro e w69 ⟨⟨v, rfl, ho⟩, hb⟩
            have HB69 : Hid (Below w.heap.size w w69) := Lib.hid (HB68.out.trans (hb.mono HB68.out.size))
            have HZ69 : Hid (w68.heap.size ≤ w69.heap.size) := Lib.hid hb.size
            have HRk69 := Lib.hid (HRk0.out.below HB69.out (Nat.le_refl _))
            have HRu69 := Lib.hid (HRu68.out.below hb (Nat.le_refl _))
            have HRf69 := Lib.hid (HRf68.out.below hb (Nat.le_refl _))
            have HBs67_69 : Hid (Below w67.heap.size w67 w69) := Lib.hid (HBs67_68.out.trans (hb.mono HBs67_68.out.size))
            have HBs68_69 : Hid (Below w68.heap.size w68 w69) := Lib.hid (HBs68_68.out.trans (hb.mono HBs68_68.out.size))
            clear hb
            obtain ⟨qag, qcg, rfl⟩ := ho.form
            have HRg69 := Lib.hid (ho)
            have HBs69_69 : Hid (Below w69.heap.size w69 w69) := Lib.hid (Below.refl _ _)
            clear ho
            go_wp2_with fail
            refine (rPupils_yes _ _ fs _ HRf69.out HRg69.out).mono ?_
            rintro e w70 ⟨rfl, hb⟩
            have HB70 : Hid (Below w.heap.size w w70) := Lib.hid (HB69.out.trans (hb.mono HB69.out.size))
            have HZ70 : Hid (w69.heap.size ≤ w70.heap.size) := Lib.hid hb.size
            have HRk70 := Lib.hid (HRk0.out.below HB70.out (Nat.le_refl _))
            have HRu70 := Lib.hid (HRu69.out.below hb (Nat.le_refl _))
            have HRf70 := Lib.hid (HRf69.out.below hb (Nat.le_refl _))
            have HRg70 := Lib.hid (HRg69.out.below hb (Nat.le_refl _))
            have HBs67_70 : Hid (Below w67.heap.size w67 w70) := Lib.hid (HBs67_69.out.trans (hb.mono HBs67_69.out.size))
            have HBs68_70 : Hid (Below w68.heap.size w68 w70) := Lib.hid (HBs68_69.out.trans (hb.mono HBs68_69.out.size))
            have HBs69_70 : Hid (Below w69.heap.size w69 w70) := Lib.hid (HBs69_69.out.trans (hb.mono HBs69_69.out.size))
            clear hb
            go_wp2_with fail
            refine (drawInClass_any _ L _ HRk70.out).mono ?_
            rintro e w71 ⟨⟨v, ys, c4, rfl, ho, hl4, hnm4⟩, hb⟩
            have HB71 : Hid (Below w.heap.size w w71) := Lib.hid (HB70.out.trans (hb.mono HB70.out.size))
            have HZ71 : Hid (w70.heap.size ≤ w71.heap.size) := Lib.hid hb.size
            have HRk71 := Lib.hid (HRk0.out.below HB71.out (Nat.le_refl _))
            clear hb
            obtain ⟨qav, qcv, rfl⟩ := ho.form
            have HRv71 := Lib.hid (ho)
            have HBs71_71 : Hid (Below w71.heap.size w71 w71) := Lib.hid (Below.refl _ _)
            clear ho
            obtain ⟨is4, b4, hS, hI⟩ := in_same ys hnm4 hl4 c4
            have HS4 := Lib.hid hS
            have HI4 := Lib.hid hI
            clear hS hI
            have heqb4 : (b4 == b4) = true := by simp
            clear hnm4
            go_wp2_with fail
            refine (HI4.out _ _ HRv71.out).mono ?_
            rintro e w72 ⟨⟨v, rfl, ho⟩, hb⟩
            have HB72 : Hid (Below w.heap.size w w72) := Lib.hid (HB71.out.trans (hb.mono HB71.out.size))
            have HZ72 : Hid (w71.heap.size ≤ w72.heap.size) := Lib.hid hb.size
            have HRk72 := Lib.hid (HRk0.out.below HB72.out (Nat.le_refl _))
            have HRv72 := Lib.hid (HRv71.out.below hb (Nat.le_refl _))
            have HBs71_72 : Hid (Below w71.heap.size w71 w72) := Lib.hid (HBs71_71.out.trans (hb.mono HBs71_71.out.size))
            clear hb
            obtain ⟨qam, qcm, rfl⟩ := ho.form
            have HRm72 := Lib.hid (ho)
            have HBs72_72 : Hid (Below w72.heap.size w72 w72) := Lib.hid (Below.refl _ _)
            clear ho
            go_wp2_with fail
            refine (HS4.out _ _ HRv72.out).mono ?_
            rintro e w73 ⟨⟨v, rfl, ho⟩, hb⟩
            have HB73 : Hid (Below w.heap.size w w73) := Lib.hid (HB72.out.trans (hb.mono HB72.out.size))
            have HZ73 : Hid (w72.heap.size ≤ w73.heap.size) := Lib.hid hb.size
            have HRk73 := Lib.hid (HRk0.out.below HB73.out (Nat.le_refl _))
            have HRv73 := Lib.hid (HRv72.out.below hb (Nat.le_refl _))
            have HRm73 := Lib.hid (HRm72.out.below hb (Nat.le_refl _))
            have HBs71_73 : Hid (Below w71.heap.size w71 w73) := Lib.hid (HBs71_72.out.trans (hb.mono HBs71_72.out.size))
            have HBs72_73 : Hid (Below w72.heap.size w72 w73) := Lib.hid (HBs72_72.out.trans (hb.mono HBs72_72.out.size))
            clear hb
            obtain ⟨qan, qcn, rfl⟩ := ho.form
            have HRn73 := Lib.hid (ho)
            have HBs73_73 : Hid (Below w73.heap.size w73 w73) := Lib.hid (Below.refl _ _)
            clear ho
            go_wp2_with fail
            refine (drawIsPupil_any _ L _ HRk73.out).mono ?_
            rintro e w74 ⟨⟨i5, x5, b5, c5, l5, rfl, hx5⟩, hb⟩
            have HB74 : Hid (Below w.heap.size w w74) := Lib.hid (HB73.out.trans (hb.mono HB73.out.size))
            have HZ74 : Hid (w73.heap.size ≤ w74.heap.size) := Lib.hid hb.size
            have HRk74 := Lib.hid (HRk0.out.below HB74.out (Nat.le_refl _))
            have HRm74 := Lib.hid (HRm73.out.below hb (Nat.le_refl _))
            have HRn74 := Lib.hid (HRn73.out.below hb (Nat.le_refl _))
            have HBs72_74 : Hid (Below w72.heap.size w72 w74) := Lib.hid (HBs72_73.out.trans (hb.mono HBs72_73.out.size))
            have HBs73_74 : Hid (Below w73.heap.size w73 w74) := Lib.hid (HBs73_73.out.trans (hb.mono HBs73_73.out.size))
            clear hb
            obtain ⟨t5, hS, hI⟩ := ip_same ⟨i5, x5, b5, c5, l5⟩ hx5
            have HS5 : Hid (∀ w, BpB 23 #[.agg #[.int .i64 i5, .string x5, .int .i64 b5, .int .i64 c5, .int .i64 l5]] w t5) := Lib.hid hS
            have HI5 : Hid (∀ w, BpB 22 #[.agg #[.int .i64 i5, .string x5, .int .i64 b5, .int .i64 c5, .int .i64 l5]] w t5) := Lib.hid hI
            clear hS hI
            have heqt5 : (t5 == t5) = true := by simp
            go_wp2_with fail
            have hb : Below w74.heap.size w74 (w74.alloc (.cells #[.int .i64 i5, .string x5, .int .i64 b5, .int .i64 c5, .int .i64 l5] 38)) := (Below.refl _ _).alloc (Nat.le_refl _) _
            have hk : (w74.alloc (.cells #[.int .i64 i5, .string x5, .int .i64 b5, .int .i64 c5, .int .i64 l5] 38)).heap[w74.heap.size]? = some (.cells #[.int .i64 i5, .string x5, .int .i64 b5, .int .i64 c5, .int .i64 l5] 38 (0, 0)) := alloc_at rfl
            have hz : (w74.alloc (.cells #[.int .i64 i5, .string x5, .int .i64 b5, .int .i64 c5, .int .i64 l5] 38)).heap.size = w74.heap.size + 1 := by simp
            generalize w74.alloc (.cells #[.int .i64 i5, .string x5, .int .i64 b5, .int .i64 c5, .int .i64 l5] 38) = w75 at hb hk hz ⊢
            have HB75 : Hid (Below w.heap.size w w75) := Lib.hid (HB74.out.trans (hb.mono HB74.out.size))
            have HZ75 : Hid (w74.heap.size ≤ w75.heap.size) := Lib.hid hb.size
            have HRk75 := Lib.hid (HRk0.out.below HB75.out (Nat.le_refl _))
            have HRm75 := Lib.hid (HRm74.out.below hb (Nat.le_refl _))
            have HRn75 := Lib.hid (HRn74.out.below hb (Nat.le_refl _))
            have HBs72_75 : Hid (Below w72.heap.size w72 w75) := Lib.hid (HBs72_74.out.trans (hb.mono HBs72_74.out.size))
            have HBs73_75 : Hid (Below w73.heap.size w73 w75) := Lib.hid (HBs73_74.out.trans (hb.mono HBs73_74.out.size))
            have HKz75 := Lib.hid hk
            replace HZ75 : Hid (w74.heap.size < w75.heap.size) := Lib.hid (by omega)
            have HE75 := Lib.hid hz
            clear hb hk hz
            have HKz := Lib.hid HKz75.out
            have HMz := Lib.hid HRm75.out
            have HNz := Lib.hid HRn75.out
            have HBz := Lib.hid HB75.out
            obtain ⟨y0, y1, y2, y3, y4, -⟩ := cell5 HKz75.out
            refine wp_region_held_drew (S := (fun u => u.cell? ⟨w74.heap.size, 0, none⟩ = some (.int .i64 i5) ∧ u.cell? ⟨w74.heap.size, 1, none⟩ = some (.string x5) ∧ u.cell? ⟨w74.heap.size, 2, none⟩ = some (.int .i64 b5) ∧ u.cell? ⟨w74.heap.size, 3, none⟩ = some (.int .i64 c5) ∧ u.cell? ⟨w74.heap.size, 4, none⟩ = some (.int .i64 l5))) (by kernel_rfl) (⟨y0, y1, y2, y3, y4⟩) (fun hHeld => ?_)
            have HBd : Hid (Below w.heap.size w w75.drew) := Lib.hid HBz.out.drew
            have HKd : Hid (w75.drew.heap[w74.heap.size]? = some (.cells #[.int .i64 i5, .string x5, .int .i64 b5, .int .i64 c5, .int .i64 l5] 38 (0, 0))) := HKz
            have HMd := Lib.hid (HMz.out.below ((Below.refl _ w75).drew) (Nat.le_refl _))
            have HNd := Lib.hid (HNz.out.below ((Below.refl _ w75).drew) (Nat.le_refl _))
            generalize w75.drew = wd at HBd HKd HMd HNd hHeld ⊢
            clear y0 y1 y2 y3 y4
            obtain ⟨y0, y1, y2, y3, y4, -⟩ := cell5 HKd.out
            refine take1 (i := 0) (v := ?v1) (some 194) rfl rfl (by kernel_rfl) (by kernel_rfl) (by kernel_rfl) (fun _ _ _ h => h) (Or.inl ⟨by rfl, ?y1⟩) (by assumption) ?r1
            case y1 => (intro w hSw; (try dsimp only at hSw); go_simp; (first | done | with_reducible rfl))
            try simp only [Act.put, List.setIfInBounds_toArray, List.set_cons_zero, List.set_cons_succ]
            refine take1 (i := 1) (v := ?v2) (some 195) rfl rfl (by kernel_rfl) (by kernel_rfl) (by kernel_rfl) (fun _ _ _ h => h) (Or.inl ⟨by rfl, ?y2⟩) (by assumption) ?r2
            case y2 => (intro w hSw; (try dsimp only at hSw); go_simp; (first | done | with_reducible rfl))
            try simp only [Act.put, List.setIfInBounds_toArray, List.set_cons_zero, List.set_cons_succ]
            refine take1 (i := 2) (v := ?v3) (some 196) rfl rfl (by kernel_rfl) (by kernel_rfl) (by kernel_rfl) (fun _ _ _ h => h) (Or.inl ⟨by rfl, ?y3⟩) (by assumption) ?r3
            case y3 => (intro w hSw; (try dsimp only at hSw); go_simp; (first | done | with_reducible rfl))
            try simp only [Act.put, List.setIfInBounds_toArray, List.set_cons_zero, List.set_cons_succ]
            refine take1 (i := 3) (v := ?v4) (some 197) rfl rfl (by kernel_rfl) (by kernel_rfl) (by kernel_rfl) (fun _ _ _ h => h) (Or.inl ⟨by rfl, ?y4⟩) (by assumption) ?r4
            case y4 => (intro w hSw; (try dsimp only at hSw); go_simp; (first | done | with_reducible rfl))
            try simp only [Act.put, List.setIfInBounds_toArray, List.set_cons_zero, List.set_cons_succ]
            refine take1 (i := 4) (v := ?v5) (some 198) rfl rfl (by kernel_rfl) (by kernel_rfl) (by kernel_rfl) (fun _ _ _ h => h) (Or.inl ⟨by rfl, ?y5⟩) (by assumption) ?r5
            case y5 => (intro w hSw; (try dsimp only at hSw); go_simp; (first | done | with_reducible rfl))
            try simp only [Act.put, List.setIfInBounds_toArray, List.set_cons_zero, List.set_cons_succ]
            refine take1 (i := 5) (v := ?v6) (some 199) rfl rfl (by kernel_rfl) (by kernel_rfl) (by kernel_rfl) (fun _ _ _ h => h) (Or.inl ⟨by rfl, ?y6⟩) (by assumption) ?r6
            case y6 => (intro w hSw; (try dsimp only at hSw); go_simp; (first | done | with_reducible rfl))
            try simp only [Act.put, List.setIfInBounds_toArray, List.set_cons_zero, List.set_cons_succ]
            refine wpAnyH_ready (rs := [6]) (by kernel_rfl) (by simp) ?_
            refine AllReadyH.cons rfl (fun K hK => ?_) AllReadyH.nil
            go_simp
            go_at_call 9
            refine (rInts_yes _ _ is4 _ HMd.out HNd.out).mono ?_
            rintro e we ⟨rfl, hbx⟩
            have HBe := Lib.hid (HBd.out.trans (hbx.mono HBd.out.size))
            have HKe := Lib.hid ((hbx.block _ (lt_of_block HKd.out)).trans HKd.out)
            clear hbx y0 y1 y2 y3 y4
            obtain ⟨y0, y1, y2, y3, y4, -⟩ := cell5 HKe.out
            refine hK.out _ _ (⟨y0, y1, y2, y3, y4⟩) (fun hHeld => ?_)
            clear hK K
            try simp only [Act.put, List.setIfInBounds_toArray, List.set_cons_zero, List.set_cons_succ]
            refine take1 (i := 7) (v := ?v7) (some 201) rfl rfl (by kernel_rfl) (by kernel_rfl) (by kernel_rfl) (fun _ _ _ h => h) (Or.inl ⟨by rfl, ?y7⟩) (by assumption) ?r7
            case y7 => (intro w hSw; (try dsimp only at hSw); go_simp; (first | done | with_reducible rfl))
            try simp only [Act.put, List.setIfInBounds_toArray, List.set_cons_zero, List.set_cons_succ]
            refine take1 (i := 8) (v := ?v8) (some 202) rfl rfl (by kernel_rfl) (by kernel_rfl) (by kernel_rfl) (fun _ _ _ h => h) (Or.inl ⟨by rfl, ?y8⟩) (by assumption) ?r8
            case y8 => (intro w hSw; (try dsimp only at hSw); go_simp; (first | done | with_reducible rfl))
            try simp only [Act.put, List.setIfInBounds_toArray, List.set_cons_zero, List.set_cons_succ]
            refine take1 (i := 9) (v := ?v9) (some 203) rfl rfl (by kernel_rfl) (by kernel_rfl) (by kernel_rfl) (fun _ _ _ h => h) (Or.inl ⟨by rfl, ?y9⟩) (by assumption) ?r9
            case y9 => (intro w hSw; (try dsimp only at hSw); go_simp; (first | done | with_reducible rfl))
            try simp only [Act.put, List.setIfInBounds_toArray, List.set_cons_zero, List.set_cons_succ]
            refine take1 (i := 11) (v := ?v10) (some 205) rfl rfl (by kernel_rfl) (by kernel_rfl) (by kernel_rfl) (fun _ _ _ h => h) (Or.inl ⟨by rfl, ?y10⟩) (by assumption) ?r10
            case y10 => (intro w hSw; (try dsimp only at hSw); go_simp; (first | done | with_reducible rfl))
            try simp only [Act.put, List.setIfInBounds_toArray, List.set_cons_zero, List.set_cons_succ]
            refine wpAnyH_ready (rs := [10]) (by kernel_rfl) (by simp) ?_
            refine AllReadyH.cons rfl (fun K hK => ?_) AllReadyH.nil
            go_simp
            go_at_call 22
            refine (HI5.out _).mono ?_
            rintro e wf ⟨rfl, hbx⟩
            have HBf := Lib.hid (HBe.out.trans (hbx.mono HBe.out.size))
            have HKf := Lib.hid ((hbx.block _ (lt_of_block HKe.out)).trans HKe.out)
            clear hbx y0 y1 y2 y3 y4
            obtain ⟨y0, y1, y2, y3, y4, -⟩ := cell5 HKf.out
            refine hK.out _ _ (⟨y0, y1, y2, y3, y4⟩) (fun hHeld => ?_)
            clear hK K
            try simp only [Act.put, List.setIfInBounds_toArray, List.set_cons_zero, List.set_cons_succ]
            refine wpAnyH_ready (rs := [12]) (by kernel_rfl) (by simp) ?_
            refine AllReadyH.cons rfl (fun K hK => ?_) AllReadyH.nil
            go_simp
            go_at_call 23
            refine (HS5.out _).mono ?_
            rintro e wg ⟨rfl, hbx⟩
            have HBg := Lib.hid (HBf.out.trans (hbx.mono HBf.out.size))
            have HKg := Lib.hid ((hbx.block _ (lt_of_block HKf.out)).trans HKf.out)
            clear hbx y0 y1 y2 y3 y4
            obtain ⟨y0, y1, y2, y3, y4, -⟩ := cell5 HKg.out
            refine hK.out _ _ (⟨y0, y1, y2, y3, y4⟩) (fun hHeld => ?_)
            clear hK K
            try simp only [Act.put, List.setIfInBounds_toArray, List.set_cons_zero, List.set_cons_succ]
            refine take1 (i := 13) (v := ?v11) (some 207) rfl rfl (by kernel_rfl) (by kernel_rfl) (by kernel_rfl) (fun _ _ _ h => h) (Or.inl ⟨by rfl, ?y11⟩) (by assumption) ?r11
            case y11 => (intro w hSw; (try dsimp only at hSw); go_simp; (first | done | with_reducible rfl))
            try simp only [Act.put, List.setIfInBounds_toArray, List.set_cons_zero, List.set_cons_succ]
            refine take1 (i := 14) (v := ?v12) (some 208) rfl rfl (by kernel_rfl) (by kernel_rfl) (by kernel_rfl) (fun _ _ _ h => h) (Or.inl ⟨by rfl, ?y12⟩) (by assumption) ?r12
            case y12 => (intro w hSw; (try dsimp only at hSw); go_simp; (first | done | with_reducible rfl))
            try simp only [Act.put, List.setIfInBounds_toArray, List.set_cons_zero, List.set_cons_succ]
            refine take1 (i := 15) (v := ?v13) (some 2) rfl rfl (by kernel_rfl) (by kernel_rfl) (by kernel_rfl) (fun _ _ _ h => h) (Or.inl ⟨by rfl, ?y13⟩) (by assumption) ?r13
            case y13 => (intro w hSw; (try dsimp only at hSw); go_simp; (first | done | with_reducible rfl))
            try simp only [Act.put, List.setIfInBounds_toArray, List.set_cons_zero, List.set_cons_succ]
            refine wpAnyH_done (by kernel_rfl) ?_ _
            clear y0 y1 y2 y3 y4
            go_wp2_with fail
            go_ret
            exact ⟨ret_bool (by first | (simp; done) | rfl), HBg.out⟩
          | false =>
            clear hY2
            go_wp2_with fail
            refine (drawPutInClass_any _ L _ HRk64.out).mono ?_
            rintro e w65 ⟨⟨v, us, x3, c3, rfl, ho, hl3, hnm3⟩, hb⟩
            have HB65 : Hid (Below w.heap.size w w65) := Lib.hid (HB64.out.trans (hb.mono HB64.out.size))
            have HZ65 : Hid (w64.heap.size ≤ w65.heap.size) := Lib.hid hb.size
            have HRk65 := Lib.hid (HRk0.out.below HB65.out (Nat.le_refl _))
            clear hb
            obtain ⟨qau, qcu, rfl⟩ := ho.form
            have HRu65 := Lib.hid (ho)
            have HBs65_65 : Hid (Below w65.heap.size w65 w65) := Lib.hid (Below.refl _ _)
            clear ho
            obtain ⟨fs, b3, hS, hI⟩ := pt_same us hnm3 hl3 x3 c3
            have HS3 := Lib.hid hS
            have HI3 := Lib.hid hI
            clear hS hI
            have hneb3 : (b3 != b3) = false := by simp
            clear hnm3
            go_wp2_with fail
            refine (HI3.out _ _ HRu65.out).mono ?_
            rintro e w66 ⟨⟨v, rfl, ho⟩, hb⟩
            have HB66 : Hid (Below w.heap.size w w66) := Lib.hid (HB65.out.trans (hb.mono HB65.out.size))
            have HZ66 : Hid (w65.heap.size ≤ w66.heap.size) := Lib.hid hb.size
            have HRk66 := Lib.hid (HRk0.out.below HB66.out (Nat.le_refl _))
            have HRu66 := Lib.hid (HRu65.out.below hb (Nat.le_refl _))
            have HBs65_66 : Hid (Below w65.heap.size w65 w66) := Lib.hid (HBs65_65.out.trans (hb.mono HBs65_65.out.size))
            clear hb
            obtain ⟨qaf, qcf, rfl⟩ := ho.form
            have HRf66 := Lib.hid (ho)
            have HBs66_66 : Hid (Below w66.heap.size w66 w66) := Lib.hid (Below.refl _ _)
            clear ho
            go_wp2_with fail
            refine (HS3.out _ _ HRu66.out).mono ?_
            rintro e w67 ⟨⟨v, rfl, ho⟩, hb⟩
            have HB67 : Hid (Below w.heap.size w w67) := Lib.hid (HB66.out.trans (hb.mono HB66.out.size))
            have HZ67 : Hid (w66.heap.size ≤ w67.heap.size) := Lib.hid hb.size
            have HRk67 := Lib.hid (HRk0.out.below HB67.out (Nat.le_refl _))
            have HRu67 := Lib.hid (HRu66.out.below hb (Nat.le_refl _))
            have HRf67 := Lib.hid (HRf66.out.below hb (Nat.le_refl _))
            have HBs65_67 : Hid (Below w65.heap.size w65 w67) := Lib.hid (HBs65_66.out.trans (hb.mono HBs65_66.out.size))
            have HBs66_67 : Hid (Below w66.heap.size w66 w67) := Lib.hid (HBs66_66.out.trans (hb.mono HBs66_66.out.size))
            clear hb
            obtain ⟨qag, qcg, rfl⟩ := ho.form
            have HRg67 := Lib.hid (ho)
            have HBs67_67 : Hid (Below w67.heap.size w67 w67) := Lib.hid (Below.refl _ _)
            clear ho
            go_wp2_with fail
            refine (rPupils_yes _ _ fs _ HRf67.out HRg67.out).mono ?_
            rintro e w68 ⟨rfl, hb⟩
            have HB68 : Hid (Below w.heap.size w w68) := Lib.hid (HB67.out.trans (hb.mono HB67.out.size))
            have HZ68 : Hid (w67.heap.size ≤ w68.heap.size) := Lib.hid hb.size
            have HRk68 := Lib.hid (HRk0.out.below HB68.out (Nat.le_refl _))
            have HRu68 := Lib.hid (HRu67.out.below hb (Nat.le_refl _))
            have HRf68 := Lib.hid (HRf67.out.below hb (Nat.le_refl _))
            have HRg68 := Lib.hid (HRg67.out.below hb (Nat.le_refl _))
            have HBs65_68 : Hid (Below w65.heap.size w65 w68) := Lib.hid (HBs65_67.out.trans (hb.mono HBs65_67.out.size))
            have HBs66_68 : Hid (Below w66.heap.size w66 w68) := Lib.hid (HBs66_67.out.trans (hb.mono HBs66_67.out.size))
            have HBs67_68 : Hid (Below w67.heap.size w67 w68) := Lib.hid (HBs67_67.out.trans (hb.mono HBs67_67.out.size))
            clear hb
            go_wp2_with fail
            refine (drawInClass_any _ L _ HRk68.out).mono ?_
            rintro e w69 ⟨⟨v, ys, c4, rfl, ho, hl4, hnm4⟩, hb⟩
            have HB69 : Hid (Below w.heap.size w w69) := Lib.hid (HB68.out.trans (hb.mono HB68.out.size))
            have HZ69 : Hid (w68.heap.size ≤ w69.heap.size) := Lib.hid hb.size
            have HRk69 := Lib.hid (HRk0.out.below HB69.out (Nat.le_refl _))
            clear hb
            obtain ⟨qav, qcv, rfl⟩ := ho.form
            have HRv69 := Lib.hid (ho)
            have HBs69_69 : Hid (Below w69.heap.size w69 w69) := Lib.hid (Below.refl _ _)
            clear ho
            obtain ⟨is4, b4, hS, hI⟩ := in_same ys hnm4 hl4 c4
            have HS4 := Lib.hid hS
            have HI4 := Lib.hid hI
            clear hS hI
            have heqb4 : (b4 == b4) = true := by simp
            clear hnm4
            go_wp2_with fail
            refine (HI4.out _ _ HRv69.out).mono ?_
            rintro e w70 ⟨⟨v, rfl, ho⟩, hb⟩
            have HB70 : Hid (Below w.heap.size w w70) := Lib.hid (HB69.out.trans (hb.mono HB69.out.size))
            have HZ70 : Hid (w69.heap.size ≤ w70.heap.size) := Lib.hid hb.size
            have HRk70 := Lib.hid (HRk0.out.below HB70.out (Nat.le_refl _))
            have HRv70 := Lib.hid (HRv69.out.below hb (Nat.le_refl _))
            have HBs69_70 : Hid (Below w69.heap.size w69 w70) := Lib.hid (HBs69_69.out.trans (hb.mono HBs69_69.out.size))
            clear hb
            obtain ⟨qam, qcm, rfl⟩ := ho.form
            have HRm70 := Lib.hid (ho)
            have HBs70_70 : Hid (Below w70.heap.size w70 w70) := Lib.hid (Below.refl _ _)
            clear ho
            go_wp2_with fail
            refine (HS4.out _ _ HRv70.out).mono ?_
            rintro e w71 ⟨⟨v, rfl, ho⟩, hb⟩
            have HB71 : Hid (Below w.heap.size w w71) := Lib.hid (HB70.out.trans (hb.mono HB70.out.size))
            have HZ71 : Hid (w70.heap.size ≤ w71.heap.size) := Lib.hid hb.size
            have HRk71 := Lib.hid (HRk0.out.below HB71.out (Nat.le_refl _))
            have HRv71 := Lib.hid (HRv70.out.below hb (Nat.le_refl _))
            have HRm71 := Lib.hid (HRm70.out.below hb (Nat.le_refl _))
            have HBs69_71 : Hid (Below w69.heap.size w69 w71) := Lib.hid (HBs69_70.out.trans (hb.mono HBs69_70.out.size))
            have HBs70_71 : Hid (Below w70.heap.size w70 w71) := Lib.hid (HBs70_70.out.trans (hb.mono HBs70_70.out.size))
            clear hb
            obtain ⟨qan, qcn, rfl⟩ := ho.form
            have HRn71 := Lib.hid (ho)
            have HBs71_71 : Hid (Below w71.heap.size w71 w71) := Lib.hid (Below.refl _ _)
            clear ho
            go_wp2_with fail
            refine (drawIsPupil_any _ L _ HRk71.out).mono ?_
            rintro e w72 ⟨⟨i5, x5, b5, c5, l5, rfl, hx5⟩, hb⟩
            have HB72 : Hid (Below w.heap.size w w72) := Lib.hid (HB71.out.trans (hb.mono HB71.out.size))
            have HZ72 : Hid (w71.heap.size ≤ w72.heap.size) := Lib.hid hb.size
            have HRk72 := Lib.hid (HRk0.out.below HB72.out (Nat.le_refl _))
            have HRm72 := Lib.hid (HRm71.out.below hb (Nat.le_refl _))
            have HRn72 := Lib.hid (HRn71.out.below hb (Nat.le_refl _))
            have HBs70_72 : Hid (Below w70.heap.size w70 w72) := Lib.hid (HBs70_71.out.trans (hb.mono HBs70_71.out.size))
            have HBs71_72 : Hid (Below w71.heap.size w71 w72) := Lib.hid (HBs71_71.out.trans (hb.mono HBs71_71.out.size))
            clear hb
            obtain ⟨t5, hS, hI⟩ := ip_same ⟨i5, x5, b5, c5, l5⟩ hx5
            have HS5 : Hid (∀ w, BpB 23 #[.agg #[.int .i64 i5, .string x5, .int .i64 b5, .int .i64 c5, .int .i64 l5]] w t5) := Lib.hid hS
            have HI5 : Hid (∀ w, BpB 22 #[.agg #[.int .i64 i5, .string x5, .int .i64 b5, .int .i64 c5, .int .i64 l5]] w t5) := Lib.hid hI
            clear hS hI
            have heqt5 : (t5 == t5) = true := by simp
            go_wp2_with fail
            have hb : Below w72.heap.size w72 (w72.alloc (.cells #[.int .i64 i5, .string x5, .int .i64 b5, .int .i64 c5, .int .i64 l5] 38)) := (Below.refl _ _).alloc (Nat.le_refl _) _
            have hk : (w72.alloc (.cells #[.int .i64 i5, .string x5, .int .i64 b5, .int .i64 c5, .int .i64 l5] 38)).heap[w72.heap.size]? = some (.cells #[.int .i64 i5, .string x5, .int .i64 b5, .int .i64 c5, .int .i64 l5] 38 (0, 0)) := alloc_at rfl
            have hz : (w72.alloc (.cells #[.int .i64 i5, .string x5, .int .i64 b5, .int .i64 c5, .int .i64 l5] 38)).heap.size = w72.heap.size + 1 := by simp
            generalize w72.alloc (.cells #[.int .i64 i5, .string x5, .int .i64 b5, .int .i64 c5, .int .i64 l5] 38) = w73 at hb hk hz ⊢
            have HB73 : Hid (Below w.heap.size w w73) := Lib.hid (HB72.out.trans (hb.mono HB72.out.size))
            have HZ73 : Hid (w72.heap.size ≤ w73.heap.size) := Lib.hid hb.size
            have HRk73 := Lib.hid (HRk0.out.below HB73.out (Nat.le_refl _))
            have HRm73 := Lib.hid (HRm72.out.below hb (Nat.le_refl _))
            have HRn73 := Lib.hid (HRn72.out.below hb (Nat.le_refl _))
            have HBs70_73 : Hid (Below w70.heap.size w70 w73) := Lib.hid (HBs70_72.out.trans (hb.mono HBs70_72.out.size))
            have HBs71_73 : Hid (Below w71.heap.size w71 w73) := Lib.hid (HBs71_72.out.trans (hb.mono HBs71_72.out.size))
            have HKz73 := Lib.hid hk
            replace HZ73 : Hid (w72.heap.size < w73.heap.size) := Lib.hid (by omega)
            have HE73 := Lib.hid hz
            clear hb hk hz
            have HKz := Lib.hid HKz73.out
            have HMz := Lib.hid HRm73.out
            have HNz := Lib.hid HRn73.out
            have HBz := Lib.hid HB73.out
            obtain ⟨y0, y1, y2, y3, y4, -⟩ := cell5 HKz73.out
            refine wp_region_held_drew (S := (fun u => u.cell? ⟨w72.heap.size, 0, none⟩ = some (.int .i64 i5) ∧ u.cell? ⟨w72.heap.size, 1, none⟩ = some (.string x5) ∧ u.cell? ⟨w72.heap.size, 2, none⟩ = some (.int .i64 b5) ∧ u.cell? ⟨w72.heap.size, 3, none⟩ = some (.int .i64 c5) ∧ u.cell? ⟨w72.heap.size, 4, none⟩ = some (.int .i64 l5))) (by kernel_rfl) (⟨y0, y1, y2, y3, y4⟩) (fun hHeld => ?_)
            have HBd : Hid (Below w.heap.size w w73.drew) := Lib.hid HBz.out.drew
            have HKd : Hid (w73.drew.heap[w72.heap.size]? = some (.cells #[.int .i64 i5, .string x5, .int .i64 b5, .int .i64 c5, .int .i64 l5] 38 (0, 0))) := HKz
            have HMd := Lib.hid (HMz.out.below ((Below.refl _ w73).drew) (Nat.le_refl _))
            have HNd := Lib.hid (HNz.out.below ((Below.refl _ w73).drew) (Nat.le_refl _))
            generalize w73.drew = wd at HBd HKd HMd HNd hHeld ⊢
            clear y0 y1 y2 y3 y4
            obtain ⟨y0, y1, y2, y3, y4, -⟩ := cell5 HKd.out
            refine take1 (i := 0) (v := ?v14) (some 194) rfl rfl (by kernel_rfl) (by kernel_rfl) (by kernel_rfl) (fun _ _ _ h => h) (Or.inl ⟨by rfl, ?y14⟩) (by assumption) ?r14
            case y14 => (intro w hSw; (try dsimp only at hSw); go_simp; (first | done | with_reducible rfl))
            try simp only [Act.put, List.setIfInBounds_toArray, List.set_cons_zero, List.set_cons_succ]
            refine take1 (i := 1) (v := ?v15) (some 195) rfl rfl (by kernel_rfl) (by kernel_rfl) (by kernel_rfl) (fun _ _ _ h => h) (Or.inl ⟨by rfl, ?y15⟩) (by assumption) ?r15
            case y15 => (intro w hSw; (try dsimp only at hSw); go_simp; (first | done | with_reducible rfl))
            try simp only [Act.put, List.setIfInBounds_toArray, List.set_cons_zero, List.set_cons_succ]
            refine take1 (i := 2) (v := ?v16) (some 196) rfl rfl (by kernel_rfl) (by kernel_rfl) (by kernel_rfl) (fun _ _ _ h => h) (Or.inl ⟨by rfl, ?y16⟩) (by assumption) ?r16
            case y16 => (intro w hSw; (try dsimp only at hSw); go_simp; (first | done | with_reducible rfl))
            try simp only [Act.put, List.setIfInBounds_toArray, List.set_cons_zero, List.set_cons_succ]
            refine take1 (i := 3) (v := ?v17) (some 197) rfl rfl (by kernel_rfl) (by kernel_rfl) (by kernel_rfl) (fun _ _ _ h => h) (Or.inl ⟨by rfl, ?y17⟩) (by assumption) ?r17
            case y17 => (intro w hSw; (try dsimp only at hSw); go_simp; (first | done | with_reducible rfl))
            try simp only [Act.put, List.setIfInBounds_toArray, List.set_cons_zero, List.set_cons_succ]
            refine take1 (i := 4) (v := ?v18) (some 198) rfl rfl (by kernel_rfl) (by kernel_rfl) (by kernel_rfl) (fun _ _ _ h => h) (Or.inl ⟨by rfl, ?y18⟩) (by assumption) ?r18
            case y18 => (intro w hSw; (try dsimp only at hSw); go_simp; (first | done | with_reducible rfl))
            try simp only [Act.put, List.setIfInBounds_toArray, List.set_cons_zero, List.set_cons_succ]
            refine take1 (i := 5) (v := ?v19) (some 199) rfl rfl (by kernel_rfl) (by kernel_rfl) (by kernel_rfl) (fun _ _ _ h => h) (Or.inl ⟨by rfl, ?y19⟩) (by assumption) ?r19
            case y19 => (intro w hSw; (try dsimp only at hSw); go_simp; (first | done | with_reducible rfl))
            try simp only [Act.put, List.setIfInBounds_toArray, List.set_cons_zero, List.set_cons_succ]
            refine wpAnyH_ready (rs := [6]) (by kernel_rfl) (by simp) ?_
            refine AllReadyH.cons rfl (fun K hK => ?_) AllReadyH.nil
            go_simp
            go_at_call 9
            refine (rInts_yes _ _ is4 _ HMd.out HNd.out).mono ?_
            rintro e we ⟨rfl, hbx⟩
            have HBe := Lib.hid (HBd.out.trans (hbx.mono HBd.out.size))
            have HKe := Lib.hid ((hbx.block _ (lt_of_block HKd.out)).trans HKd.out)
            clear hbx y0 y1 y2 y3 y4
            obtain ⟨y0, y1, y2, y3, y4, -⟩ := cell5 HKe.out
            refine hK.out _ _ (⟨y0, y1, y2, y3, y4⟩) (fun hHeld => ?_)
            clear hK K
            try simp only [Act.put, List.setIfInBounds_toArray, List.set_cons_zero, List.set_cons_succ]
            refine take1 (i := 7) (v := ?v20) (some 201) rfl rfl (by kernel_rfl) (by kernel_rfl) (by kernel_rfl) (fun _ _ _ h => h) (Or.inl ⟨by rfl, ?y20⟩) (by assumption) ?r20
            case y20 => (intro w hSw; (try dsimp only at hSw); go_simp; (first | done | with_reducible rfl))
            try simp only [Act.put, List.setIfInBounds_toArray, List.set_cons_zero, List.set_cons_succ]
            refine take1 (i := 8) (v := ?v21) (some 202) rfl rfl (by kernel_rfl) (by kernel_rfl) (by kernel_rfl) (fun _ _ _ h => h) (Or.inl ⟨by rfl, ?y21⟩) (by assumption) ?r21
            case y21 => (intro w hSw; (try dsimp only at hSw); go_simp; (first | done | with_reducible rfl))
            try simp only [Act.put, List.setIfInBounds_toArray, List.set_cons_zero, List.set_cons_succ]
            refine take1 (i := 9) (v := ?v22) (some 203) rfl rfl (by kernel_rfl) (by kernel_rfl) (by kernel_rfl) (fun _ _ _ h => h) (Or.inl ⟨by rfl, ?y22⟩) (by assumption) ?r22
            case y22 => (intro w hSw; (try dsimp only at hSw); go_simp; (first | done | with_reducible rfl))
            try simp only [Act.put, List.setIfInBounds_toArray, List.set_cons_zero, List.set_cons_succ]
            refine take1 (i := 11) (v := ?v23) (some 205) rfl rfl (by kernel_rfl) (by kernel_rfl) (by kernel_rfl) (fun _ _ _ h => h) (Or.inl ⟨by rfl, ?y23⟩) (by assumption) ?r23
            case y23 => (intro w hSw; (try dsimp only at hSw); go_simp; (first | done | with_reducible rfl))
            try simp only [Act.put, List.setIfInBounds_toArray, List.set_cons_zero, List.set_cons_succ]
            refine wpAnyH_ready (rs := [10]) (by kernel_rfl) (by simp) ?_
            refine AllReadyH.cons rfl (fun K hK => ?_) AllReadyH.nil
            go_simp
            go_at_call 22
            refine (HI5.out _).mono ?_
            rintro e wf ⟨rfl, hbx⟩
            have HBf := Lib.hid (HBe.out.trans (hbx.mono HBe.out.size))
            have HKf := Lib.hid ((hbx.block _ (lt_of_block HKe.out)).trans HKe.out)
            clear hbx y0 y1 y2 y3 y4
            obtain ⟨y0, y1, y2, y3, y4, -⟩ := cell5 HKf.out
            refine hK.out _ _ (⟨y0, y1, y2, y3, y4⟩) (fun hHeld => ?_)
            clear hK K
            try simp only [Act.put, List.setIfInBounds_toArray, List.set_cons_zero, List.set_cons_succ]
            refine wpAnyH_ready (rs := [12]) (by kernel_rfl) (by simp) ?_
            refine AllReadyH.cons rfl (fun K hK => ?_) AllReadyH.nil
            go_simp
            go_at_call 23
            refine (HS5.out _).mono ?_
            rintro e wg ⟨rfl, hbx⟩
            have HBg := Lib.hid (HBf.out.trans (hbx.mono HBf.out.size))
            have HKg := Lib.hid ((hbx.block _ (lt_of_block HKf.out)).trans HKf.out)
            clear hbx y0 y1 y2 y3 y4
            obtain ⟨y0, y1, y2, y3, y4, -⟩ := cell5 HKg.out
            refine hK.out _ _ (⟨y0, y1, y2, y3, y4⟩) (fun hHeld => ?_)
            clear hK K
            try simp only [Act.put, List.setIfInBounds_toArray, List.set_cons_zero, List.set_cons_succ]
            refine take1 (i := 13) (v := ?v24) (some 207) rfl rfl (by kernel_rfl) (by kernel_rfl) (by kernel_rfl) (fun _ _ _ h => h) (Or.inl ⟨by rfl, ?y24⟩) (by assumption) ?r24
            case y24 => (intro w hSw; (try dsimp only at hSw); go_simp; (first | done | with_reducible rfl))
            try simp only [Act.put, List.setIfInBounds_toArray, List.set_cons_zero, List.set_cons_succ]
            refine take1 (i := 14) (v := ?v25) (some 208) rfl rfl (by kernel_rfl) (by kernel_rfl) (by kernel_rfl) (fun _ _ _ h => h) (Or.inl ⟨by rfl, ?y25⟩) (by assumption) ?r25
            case y25 => (intro w hSw; (try dsimp only at hSw); go_simp; (first | done | with_reducible rfl))
            try simp only [Act.put, List.setIfInBounds_toArray, List.set_cons_zero, List.set_cons_succ]
            refine take1 (i := 15) (v := ?v26) (some 2) rfl rfl (by kernel_rfl) (by kernel_rfl) (by kernel_rfl) (fun _ _ _ h => h) (Or.inl ⟨by rfl, ?y26⟩) (by assumption) ?r26
            case y26 => (intro w hSw; (try dsimp only at hSw); go_simp; (first | done | with_reducible rfl))
            try simp only [Act.put, List.setIfInBounds_toArray, List.set_cons_zero, List.set_cons_succ]
            refine wpAnyH_done (by kernel_rfl) ?_ _
            clear y0 y1 y2 y3 y4
            go_wp2_with fail
            go_ret
            exact ⟨ret_bool (by first | (simp; done) | rfl), HBg.out⟩
      · have hb9 := HBW.out.trans (hb.mono HBW.out.size)
        have HB60 : Hid (Below w.heap.size w w60) := Lib.hid hb9
        have HRk60 := Lib.hid (HRk0.out.below HB60.out (Nat.le_refl _))
        clear hb hb9 hY
        go_wp2_with fail
        refine (drawSwapClasses_any _ L _ HRk60.out).mono ?_
        rintro e w61 ⟨⟨v, ls, sa, sb, rfl, ho, hl2, hnm2⟩, hb⟩
        have HB61 : Hid (Below w.heap.size w w61) := Lib.hid (HB60.out.trans (hb.mono HB60.out.size))
        have HZ61 : Hid (w60.heap.size ≤ w61.heap.size) := Lib.hid hb.size
        have HRk61 := Lib.hid (HRk0.out.below HB61.out (Nat.le_refl _))
        clear hb
        obtain ⟨qal, qcl, rfl⟩ := ho.form
        have HRl61 := Lib.hid (ho)
        have HBs61_61 : Hid (Below w61.heap.size w61 w61) := Lib.hid (Below.refl _ _)
        clear ho
        obtain ⟨ss, b2, hS, hI, hY2⟩ := sw_same ls hnm2 hl2 sa sb
        have HS2 := Lib.hid hS
        have HI2 := Lib.hid hI
        clear hS hI
        have hneb2 : (b2 != b2) = false := by simp
        clear hnm2
        go_wp2_with fail
        refine (HI2.out _ _ HRl61.out).mono ?_
        rintro e w62 ⟨⟨v, rfl, ho⟩, hb⟩
        have HB62 : Hid (Below w.heap.size w w62) := Lib.hid (HB61.out.trans (hb.mono HB61.out.size))
        have HZ62 : Hid (w61.heap.size ≤ w62.heap.size) := Lib.hid hb.size
        have HRk62 := Lib.hid (HRk0.out.below HB62.out (Nat.le_refl _))
        have HRl62 := Lib.hid (HRl61.out.below hb (Nat.le_refl _))
        have HBs61_62 : Hid (Below w61.heap.size w61 w62) := Lib.hid (HBs61_61.out.trans (hb.mono HBs61_61.out.size))
        clear hb
        obtain ⟨qas, qcs, rfl⟩ := ho.form
        have HRs62 := Lib.hid (ho)
        have HBs62_62 : Hid (Below w62.heap.size w62 w62) := Lib.hid (Below.refl _ _)
        clear ho
        go_wp2_with fail
        refine (HS2.out _ _ HRl62.out).mono ?_
        rintro e w63 ⟨⟨v, rfl, ho⟩, hb⟩
        have HB63 : Hid (Below w.heap.size w w63) := Lib.hid (HB62.out.trans (hb.mono HB62.out.size))
        have HZ63 : Hid (w62.heap.size ≤ w63.heap.size) := Lib.hid hb.size
        have HRk63 := Lib.hid (HRk0.out.below HB63.out (Nat.le_refl _))
        have HRl63 := Lib.hid (HRl62.out.below hb (Nat.le_refl _))
        have HRs63 := Lib.hid (HRs62.out.below hb (Nat.le_refl _))
        have HBs61_63 : Hid (Below w61.heap.size w61 w63) := Lib.hid (HBs61_62.out.trans (hb.mono HBs61_62.out.size))
        have HBs62_63 : Hid (Below w62.heap.size w62 w63) := Lib.hid (HBs62_62.out.trans (hb.mono HBs62_62.out.size))
        clear hb
        obtain ⟨qat, qct, rfl⟩ := ho.form
        have HRt63 := Lib.hid (ho)
        have HBs63_63 : Hid (Below w63.heap.size w63 w63) := Lib.hid (Below.refl _ _)
        clear ho
        go_wp2_with fail
        refine (rPupils_yes _ _ ss _ HRs63.out HRt63.out).mono ?_
        rintro e w64 ⟨rfl, hb⟩
        have HB64 : Hid (Below w.heap.size w w64) := Lib.hid (HB63.out.trans (hb.mono HB63.out.size))
        have HZ64 : Hid (w63.heap.size ≤ w64.heap.size) := Lib.hid hb.size
        have HRk64 := Lib.hid (HRk0.out.below HB64.out (Nat.le_refl _))
        have HRl64 := Lib.hid (HRl63.out.below hb (Nat.le_refl _))
        have HRs64 := Lib.hid (HRs63.out.below hb (Nat.le_refl _))
        have HRt64 := Lib.hid (HRt63.out.below hb (Nat.le_refl _))
        have HBs61_64 : Hid (Below w61.heap.size w61 w64) := Lib.hid (HBs61_63.out.trans (hb.mono HBs61_63.out.size))
        have HBs62_64 : Hid (Below w62.heap.size w62 w64) := Lib.hid (HBs62_63.out.trans (hb.mono HBs62_63.out.size))
        have HBs63_64 : Hid (Below w63.heap.size w63 w64) := Lib.hid (HBs63_63.out.trans (hb.mono HBs63_63.out.size))
        clear hb
        cases b2 with
        | true =>
          have HK2 := Lib.hid (hY2 rfl)
          clear hY2
          go_wp2_with fail
          refine (HK2.out _ _ HRs64.out).mono ?_
          rintro e w65 ⟨⟨v, rfl, ho⟩, hb⟩
          have HB65 : Hid (Below w.heap.size w w65) := Lib.hid (HB64.out.trans (hb.mono HB64.out.size))
          have HZ65 : Hid (w64.heap.size ≤ w65.heap.size) := Lib.hid hb.size
          have HRk65 := Lib.hid (HRk0.out.below HB65.out (Nat.le_refl _))
          have HRl65 := Lib.hid (HRl64.out.below hb (Nat.le_refl _))
          have HRs65 := Lib.hid (HRs64.out.below hb (Nat.le_refl _))
          have HBs61_65 : Hid (Below w61.heap.size w61 w65) := Lib.hid (HBs61_64.out.trans (hb.mono HBs61_64.out.size))
          have HBs62_65 : Hid (Below w62.heap.size w62 w65) := Lib.hid (HBs62_64.out.trans (hb.mono HBs62_64.out.size))
          clear hb
          obtain ⟨qar, qcr, rfl⟩ := ho.form
          have HRr65 := Lib.hid (ho)
          have HBs65_65 : Hid (Below w65.heap.size w65 w65) := Lib.hid (Below.refl _ _)
          clear ho
          go_wp2_with fail
          refine (rPupils_yes _ _ ls _ HRr65.out HRl65.out).mono ?_
          rintro e w66 ⟨rfl, hb⟩
          have HB66 : Hid (Below w.heap.size w w66) := Lib.hid (HB65.out.trans (hb.mono HB65.out.size))
          have HZ66 : Hid (w65.heap.size ≤ w66.heap.size) := Lib.hid hb.size
          have HRk66 := Lib.hid (HRk0.out.below HB66.out (Nat.le_refl _))
          have HRl66 := Lib.hid (HRl65.out.below hb (Nat.le_refl _))
          have HRs66 := Lib.hid (HRs65.out.below hb (Nat.le_refl _))
          have HRr66 := Lib.hid (HRr65.out.below hb (Nat.le_refl _))
          have HBs61_66 : Hid (Below w61.heap.size w61 w66) := Lib.hid (HBs61_65.out.trans (hb.mono HBs61_65.out.size))
          have HBs62_66 : Hid (Below w62.heap.size w62 w66) := Lib.hid (HBs62_65.out.trans (hb.mono HBs62_65.out.size))
          have HBs65_66 : Hid (Below w65.heap.size w65 w66) := Lib.hid (HBs65_65.out.trans (hb.mono HBs65_65.out.size))
          clear hb
          go_wp2_with fail
          refine (drawPutInClass_any _ L _ HRk66.out).mono ?_
          rintro e w67 ⟨⟨v, us, x3, c3, rfl, ho, hl3, hnm3⟩, hb⟩
          have HB67 : Hid (Below w.heap.size w w67) := Lib.hid (HB66.out.trans (hb.mono HB66.out.size))
          have HZ67 : Hid (w66.heap.size ≤ w67.heap.size) := Lib.hid hb.size
          have HRk67 := Lib.hid (HRk0.out.below HB67.out (Nat.le_refl _))
          clear hb
          obtain ⟨qau, qcu, rfl⟩ := ho.form
          have HRu67 := Lib.hid (ho)
          have HBs67_67 : Hid (Below w67.heap.size w67 w67) := Lib.hid (Below.refl _ _)
          clear ho
          obtain ⟨fs, b3, hS, hI⟩ := pt_same us hnm3 hl3 x3 c3
          have HS3 := Lib.hid hS
          have HI3 := Lib.hid hI
          clear hS hI
          have hneb3 : (b3 != b3) = false := by simp
          clear hnm3
          go_wp2_with fail
          refine (HI3.out _ _ HRu67.out).mono ?_
          rintro e w68 ⟨⟨v, rfl, ho⟩, hb⟩
          have HB68 : Hid (Below w.heap.size w w68) := Lib.hid (HB67.out.trans (hb.mono HB67.out.size))
          have HZ68 : Hid (w67.heap.size ≤ w68.heap.size) := Lib.hid hb.size
          have HRk68 := Lib.hid (HRk0.out.below HB68.out (Nat.le_refl _))
          have HRu68 := Lib.hid (HRu67.out.below hb (Nat.le_refl _))
          have HBs67_68 : Hid (Below w67.heap.size w67 w68) := Lib.hid (HBs67_67.out.trans (hb.mono HBs67_67.out.size))
          clear hb
          obtain ⟨qaf, qcf, rfl⟩ := ho.form
          have HRf68 := Lib.hid (ho)
          have HBs68_68 : Hid (Below w68.heap.size w68 w68) := Lib.hid (Below.refl _ _)
          clear ho
          go_wp2_with fail
          refine (HS3.out _ _ HRu68.out).mono ?_
          rintro e w69 ⟨⟨v, rfl, ho⟩, hb⟩
          have HB69 : Hid (Below w.heap.size w w69) := Lib.hid (HB68.out.trans (hb.mono HB68.out.size))
          have HZ69 : Hid (w68.heap.size ≤ w69.heap.size) := Lib.hid hb.size
          have HRk69 := Lib.hid (HRk0.out.below HB69.out (Nat.le_refl _))
          have HRu69 := Lib.hid (HRu68.out.below hb (Nat.le_refl _))
          have HRf69 := Lib.hid (HRf68.out.below hb (Nat.le_refl _))
          have HBs67_69 : Hid (Below w67.heap.size w67 w69) := Lib.hid (HBs67_68.out.trans (hb.mono HBs67_68.out.size))
          have HBs68_69 : Hid (Below w68.heap.size w68 w69) := Lib.hid (HBs68_68.out.trans (hb.mono HBs68_68.out.size))
          clear hb
          obtain ⟨qag, qcg, rfl⟩ := ho.form
          have HRg69 := Lib.hid (ho)
          have HBs69_69 : Hid (Below w69.heap.size w69 w69) := Lib.hid (Below.refl _ _)
          clear ho
          go_wp2_with fail
          refine (rPupils_yes _ _ fs _ HRf69.out HRg69.out).mono ?_
          rintro e w70 ⟨rfl, hb⟩
          have HB70 : Hid (Below w.heap.size w w70) := Lib.hid (HB69.out.trans (hb.mono HB69.out.size))
          have HZ70 : Hid (w69.heap.size ≤ w70.heap.size) := Lib.hid hb.size
          have HRk70 := Lib.hid (HRk0.out.below HB70.out (Nat.le_refl _))
          have HRu70 := Lib.hid (HRu69.out.below hb (Nat.le_refl _))
          have HRf70 := Lib.hid (HRf69.out.below hb (Nat.le_refl _))
          have HRg70 := Lib.hid (HRg69.out.below hb (Nat.le_refl _))
          have HBs67_70 : Hid (Below w67.heap.size w67 w70) := Lib.hid (HBs67_69.out.trans (hb.mono HBs67_69.out.size))
          have HBs68_70 : Hid (Below w68.heap.size w68 w70) := Lib.hid (HBs68_69.out.trans (hb.mono HBs68_69.out.size))
          have HBs69_70 : Hid (Below w69.heap.size w69 w70) := Lib.hid (HBs69_69.out.trans (hb.mono HBs69_69.out.size))
          clear hb
          go_wp2_with fail
          refine (drawInClass_any _ L _ HRk70.out).mono ?_
          rintro e w71 ⟨⟨v, ys, c4, rfl, ho, hl4, hnm4⟩, hb⟩
          have HB71 : Hid (Below w.heap.size w w71) := Lib.hid (HB70.out.trans (hb.mono HB70.out.size))
          have HZ71 : Hid (w70.heap.size ≤ w71.heap.size) := Lib.hid hb.size
          have HRk71 := Lib.hid (HRk0.out.below HB71.out (Nat.le_refl _))
          clear hb
          obtain ⟨qav, qcv, rfl⟩ := ho.form
          have HRv71 := Lib.hid (ho)
          have HBs71_71 : Hid (Below w71.heap.size w71 w71) := Lib.hid (Below.refl _ _)
          clear ho
          obtain ⟨is4, b4, hS, hI⟩ := in_same ys hnm4 hl4 c4
          have HS4 := Lib.hid hS
          have HI4 := Lib.hid hI
          clear hS hI
          have heqb4 : (b4 == b4) = true := by simp
          clear hnm4
          go_wp2_with fail
          refine (HI4.out _ _ HRv71.out).mono ?_
          rintro e w72 ⟨⟨v, rfl, ho⟩, hb⟩
          have HB72 : Hid (Below w.heap.size w w72) := Lib.hid (HB71.out.trans (hb.mono HB71.out.size))
          have HZ72 : Hid (w71.heap.size ≤ w72.heap.size) := Lib.hid hb.size
          have HRk72 := Lib.hid (HRk0.out.below HB72.out (Nat.le_refl _))
          have HRv72 := Lib.hid (HRv71.out.below hb (Nat.le_refl _))
          have HBs71_72 : Hid (Below w71.heap.size w71 w72) := Lib.hid (HBs71_71.out.trans (hb.mono HBs71_71.out.size))
          clear hb
          obtain ⟨qam, qcm, rfl⟩ := ho.form
          have HRm72 := Lib.hid (ho)
          have HBs72_72 : Hid (Below w72.heap.size w72 w72) := Lib.hid (Below.refl _ _)
          clear ho
          go_wp2_with fail
          refine (HS4.out _ _ HRv72.out).mono ?_
          rintro e w73 ⟨⟨v, rfl, ho⟩, hb⟩
          have HB73 : Hid (Below w.heap.size w w73) := Lib.hid (HB72.out.trans (hb.mono HB72.out.size))
          have HZ73 : Hid (w72.heap.size ≤ w73.heap.size) := Lib.hid hb.size
          have HRk73 := Lib.hid (HRk0.out.below HB73.out (Nat.le_refl _))
          have HRv73 := Lib.hid (HRv72.out.below hb (Nat.le_refl _))
          have HRm73 := Lib.hid (HRm72.out.below hb (Nat.le_refl _))
          have HBs71_73 : Hid (Below w71.heap.size w71 w73) := Lib.hid (HBs71_72.out.trans (hb.mono HBs71_72.out.size))
          have HBs72_73 : Hid (Below w72.heap.size w72 w73) := Lib.hid (HBs72_72.out.trans (hb.mono HBs72_72.out.size))
          clear hb
          obtain ⟨qan, qcn, rfl⟩ := ho.form
          have HRn73 := Lib.hid (ho)
          have HBs73_73 : Hid (Below w73.heap.size w73 w73) := Lib.hid (Below.refl _ _)
          clear ho
          go_wp2_with fail
          refine (drawIsPupil_any _ L _ HRk73.out).mono ?_
          rintro e w74 ⟨⟨i5, x5, b5, c5, l5, rfl, hx5⟩, hb⟩
          have HB74 : Hid (Below w.heap.size w w74) := Lib.hid (HB73.out.trans (hb.mono HB73.out.size))
          have HZ74 : Hid (w73.heap.size ≤ w74.heap.size) := Lib.hid hb.size
          have HRk74 := Lib.hid (HRk0.out.below HB74.out (Nat.le_refl _))
          have HRm74 := Lib.hid (HRm73.out.below hb (Nat.le_refl _))
          have HRn74 := Lib.hid (HRn73.out.below hb (Nat.le_refl _))
          have HBs72_74 : Hid (Below w72.heap.size w72 w74) := Lib.hid (HBs72_73.out.trans (hb.mono HBs72_73.out.size))
          have HBs73_74 : Hid (Below w73.heap.size w73 w74) := Lib.hid (HBs73_73.out.trans (hb.mono HBs73_73.out.size))
          clear hb
          obtain ⟨t5, hS, hI⟩ := ip_same ⟨i5, x5, b5, c5, l5⟩ hx5
          have HS5 : Hid (∀ w, BpB 23 #[.agg #[.int .i64 i5, .string x5, .int .i64 b5, .int .i64 c5, .int .i64 l5]] w t5) := Lib.hid hS
          have HI5 : Hid (∀ w, BpB 22 #[.agg #[.int .i64 i5, .string x5, .int .i64 b5, .int .i64 c5, .int .i64 l5]] w t5) := Lib.hid hI
          clear hS hI
          have heqt5 : (t5 == t5) = true := by simp
          go_wp2_with fail
          have hb : Below w74.heap.size w74 (w74.alloc (.cells #[.int .i64 i5, .string x5, .int .i64 b5, .int .i64 c5, .int .i64 l5] 38)) := (Below.refl _ _).alloc (Nat.le_refl _) _
          have hk : (w74.alloc (.cells #[.int .i64 i5, .string x5, .int .i64 b5, .int .i64 c5, .int .i64 l5] 38)).heap[w74.heap.size]? = some (.cells #[.int .i64 i5, .string x5, .int .i64 b5, .int .i64 c5, .int .i64 l5] 38 (0, 0)) := alloc_at rfl
          have hz : (w74.alloc (.cells #[.int .i64 i5, .string x5, .int .i64 b5, .int .i64 c5, .int .i64 l5] 38)).heap.size = w74.heap.size + 1 := by simp
          generalize w74.alloc (.cells #[.int .i64 i5, .string x5, .int .i64 b5, .int .i64 c5, .int .i64 l5] 38) = w75 at hb hk hz ⊢
          have HB75 : Hid (Below w.heap.size w w75) := Lib.hid (HB74.out.trans (hb.mono HB74.out.size))
          have HZ75 : Hid (w74.heap.size ≤ w75.heap.size) := Lib.hid hb.size
          have HRk75 := Lib.hid (HRk0.out.below HB75.out (Nat.le_refl _))
          have HRm75 := Lib.hid (HRm74.out.below hb (Nat.le_refl _))
          have HRn75 := Lib.hid (HRn74.out.below hb (Nat.le_refl _))
          have HBs72_75 : Hid (Below w72.heap.size w72 w75) := Lib.hid (HBs72_74.out.trans (hb.mono HBs72_74.out.size))
          have HBs73_75 : Hid (Below w73.heap.size w73 w75) := Lib.hid (HBs73_74.out.trans (hb.mono HBs73_74.out.size))
          have HKz75 := Lib.hid hk
          replace HZ75 : Hid (w74.heap.size < w75.heap.size) := Lib.hid (by omega)
          have HE75 := Lib.hid hz
          clear hb hk hz
          have HKz := Lib.hid HKz75.out
          have HMz := Lib.hid HRm75.out
          have HNz := Lib.hid HRn75.out
          have HBz := Lib.hid HB75.out
          obtain ⟨y0, y1, y2, y3, y4, -⟩ := cell5 HKz75.out
          refine wp_region_held_drew (S := (fun u => u.cell? ⟨w74.heap.size, 0, none⟩ = some (.int .i64 i5) ∧ u.cell? ⟨w74.heap.size, 1, none⟩ = some (.string x5) ∧ u.cell? ⟨w74.heap.size, 2, none⟩ = some (.int .i64 b5) ∧ u.cell? ⟨w74.heap.size, 3, none⟩ = some (.int .i64 c5) ∧ u.cell? ⟨w74.heap.size, 4, none⟩ = some (.int .i64 l5))) (by kernel_rfl) (⟨y0, y1, y2, y3, y4⟩) (fun hHeld => ?_)
          have HBd : Hid (Below w.heap.size w w75.drew) := Lib.hid HBz.out.drew
          have HKd : Hid (w75.drew.heap[w74.heap.size]? = some (.cells #[.int .i64 i5, .string x5, .int .i64 b5, .int .i64 c5, .int .i64 l5] 38 (0, 0))) := HKz
          have HMd := Lib.hid (HMz.out.below ((Below.refl _ w75).drew) (Nat.le_refl _))
          have HNd := Lib.hid (HNz.out.below ((Below.refl _ w75).drew) (Nat.le_refl _))
          generalize w75.drew = wd at HBd HKd HMd HNd hHeld ⊢
          clear y0 y1 y2 y3 y4
          obtain ⟨y0, y1, y2, y3, y4, -⟩ := cell5 HKd.out
          refine take1 (i := 0) (v := ?v27) (some 194) rfl rfl (by kernel_rfl) (by kernel_rfl) (by kernel_rfl) (fun _ _ _ h => h) (Or.inl ⟨by rfl, ?y27⟩) (by assumption) ?r27
          case y27 => (intro w hSw; (try dsimp only at hSw); go_simp; (first | done | with_reducible rfl))
          try simp only [Act.put, List.setIfInBounds_toArray, List.set_cons_zero, List.set_cons_succ]
          refine take1 (i := 1) (v := ?v28) (some 195) rfl rfl (by kernel_rfl) (by kernel_rfl) (by kernel_rfl) (fun _ _ _ h => h) (Or.inl ⟨by rfl, ?y28⟩) (by assumption) ?r28
          case y28 => (intro w hSw; (try dsimp only at hSw); go_simp; (first | done | with_reducible rfl))
          try simp only [Act.put, List.setIfInBounds_toArray, List.set_cons_zero, List.set_cons_succ]
          refine take1 (i := 2) (v := ?v29) (some 196) rfl rfl (by kernel_rfl) (by kernel_rfl) (by kernel_rfl) (fun _ _ _ h => h) (Or.inl ⟨by rfl, ?y29⟩) (by assumption) ?r29
          case y29 => (intro w hSw; (try dsimp only at hSw); go_simp; (first | done | with_reducible rfl))
          try simp only [Act.put, List.setIfInBounds_toArray, List.set_cons_zero, List.set_cons_succ]
          refine take1 (i := 3) (v := ?v30) (some 197) rfl rfl (by kernel_rfl) (by kernel_rfl) (by kernel_rfl) (fun _ _ _ h => h) (Or.inl ⟨by rfl, ?y30⟩) (by assumption) ?r30
          case y30 => (intro w hSw; (try dsimp only at hSw); go_simp; (first | done | with_reducible rfl))
          try simp only [Act.put, List.setIfInBounds_toArray, List.set_cons_zero, List.set_cons_succ]
          refine take1 (i := 4) (v := ?v31) (some 198) rfl rfl (by kernel_rfl) (by kernel_rfl) (by kernel_rfl) (fun _ _ _ h => h) (Or.inl ⟨by rfl, ?y31⟩) (by assumption) ?r31
          case y31 => (intro w hSw; (try dsimp only at hSw); go_simp; (first | done | with_reducible rfl))
          try simp only [Act.put, List.setIfInBounds_toArray, List.set_cons_zero, List.set_cons_succ]
          refine take1 (i := 5) (v := ?v32) (some 199) rfl rfl (by kernel_rfl) (by kernel_rfl) (by kernel_rfl) (fun _ _ _ h => h) (Or.inl ⟨by rfl, ?y32⟩) (by assumption) ?r32
          case y32 => (intro w hSw; (try dsimp only at hSw); go_simp; (first | done | with_reducible rfl))
          try simp only [Act.put, List.setIfInBounds_toArray, List.set_cons_zero, List.set_cons_succ]
          refine wpAnyH_ready (rs := [6]) (by kernel_rfl) (by simp) ?_
          refine AllReadyH.cons rfl (fun K hK => ?_) AllReadyH.nil
          go_simp
          go_at_call 9
          refine (rInts_yes _ _ is4 _ HMd.out HNd.out).mono ?_
          rintro e we ⟨rfl, hbx⟩
          have HBe := Lib.hid (HBd.out.trans (hbx.mono HBd.out.size))
          have HKe := Lib.hid ((hbx.block _ (lt_of_block HKd.out)).trans HKd.out)
          clear hbx y0 y1 y2 y3 y4
          obtain ⟨y0, y1, y2, y3, y4, -⟩ := cell5 HKe.out
          refine hK.out _ _ (⟨y0, y1, y2, y3, y4⟩) (fun hHeld => ?_)
          clear hK K
          try simp only [Act.put, List.setIfInBounds_toArray, List.set_cons_zero, List.set_cons_succ]
          refine take1 (i := 7) (v := ?v33) (some 201) rfl rfl (by kernel_rfl) (by kernel_rfl) (by kernel_rfl) (fun _ _ _ h => h) (Or.inl ⟨by rfl, ?y33⟩) (by assumption) ?r33
          case y33 => (intro w hSw; (try dsimp only at hSw); go_simp; (first | done | with_reducible rfl))
          try simp only [Act.put, List.setIfInBounds_toArray, List.set_cons_zero, List.set_cons_succ]
          refine take1 (i := 8) (v := ?v34) (some 202) rfl rfl (by kernel_rfl) (by kernel_rfl) (by kernel_rfl) (fun _ _ _ h => h) (Or.inl ⟨by rfl, ?y34⟩) (by assumption) ?r34
          case y34 => (intro w hSw; (try dsimp only at hSw); go_simp; (first | done | with_reducible rfl))
          try simp only [Act.put, List.setIfInBounds_toArray, List.set_cons_zero, List.set_cons_succ]
          refine take1 (i := 9) (v := ?v35) (some 203) rfl rfl (by kernel_rfl) (by kernel_rfl) (by kernel_rfl) (fun _ _ _ h => h) (Or.inl ⟨by rfl, ?y35⟩) (by assumption) ?r35
          case y35 => (intro w hSw; (try dsimp only at hSw); go_simp; (first | done | with_reducible rfl))
          try simp only [Act.put, List.setIfInBounds_toArray, List.set_cons_zero, List.set_cons_succ]
          refine take1 (i := 11) (v := ?v36) (some 205) rfl rfl (by kernel_rfl) (by kernel_rfl) (by kernel_rfl) (fun _ _ _ h => h) (Or.inl ⟨by rfl, ?y36⟩) (by assumption) ?r36
          case y36 => (intro w hSw; (try dsimp only at hSw); go_simp; (first | done | with_reducible rfl))
          try simp only [Act.put, List.setIfInBounds_toArray, List.set_cons_zero, List.set_cons_succ]
          refine wpAnyH_ready (rs := [10]) (by kernel_rfl) (by simp) ?_
          refine AllReadyH.cons rfl (fun K hK => ?_) AllReadyH.nil
          go_simp
          go_at_call 22
          refine (HI5.out _).mono ?_
          rintro e wf ⟨rfl, hbx⟩
          have HBf := Lib.hid (HBe.out.trans (hbx.mono HBe.out.size))
          have HKf := Lib.hid ((hbx.block _ (lt_of_block HKe.out)).trans HKe.out)
          clear hbx y0 y1 y2 y3 y4
          obtain ⟨y0, y1, y2, y3, y4, -⟩ := cell5 HKf.out
          refine hK.out _ _ (⟨y0, y1, y2, y3, y4⟩) (fun hHeld => ?_)
          clear hK K
          try simp only [Act.put, List.setIfInBounds_toArray, List.set_cons_zero, List.set_cons_succ]
          refine wpAnyH_ready (rs := [12]) (by kernel_rfl) (by simp) ?_
          refine AllReadyH.cons rfl (fun K hK => ?_) AllReadyH.nil
          go_simp
          go_at_call 23
          refine (HS5.out _).mono ?_
          rintro e wg ⟨rfl, hbx⟩
          have HBg := Lib.hid (HBf.out.trans (hbx.mono HBf.out.size))
          have HKg := Lib.hid ((hbx.block _ (lt_of_block HKf.out)).trans HKf.out)
          clear hbx y0 y1 y2 y3 y4
          obtain ⟨y0, y1, y2, y3, y4, -⟩ := cell5 HKg.out
          refine hK.out _ _ (⟨y0, y1, y2, y3, y4⟩) (fun hHeld => ?_)
          clear hK K
          try simp only [Act.put, List.setIfInBounds_toArray, List.set_cons_zero, List.set_cons_succ]
          refine take1 (i := 13) (v := ?v37) (some 207) rfl rfl (by kernel_rfl) (by kernel_rfl) (by kernel_rfl) (fun _ _ _ h => h) (Or.inl ⟨by rfl, ?y37⟩) (by assumption) ?r37
          case y37 => (intro w hSw; (try dsimp only at hSw); go_simp; (first | done | with_reducible rfl))
          try simp only [Act.put, List.setIfInBounds_toArray, List.set_cons_zero, List.set_cons_succ]
          refine take1 (i := 14) (v := ?v38) (some 208) rfl rfl (by kernel_rfl) (by kernel_rfl) (by kernel_rfl) (fun _ _ _ h => h) (Or.inl ⟨by rfl, ?y38⟩) (by assumption) ?r38
          case y38 => (intro w hSw; (try dsimp only at hSw); go_simp; (first | done | with_reducible rfl))
          try simp only [Act.put, List.setIfInBounds_toArray, List.set_cons_zero, List.set_cons_succ]
          refine take1 (i := 15) (v := ?v39) (some 2) rfl rfl (by kernel_rfl) (by kernel_rfl) (by kernel_rfl) (fun _ _ _ h => h) (Or.inl ⟨by rfl, ?y39⟩) (by assumption) ?r39
          case y39 => (intro w hSw; (try dsimp only at hSw); go_simp; (first | done | with_reducible rfl))
          try simp only [Act.put, List.setIfInBounds_toArray, List.set_cons_zero, List.set_cons_succ]
          refine wpAnyH_done (by kernel_rfl) ?_ _
          clear y0 y1 y2 y3 y4
          go_wp2_with fail
          go_ret
          exact ⟨ret_bool (by first | (simp; done) | rfl), HBg.out⟩
        | false =>
          clear hY2
          go_wp2_with fail
          refine (drawPutInClass_any _ L _ HRk64.out).mono ?_
          rintro e w65 ⟨⟨v, us, x3, c3, rfl, ho, hl3, hnm3⟩, hb⟩
          have HB65 : Hid (Below w.heap.size w w65) := Lib.hid (HB64.out.trans (hb.mono HB64.out.size))
          have HZ65 : Hid (w64.heap.size ≤ w65.heap.size) := Lib.hid hb.size
          have HRk65 := Lib.hid (HRk0.out.below HB65.out (Nat.le_refl _))
          clear hb
          obtain ⟨qau, qcu, rfl⟩ := ho.form
          have HRu65 := Lib.hid (ho)
          have HBs65_65 : Hid (Below w65.heap.size w65 w65) := Lib.hid (Below.refl _ _)
          clear ho
          obtain ⟨fs, b3, hS, hI⟩ := pt_same us hnm3 hl3 x3 c3
          have HS3 := Lib.hid hS
          have HI3 := Lib.hid hI
          clear hS hI
          have hneb3 : (b3 != b3) = false := by simp
          clear hnm3
          go_wp2_with fail
          refine (HI3.out _ _ HRu65.out).mono ?_
          rintro e w66 ⟨⟨v, rfl, ho⟩, hb⟩
          have HB66 : Hid (Below w.heap.size w w66) := Lib.hid (HB65.out.trans (hb.mono HB65.out.size))
          have HZ66 : Hid (w65.heap.size ≤ w66.heap.size) := Lib.hid hb.size
          have HRk66 := Lib.hid (HRk0.out.below HB66.out (Nat.le_refl _))
          have HRu66 := Lib.hid (HRu65.out.below hb (Nat.le_refl _))
          have HBs65_66 : Hid (Below w65.heap.size w65 w66) := Lib.hid (HBs65_65.out.trans (hb.mono HBs65_65.out.size))
          clear hb
          obtain ⟨qaf, qcf, rfl⟩ := ho.form
          have HRf66 := Lib.hid (ho)
          have HBs66_66 : Hid (Below w66.heap.size w66 w66) := Lib.hid (Below.refl _ _)
          clear ho
          go_wp2_with fail
          refine (HS3.out _ _ HRu66.out).mono ?_
          rintro e w67 ⟨⟨v, rfl, ho⟩, hb⟩
          have HB67 : Hid (Below w.heap.size w w67) := Lib.hid (HB66.out.trans (hb.mono HB66.out.size))
          have HZ67 : Hid (w66.heap.size ≤ w67.heap.size) := Lib.hid hb.size
          have HRk67 := Lib.hid (HRk0.out.below HB67.out (Nat.le_refl _))
          have HRu67 := Lib.hid (HRu66.out.below hb (Nat.le_refl _))
          have HRf67 := Lib.hid (HRf66.out.below hb (Nat.le_refl _))
          have HBs65_67 : Hid (Below w65.heap.size w65 w67) := Lib.hid (HBs65_66.out.trans (hb.mono HBs65_66.out.size))
          have HBs66_67 : Hid (Below w66.heap.size w66 w67) := Lib.hid (HBs66_66.out.trans (hb.mono HBs66_66.out.size))
          clear hb
          obtain ⟨qag, qcg, rfl⟩ := ho.form
          have HRg67 := Lib.hid (ho)
          have HBs67_67 : Hid (Below w67.heap.size w67 w67) := Lib.hid (Below.refl _ _)
          clear ho
          go_wp2_with fail
          refine (rPupils_yes _ _ fs _ HRf67.out HRg67.out).mono ?_
          rintro e w68 ⟨rfl, hb⟩
          have HB68 : Hid (Below w.heap.size w w68) := Lib.hid (HB67.out.trans (hb.mono HB67.out.size))
          have HZ68 : Hid (w67.heap.size ≤ w68.heap.size) := Lib.hid hb.size
          have HRk68 := Lib.hid (HRk0.out.below HB68.out (Nat.le_refl _))
          have HRu68 := Lib.hid (HRu67.out.below hb (Nat.le_refl _))
          have HRf68 := Lib.hid (HRf67.out.below hb (Nat.le_refl _))
          have HRg68 := Lib.hid (HRg67.out.below hb (Nat.le_refl _))
          have HBs65_68 : Hid (Below w65.heap.size w65 w68) := Lib.hid (HBs65_67.out.trans (hb.mono HBs65_67.out.size))
          have HBs66_68 : Hid (Below w66.heap.size w66 w68) := Lib.hid (HBs66_67.out.trans (hb.mono HBs66_67.out.size))
          have HBs67_68 : Hid (Below w67.heap.size w67 w68) := Lib.hid (HBs67_67.out.trans (hb.mono HBs67_67.out.size))
          clear hb
          go_wp2_with fail
          refine (drawInClass_any _ L _ HRk68.out).mono ?_
          rintro e w69 ⟨⟨v, ys, c4, rfl, ho, hl4, hnm4⟩, hb⟩
          have HB69 : Hid (Below w.heap.size w w69) := Lib.hid (HB68.out.trans (hb.mono HB68.out.size))
          have HZ69 : Hid (w68.heap.size ≤ w69.heap.size) := Lib.hid hb.size
          have HRk69 := Lib.hid (HRk0.out.below HB69.out (Nat.le_refl _))
          clear hb
          obtain ⟨qav, qcv, rfl⟩ := ho.form
          have HRv69 := Lib.hid (ho)
          have HBs69_69 : Hid (Below w69.heap.size w69 w69) := Lib.hid (Below.refl _ _)
          clear ho
          obtain ⟨is4, b4, hS, hI⟩ := in_same ys hnm4 hl4 c4
          have HS4 := Lib.hid hS
          have HI4 := Lib.hid hI
          clear hS hI
          have heqb4 : (b4 == b4) = true := by simp
          clear hnm4
          go_wp2_with fail
          refine (HI4.out _ _ HRv69.out).mono ?_
          rintro e w70 ⟨⟨v, rfl, ho⟩, hb⟩
          have HB70 : Hid (Below w.heap.size w w70) := Lib.hid (HB69.out.trans (hb.mono HB69.out.size))
          have HZ70 : Hid (w69.heap.size ≤ w70.heap.size) := Lib.hid hb.size
          have HRk70 := Lib.hid (HRk0.out.below HB70.out (Nat.le_refl _))
          have HRv70 := Lib.hid (HRv69.out.below hb (Nat.le_refl _))
          have HBs69_70 : Hid (Below w69.heap.size w69 w70) := Lib.hid (HBs69_69.out.trans (hb.mono HBs69_69.out.size))
          clear hb
          obtain ⟨qam, qcm, rfl⟩ := ho.form
          have HRm70 := Lib.hid (ho)
          have HBs70_70 : Hid (Below w70.heap.size w70 w70) := Lib.hid (Below.refl _ _)
          clear ho
          go_wp2_with fail
          refine (HS4.out _ _ HRv70.out).mono ?_
          rintro e w71 ⟨⟨v, rfl, ho⟩, hb⟩
          have HB71 : Hid (Below w.heap.size w w71) := Lib.hid (HB70.out.trans (hb.mono HB70.out.size))
          have HZ71 : Hid (w70.heap.size ≤ w71.heap.size) := Lib.hid hb.size
          have HRk71 := Lib.hid (HRk0.out.below HB71.out (Nat.le_refl _))
          have HRv71 := Lib.hid (HRv70.out.below hb (Nat.le_refl _))
          have HRm71 := Lib.hid (HRm70.out.below hb (Nat.le_refl _))
          have HBs69_71 : Hid (Below w69.heap.size w69 w71) := Lib.hid (HBs69_70.out.trans (hb.mono HBs69_70.out.size))
          have HBs70_71 : Hid (Below w70.heap.size w70 w71) := Lib.hid (HBs70_70.out.trans (hb.mono HBs70_70.out.size))
          clear hb
          obtain ⟨qan, qcn, rfl⟩ := ho.form
          have HRn71 := Lib.hid (ho)
          have HBs71_71 : Hid (Below w71.heap.size w71 w71) := Lib.hid (Below.refl _ _)
          clear ho
          go_wp2_with fail
          refine (drawIsPupil_any _ L _ HRk71.out).mono ?_
          rintro e w72 ⟨⟨i5, x5, b5, c5, l5, rfl, hx5⟩, hb⟩
          have HB72 : Hid (Below w.heap.size w w72) := Lib.hid (HB71.out.trans (hb.mono HB71.out.size))
          have HZ72 : Hid (w71.heap.size ≤ w72.heap.size) := Lib.hid hb.size
          have HRk72 := Lib.hid (HRk0.out.below HB72.out (Nat.le_refl _))
          have HRm72 := Lib.hid (HRm71.out.below hb (Nat.le_refl _))
          have HRn72 := Lib.hid (HRn71.out.below hb (Nat.le_refl _))
          have HBs70_72 : Hid (Below w70.heap.size w70 w72) := Lib.hid (HBs70_71.out.trans (hb.mono HBs70_71.out.size))
          have HBs71_72 : Hid (Below w71.heap.size w71 w72) := Lib.hid (HBs71_71.out.trans (hb.mono HBs71_71.out.size))
          clear hb
          obtain ⟨t5, hS, hI⟩ := ip_same ⟨i5, x5, b5, c5, l5⟩ hx5
          have HS5 : Hid (∀ w, BpB 23 #[.agg #[.int .i64 i5, .string x5, .int .i64 b5, .int .i64 c5, .int .i64 l5]] w t5) := Lib.hid hS
          have HI5 : Hid (∀ w, BpB 22 #[.agg #[.int .i64 i5, .string x5, .int .i64 b5, .int .i64 c5, .int .i64 l5]] w t5) := Lib.hid hI
          clear hS hI
          have heqt5 : (t5 == t5) = true := by simp
          go_wp2_with fail
          have hb : Below w72.heap.size w72 (w72.alloc (.cells #[.int .i64 i5, .string x5, .int .i64 b5, .int .i64 c5, .int .i64 l5] 38)) := (Below.refl _ _).alloc (Nat.le_refl _) _
          have hk : (w72.alloc (.cells #[.int .i64 i5, .string x5, .int .i64 b5, .int .i64 c5, .int .i64 l5] 38)).heap[w72.heap.size]? = some (.cells #[.int .i64 i5, .string x5, .int .i64 b5, .int .i64 c5, .int .i64 l5] 38 (0, 0)) := alloc_at rfl
          have hz : (w72.alloc (.cells #[.int .i64 i5, .string x5, .int .i64 b5, .int .i64 c5, .int .i64 l5] 38)).heap.size = w72.heap.size + 1 := by simp
          generalize w72.alloc (.cells #[.int .i64 i5, .string x5, .int .i64 b5, .int .i64 c5, .int .i64 l5] 38) = w73 at hb hk hz ⊢
          have HB73 : Hid (Below w.heap.size w w73) := Lib.hid (HB72.out.trans (hb.mono HB72.out.size))
          have HZ73 : Hid (w72.heap.size ≤ w73.heap.size) := Lib.hid hb.size
          have HRk73 := Lib.hid (HRk0.out.below HB73.out (Nat.le_refl _))
          have HRm73 := Lib.hid (HRm72.out.below hb (Nat.le_refl _))
          have HRn73 := Lib.hid (HRn72.out.below hb (Nat.le_refl _))
          have HBs70_73 : Hid (Below w70.heap.size w70 w73) := Lib.hid (HBs70_72.out.trans (hb.mono HBs70_72.out.size))
          have HBs71_73 : Hid (Below w71.heap.size w71 w73) := Lib.hid (HBs71_72.out.trans (hb.mono HBs71_72.out.size))
          have HKz73 := Lib.hid hk
          replace HZ73 : Hid (w72.heap.size < w73.heap.size) := Lib.hid (by omega)
          have HE73 := Lib.hid hz
          clear hb hk hz
          have HKz := Lib.hid HKz73.out
          have HMz := Lib.hid HRm73.out
          have HNz := Lib.hid HRn73.out
          have HBz := Lib.hid HB73.out
          obtain ⟨y0, y1, y2, y3, y4, -⟩ := cell5 HKz73.out
          refine wp_region_held_drew (S := (fun u => u.cell? ⟨w72.heap.size, 0, none⟩ = some (.int .i64 i5) ∧ u.cell? ⟨w72.heap.size, 1, none⟩ = some (.string x5) ∧ u.cell? ⟨w72.heap.size, 2, none⟩ = some (.int .i64 b5) ∧ u.cell? ⟨w72.heap.size, 3, none⟩ = some (.int .i64 c5) ∧ u.cell? ⟨w72.heap.size, 4, none⟩ = some (.int .i64 l5))) (by kernel_rfl) (⟨y0, y1, y2, y3, y4⟩) (fun hHeld => ?_)
          have HBd : Hid (Below w.heap.size w w73.drew) := Lib.hid HBz.out.drew
          have HKd : Hid (w73.drew.heap[w72.heap.size]? = some (.cells #[.int .i64 i5, .string x5, .int .i64 b5, .int .i64 c5, .int .i64 l5] 38 (0, 0))) := HKz
          have HMd := Lib.hid (HMz.out.below ((Below.refl _ w73).drew) (Nat.le_refl _))
          have HNd := Lib.hid (HNz.out.below ((Below.refl _ w73).drew) (Nat.le_refl _))
          generalize w73.drew = wd at HBd HKd HMd HNd hHeld ⊢
          clear y0 y1 y2 y3 y4
          obtain ⟨y0, y1, y2, y3, y4, -⟩ := cell5 HKd.out
          refine take1 (i := 0) (v := ?v40) (some 194) rfl rfl (by kernel_rfl) (by kernel_rfl) (by kernel_rfl) (fun _ _ _ h => h) (Or.inl ⟨by rfl, ?y40⟩) (by assumption) ?r40
          case y40 => (intro w hSw; (try dsimp only at hSw); go_simp; (first | done | with_reducible rfl))
          try simp only [Act.put, List.setIfInBounds_toArray, List.set_cons_zero, List.set_cons_succ]
          refine take1 (i := 1) (v := ?v41) (some 195) rfl rfl (by kernel_rfl) (by kernel_rfl) (by kernel_rfl) (fun _ _ _ h => h) (Or.inl ⟨by rfl, ?y41⟩) (by assumption) ?r41
          case y41 => (intro w hSw; (try dsimp only at hSw); go_simp; (first | done | with_reducible rfl))
          try simp only [Act.put, List.setIfInBounds_toArray, List.set_cons_zero, List.set_cons_succ]
          refine take1 (i := 2) (v := ?v42) (some 196) rfl rfl (by kernel_rfl) (by kernel_rfl) (by kernel_rfl) (fun _ _ _ h => h) (Or.inl ⟨by rfl, ?y42⟩) (by assumption) ?r42
          case y42 => (intro w hSw; (try dsimp only at hSw); go_simp; (first | done | with_reducible rfl))
          try simp only [Act.put, List.setIfInBounds_toArray, List.set_cons_zero, List.set_cons_succ]
          refine take1 (i := 3) (v := ?v43) (some 197) rfl rfl (by kernel_rfl) (by kernel_rfl) (by kernel_rfl) (fun _ _ _ h => h) (Or.inl ⟨by rfl, ?y43⟩) (by assumption) ?r43
          case y43 => (intro w hSw; (try dsimp only at hSw); go_simp; (first | done | with_reducible rfl))
          try simp only [Act.put, List.setIfInBounds_toArray, List.set_cons_zero, List.set_cons_succ]
          refine take1 (i := 4) (v := ?v44) (some 198) rfl rfl (by kernel_rfl) (by kernel_rfl) (by kernel_rfl) (fun _ _ _ h => h) (Or.inl ⟨by rfl, ?y44⟩) (by assumption) ?r44
          case y44 => (intro w hSw; (try dsimp only at hSw); go_simp; (first | done | with_reducible rfl))
          try simp only [Act.put, List.setIfInBounds_toArray, List.set_cons_zero, List.set_cons_succ]
          refine take1 (i := 5) (v := ?v45) (some 199) rfl rfl (by kernel_rfl) (by kernel_rfl) (by kernel_rfl) (fun _ _ _ h => h) (Or.inl ⟨by rfl, ?y45⟩) (by assumption) ?r45
          case y45 => (intro w hSw; (try dsimp only at hSw); go_simp; (first | done | with_reducible rfl))
          try simp only [Act.put, List.setIfInBounds_toArray, List.set_cons_zero, List.set_cons_succ]
          refine wpAnyH_ready (rs := [6]) (by kernel_rfl) (by simp) ?_
          refine AllReadyH.cons rfl (fun K hK => ?_) AllReadyH.nil
          go_simp
          go_at_call 9
          refine (rInts_yes _ _ is4 _ HMd.out HNd.out).mono ?_
          rintro e we ⟨rfl, hbx⟩
          have HBe := Lib.hid (HBd.out.trans (hbx.mono HBd.out.size))
          have HKe := Lib.hid ((hbx.block _ (lt_of_block HKd.out)).trans HKd.out)
          clear hbx y0 y1 y2 y3 y4
          obtain ⟨y0, y1, y2, y3, y4, -⟩ := cell5 HKe.out
          refine hK.out _ _ (⟨y0, y1, y2, y3, y4⟩) (fun hHeld => ?_)
          clear hK K
          try simp only [Act.put, List.setIfInBounds_toArray, List.set_cons_zero, List.set_cons_succ]
          refine take1 (i := 7) (v := ?v46) (some 201) rfl rfl (by kernel_rfl) (by kernel_rfl) (by kernel_rfl) (fun _ _ _ h => h) (Or.inl ⟨by rfl, ?y46⟩) (by assumption) ?r46
          case y46 => (intro w hSw; (try dsimp only at hSw); go_simp; (first | done | with_reducible rfl))
          try simp only [Act.put, List.setIfInBounds_toArray, List.set_cons_zero, List.set_cons_succ]
          refine take1 (i := 8) (v := ?v47) (some 202) rfl rfl (by kernel_rfl) (by kernel_rfl) (by kernel_rfl) (fun _ _ _ h => h) (Or.inl ⟨by rfl, ?y47⟩) (by assumption) ?r47
          case y47 => (intro w hSw; (try dsimp only at hSw); go_simp; (first | done | with_reducible rfl))
          try simp only [Act.put, List.setIfInBounds_toArray, List.set_cons_zero, List.set_cons_succ]
          refine take1 (i := 9) (v := ?v48) (some 203) rfl rfl (by kernel_rfl) (by kernel_rfl) (by kernel_rfl) (fun _ _ _ h => h) (Or.inl ⟨by rfl, ?y48⟩) (by assumption) ?r48
          case y48 => (intro w hSw; (try dsimp only at hSw); go_simp; (first | done | with_reducible rfl))
          try simp only [Act.put, List.setIfInBounds_toArray, List.set_cons_zero, List.set_cons_succ]
          refine take1 (i := 11) (v := ?v49) (some 205) rfl rfl (by kernel_rfl) (by kernel_rfl) (by kernel_rfl) (fun _ _ _ h => h) (Or.inl ⟨by rfl, ?y49⟩) (by assumption) ?r49
          case y49 => (intro w hSw; (try dsimp only at hSw); go_simp; (first | done | with_reducible rfl))
          try simp only [Act.put, List.setIfInBounds_toArray, List.set_cons_zero, List.set_cons_succ]
          refine wpAnyH_ready (rs := [10]) (by kernel_rfl) (by simp) ?_
          refine AllReadyH.cons rfl (fun K hK => ?_) AllReadyH.nil
          go_simp
          go_at_call 22
          refine (HI5.out _).mono ?_
          rintro e wf ⟨rfl, hbx⟩
          have HBf := Lib.hid (HBe.out.trans (hbx.mono HBe.out.size))
          have HKf := Lib.hid ((hbx.block _ (lt_of_block HKe.out)).trans HKe.out)
          clear hbx y0 y1 y2 y3 y4
          obtain ⟨y0, y1, y2, y3, y4, -⟩ := cell5 HKf.out
          refine hK.out _ _ (⟨y0, y1, y2, y3, y4⟩) (fun hHeld => ?_)
          clear hK K
          try simp only [Act.put, List.setIfInBounds_toArray, List.set_cons_zero, List.set_cons_succ]
          refine wpAnyH_ready (rs := [12]) (by kernel_rfl) (by simp) ?_
          refine AllReadyH.cons rfl (fun K hK => ?_) AllReadyH.nil
          go_simp
          go_at_call 23
          refine (HS5.out _).mono ?_
          rintro e wg ⟨rfl, hbx⟩
          have HBg := Lib.hid (HBf.out.trans (hbx.mono HBf.out.size))
          have HKg := Lib.hid ((hbx.block _ (lt_of_block HKf.out)).trans HKf.out)
          clear hbx y0 y1 y2 y3 y4
          obtain ⟨y0, y1, y2, y3, y4, -⟩ := cell5 HKg.out
          refine hK.out _ _ (⟨y0, y1, y2, y3, y4⟩) (fun hHeld => ?_)
          clear hK K
          try simp only [Act.put, List.setIfInBounds_toArray, List.set_cons_zero, List.set_cons_succ]
          refine take1 (i := 13) (v := ?v50) (some 207) rfl rfl (by kernel_rfl) (by kernel_rfl) (by kernel_rfl) (fun _ _ _ h => h) (Or.inl ⟨by rfl, ?y50⟩) (by assumption) ?r50
          case y50 => (intro w hSw; (try dsimp only at hSw); go_simp; (first | done | with_reducible rfl))
          try simp only [Act.put, List.setIfInBounds_toArray, List.set_cons_zero, List.set_cons_succ]
          refine take1 (i := 14) (v := ?v51) (some 208) rfl rfl (by kernel_rfl) (by kernel_rfl) (by kernel_rfl) (fun _ _ _ h => h) (Or.inl ⟨by rfl, ?y51⟩) (by assumption) ?r51
          case y51 => (intro w hSw; (try dsimp only at hSw); go_simp; (first | done | with_reducible rfl))
          try simp only [Act.put, List.setIfInBounds_toArray, List.set_cons_zero, List.set_cons_succ]
          refine take1 (i := 15) (v := ?v52) (some 2) rfl rfl (by kernel_rfl) (by kernel_rfl) (by kernel_rfl) (fun _ _ _ h => h) (Or.inl ⟨by rfl, ?y52⟩) (by assumption) ?r52
          case y52 => (intro w hSw; (try dsimp only at hSw); go_simp; (first | done | with_reducible rfl))
          try simp only [Act.put, List.setIfInBounds_toArray, List.set_cons_zero, List.set_cons_succ]
          refine wpAnyH_done (by kernel_rfl) ?_ _
          clear y0 y1 y2 y3 y4
          go_wp2_with fail
          go_ret
          exact ⟨ret_bool (by first | (simp; done) | rfl), HBg.out⟩
end Go.Proofs.Ytlhcediejccieaa
