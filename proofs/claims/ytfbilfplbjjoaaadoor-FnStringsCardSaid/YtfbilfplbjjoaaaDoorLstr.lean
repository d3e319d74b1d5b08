/- The law FnStrings. -/
import Derived.Test.YtfbilfplbjjoaaaDoorByt
import Derived.Test.YtfbilfplbjjoaaaDoorDstr
import Derived.Test.YtfbilfplbjjoaaaDoorReg
namespace Go.Proofs.YtfbilfplbjjoaaaDoor
set_option linter.unusedVariables false
open Go.RowKit

set_option maxRecDepth 100000 in
set_option maxHeartbeats 3200000 in
theorem lawStrings (w : World) (ad : Option Addr) (cp : Nat) (L : List UInt8) (h : SlR w (.slice ad L.length cp) (L.map fun c => .int .u8 (c.toNat : Int))) (hE : Sents w) (hT : Lib.TabIs Tryd.prog w "internal/strconv.uint64pow10" .u64 Lib.pow10Tab) :
    Calls Tryd.prog 3 #[.slice ad L.length cp] w fun e w' => e = .returned (.bool true) ∧ Below w.heap.size w w' := by
  have hm : L.length ≤ 9223372036854775807 := by
    obtain ⟨a, c, e, ⟨m, _⟩, _⟩ := h
    rw [List.length_map] at m
    exact m
  have HT := Lib.hid hT
  have HE := Lib.hid hE
  have HB0 : Hid (Below w.heap.size w w) := Lib.hid (Below.refl _ _)
  have HRf0 := Lib.hid (h)
  clear h hT hE
  by_cases hbig : (65536 : Int) < (L.length : Int)
  · go_enter Tryd.func3, Tryd.ntmps3
    go_wp2_with fail
    refine (vBig_any ad L.length cp _ true (decide_eq_true hbig)).mono ?_
    rintro e w' ⟨rfl, hw⟩
    subst w'
    go_wp2_with fail
    go_ret
    exact ⟨rfl, Below.refl _ _⟩
  · obtain ⟨r1, hr1, hA1⟩ := vAt_some L 9 (by omega) (by omega)
    obtain ⟨r2, hr2, hA2⟩ := vAt_some L 10 (by omega) (by omega)
    have HA1 := Lib.hid hA1
    have HA2 := Lib.hid hA2
    clear hA1 hA2
    go_enter Tryd.func3, Tryd.ntmps3
    go_wp2_with fail
    refine (vBig_any ad L.length cp _ false (decide_eq_false (by omega))).mono ?_
    rintro e w' ⟨rfl, hw⟩
    subst w'
    go_wp2_with fail
    refine (drawFormat_any _ L _ HRf0.out).mono ?_
    rintro e w1 ⟨⟨z, rfl⟩, hb⟩
    have HB1 : Hid (Below w.heap.size w w1) := Lib.hid (HB0.out.trans (hb.mono HB0.out.size))
    have HZ1 : Hid (w.heap.size ≤ w1.heap.size) := Lib.hid hb.size
    have HRf1 := Lib.hid (HRf0.out.below HB1.out (Nat.le_refl _))
    clear hb
    obtain ⟨s, b1, hS1, hI1, hb1, hs1⟩ := fmt_same z
    have HS1 := Lib.hid hS1
    have HI1 := Lib.hid hI1
    have HB1T := Lib.hid hb1
    obtain ⟨v4, b4, hS4, hI4, h4⟩ := parse_same s hs1
    have HI4 := Lib.hid hI4
    have H4 := Lib.hid h4
    clear hS1 hI1 hb1 hS4 hI4 h4 hs1
    go_wp2_with fail
    refine (HI1.out _ (tab_below HT.out HB1.out)).mono ?_
    rintro e w2 ⟨rfl, hb⟩
    have HB2 : Hid (Below w.heap.size w w2) := Lib.hid (HB1.out.trans (hb.mono HB1.out.size))
    have HZ2 : Hid (w1.heap.size ≤ w2.heap.size) := Lib.hid hb.size
    have HRf2 := Lib.hid (HRf0.out.below HB2.out (Nat.le_refl _))
    clear hb
    go_wp2_with fail
    refine (HS1.out _).mono ?_
    rintro e w3 ⟨rfl, hb⟩
    have HB3 : Hid (Below w.heap.size w w3) := Lib.hid (HB2.out.trans (hb.mono HB2.out.size))
    have HZ3 : Hid (w2.heap.size ≤ w3.heap.size) := Lib.hid hb.size
    have HRf3 := Lib.hid (HRf0.out.below HB3.out (Nat.le_refl _))
    clear hb
    go_wp2_with fail
    refine (drawParse_any _ L _ HRf3.out).mono ?_
    rintro e w4 ⟨⟨t, rfl, ht⟩, hb⟩
    have HB4 : Hid (Below w.heap.size w w4) := Lib.hid (HB3.out.trans (hb.mono HB3.out.size))
    have HZ4 : Hid (w3.heap.size ≤ w4.heap.size) := Lib.hid hb.size
    have HRf4 := Lib.hid (HRf0.out.below HB4.out (Nat.le_refl _))
    clear hb
    obtain ⟨v2, b2, hS2, hI2, h2⟩ := parse_same t ht
    have HS2 := Lib.hid hS2
    have HI2 := Lib.hid hI2
    clear hS2 hI2 h2 ht
    go_wp2_with fail
    refine (HI2.out _ (sents_below HE.out HB4.out) (tab_below HT.out HB4.out)).mono ?_
    rintro e w5 ⟨rfl, hb⟩
    have HB5 : Hid (Below w.heap.size w w5) := Lib.hid (HB4.out.trans (hb.mono HB4.out.size))
    have HZ5 : Hid (w4.heap.size ≤ w5.heap.size) := Lib.hid hb.size
    have HRf5 := Lib.hid (HRf0.out.below HB5.out (Nat.le_refl _))
    clear hb
    go_wp2_with fail
    refine (HS2.out _).mono ?_
    rintro e w6 ⟨rfl, hb⟩
    have HB6 : Hid (Below w.heap.size w w6) := Lib.hid (HB5.out.trans (hb.mono HB5.out.size))
    have HZ6 : Hid (w5.heap.size ≤ w6.heap.size) := Lib.hid hb.size
    have HRf6 := Lib.hid (HRf0.out.below HB6.out (Nat.le_refl _))
    clear hb
    go_wp2_with fail
    refine (drawAppend_any _ L _ HRf6.out).mono ?_
    rintro e w7 ⟨⟨x, rfl, hx⟩, hb⟩
    have HB7 : Hid (Below w.heap.size w w7) := Lib.hid (HB6.out.trans (hb.mono HB6.out.size))
    have HZ7 : Hid (w6.heap.size ≤ w7.heap.size) := Lib.hid hb.size
    have HRf7 := Lib.hid (HRf0.out.below HB7.out (Nat.le_refl _))
    clear hb
    obtain ⟨y, b3, hS3, hI3, hno, hyes⟩ := append_same x hx
    have HS3 := Lib.hid hS3
    have HI3 := Lib.hid hI3
    have HNO := Lib.hid hno
    have HYES := Lib.hid hyes
    clear hS3 hI3 hno hyes hx
    go_wp2_with fail
    refine (HI3.out _ (tab_below HT.out HB7.out)).mono ?_
    rintro e w8 ⟨rfl, hb⟩
    have HB8 : Hid (Below w.heap.size w w8) := Lib.hid (HB7.out.trans (hb.mono HB7.out.size))
    have HZ8 : Hid (w7.heap.size ≤ w8.heap.size) := Lib.hid hb.size
    have HRf8 := Lib.hid (HRf0.out.below HB8.out (Nat.le_refl _))
    clear hb
    go_wp2_with fail
    refine (HS3.out _).mono ?_
    rintro e w9 ⟨rfl, hb⟩
    have HB9 : Hid (Below w.heap.size w w9) := Lib.hid (HB8.out.trans (hb.mono HB8.out.size))
    have HZ9 : Hid (w8.heap.size ≤ w9.heap.size) := Lib.hid hb.size
    have HRf9 := Lib.hid (HRf0.out.below HB9.out (Nat.le_refl _))
    clear hb
    have hss : (!s.toList == s.toList) = false := by simp
    have hyy : (!y.toList == y.toList) = false := by simp
    have hb1b : (b1 != b1) = false := by simp
    have hb2b : (b2 != b2) = false := by simp
    have hb3b : (b3 != b3) = false := by simp
    have hv2v : (v2 != v2) = false := by simp
    cases b1 with
    | true =>
      obtain ⟨z0, z1, hzi⟩ := HB1T.out rfl
      obtain ⟨rfl, rfl⟩ := H4.out z z0 z1 hzi
      have hvv : (v4 != v4) = false := by simp
      go_wp2_with fail
      refine (HI4.out _ (sents_below HE.out HB9.out) (tab_below HT.out HB9.out)).mono ?_
      rintro e w10 ⟨rfl, hb⟩
      have HB10 : Hid (Below w.heap.size w w10) := Lib.hid (HB9.out.trans (hb.mono HB9.out.size))
      have HZ10 : Hid (w9.heap.size ≤ w10.heap.size) := Lib.hid hb.size
      have HRf10 := Lib.hid (HRf0.out.below HB10.out (Nat.le_refl _))
      clear hb
      cases b3 with
      | false =>
        have hye := HNO.out rfl
        subst hye
        go_wp2_with fail
        go_ret
        exact ⟨rfl, HB10.out⟩
      | true =>
        obtain ⟨hys, hx35, hx4, hy4⟩ := HYES.out rfl
        have hyl : y.data.toList.length = y.size := by simp
        have hy0 : 0 < y.size := by rw [hys, sealF_size]; omega
        have hy5 : y.size ≤ 4000 := by rw [hys]; exact hy4
        have HHY := Lib.hid (show headB y 35 = x by rw [hys]; exact head_seal x hx35)
        have HSY := Lib.hid (show sealF (headB y 35) = y by rw [hys, head_seal x hx35])
        have HYS := Lib.hid hys
        have HX35 := Lib.hid hx35
        have HX4 := Lib.hid hx4
        have HY4 := Lib.hid hy4
        have HYL := Lib.hid hyl
        clear hys hx35 hx4 hy4 hyl
        have HV := Lib.hid (fun w' ht => implVerify_yes y w' (by unfold maxLen; omega) (by rw [HHY.out]; exact HX4.out) (by rw [HSY.out]; exact hy5) HSY.out ht)
        rw [HHY.out] at HV
        have hxx : (x.toList == x.toList) = true := by simp
        have hxx2 : (!x.toList == x.toList) = false := by simp
        go_wp2_with fail
        refine (HV.out _ (tab_below HT.out HB10.out)).mono ?_
        rintro e w11 ⟨rfl, hb⟩
        have HB11 : Hid (Below w.heap.size w w11) := Lib.hid (HB10.out.trans (hb.mono HB10.out.size))
        have HZ11 : Hid (w10.heap.size ≤ w11.heap.size) := Lib.hid hb.size
        have HRf11 := Lib.hid (HRf0.out.below HB11.out (Nat.le_refl _))
        clear hb
        obtain ⟨cp, W, C, n, hcv, hbl, hh, hn, hcs⟩ := bytes_of y w11
        obtain ⟨BB, hBB⟩ : ∃ BB, w11.heap.size = BB := ⟨_, rfl⟩
        have HBW : Hid (Below w.heap.size w W) := Lib.hid (HB11.out.trans (hbl.mono HB11.out.size))
        have HRW := Lib.hid (HRf0.out.below HBW.out (Nat.le_refl _))
        rw [hBB] at hcv hh
        have HH := Lib.hid hh
        have HCS := Lib.hid hcs
        have HLB : Hid (w.heap.size ≤ BB) := Lib.hid (by rw [← hBB]; exact HB11.out.size)
        have HLW : Hid (BB < W.heap.size) := Lib.hid (lt_of_block hh)
        clear hBB hbl hh hcs
        obtain ⟨k, hk⟩ : ∃ k, r1 % y.size = k := ⟨_, rfl⟩
        have hkl : k < y.size := by rw [← hk]; exact Nat.mod_lt _ hy0
        have hkt : (r1 : Int).tmod (y.size : Int) = (k : Int) := by rw [Int.tmod_eq_emod_of_nonneg (by omega), ← hk]; simp
        clear hk
        have hkL : k < y.data.toList.length := by rw [HYL.out]; exact hkl
        obtain ⟨q, hq⟩ : ∃ q, 1 + r2 % 255 = q := ⟨_, rfl⟩
        have q0 : 0 < q ∧ q ≤ 255 := by omega
        have hq1 : (r2 : Int).tmod 255 = ((r2 % 255 : Nat) : Int) := by rw [Int.tmod_eq_emod_of_nonneg (by omega)]; simp
        have hq2 : IntKind.i64.wrap (1 + ((r2 % 255 : Nat) : Int)) = (q : Int) := by rw [IntKind.wrap_i64]; omega
        have hq3 : IntKind.u8.wrap (q : Int) = (q : Int) := by simp [IntKind.wrap, IntKind.bits, IntKind.signed]; omega
        generalize r2 % 255 = mm at hq hq1 hq2
        clear hq
        obtain ⟨c, hcne, hxor⟩ := xor_new y.data.toList[k] q q0.1 q0.2
        have HCE : Hid (W.heap[BB]? = some (.cells C 5 (n, n + 1)) → W.cell? ⟨BB, k, none⟩ = some (.int .u8 (y.data.toList[k].toNat : Int)) ∧ W.frozen? ⟨BB, k, none⟩ = false) := Lib.hid (fun hw => ⟨by simp [World.cell?, hw, HCS.out k hkL], by simp [World.frozen?, hw]; omega⟩)
        obtain ⟨hcell, hfroz⟩ := HCE.out HH.out
        have hbk := y.data.toList[k].toNat_lt
        have HNE := Lib.hid hcne
        have hset := bytes_set W.drew BB n k C y.data.toList c y.size cp HYL.out.symm HH.out HCS.out hkL
        obtain ⟨z, hz⟩ : ∃ z : ByteArray, (⟨(y.data.toList.set k c).toArray⟩ : ByteArray) = z := ⟨_, rfl⟩
        rw [hz] at hset
        have HZ : Hid (z.size ≤ 4000) := Lib.hid (by rw [← hz]; show (List.toArray _).size ≤ 4000; rw [List.size_toArray, List.length_set, HYL.out]; omega)
        have HBAD := Lib.hid (fun w' ht => implVerify_fail z w' (by have := HZ.out; unfold maxLen; omega) (changed_not x z k c HX35.out (by rw [← HYS.out]; exact hkL) (by simp only [← HYS.out]; exact HNE.out) (by rw [← HYS.out, ← hz])) ht)
        clear hz hcne HHY HSY HV
        generalize y.data.toList[k].toNat = vb at hxor hcell hbk
        generalize c.toNat = vc at hxor hset
        generalize y.size = N at *
        go_wp2_with fail
        refine (HA1.out _ _ _ HRW.out).mono ?_
        rintro e w' ⟨rfl, hw⟩
        subst w'
        go_wp2_with fail
        have ew : (W.setCell ⟨BB, k, none⟩ (.int .u8 (vc : Int))).drew = W.drew.setCell ⟨BB, k, none⟩ (.int .u8 (vc : Int)) := rfl
        have hbs : Below w.heap.size w (W.drew.setCell ⟨BB, k, none⟩ (.int .u8 (vc : Int))) := (HBW.out.drew).setCell (p := ⟨BB, k, none⟩) HLB.out _
        generalize W.drew.setCell ⟨BB, k, none⟩ (.int .u8 (vc : Int)) = WS at ew hset hbs
        have HBS := Lib.hid hbs
        have EW := Lib.hid ew
        clear hbs ew
        refine wp_region_held_drew (S := (fun u => True)) (by kernel_rfl) (trivial) (fun hHeld => ?_)
        refine take1 (i := 0) (v := ?v1) (some 123) rfl rfl (by kernel_rfl) (by kernel_rfl) (by kernel_rfl) (fun _ _ _ h => h) (Or.inl ⟨by rfl, ?y1⟩) (by assumption) ?r1
        case y1 => (intro w hSw; (try dsimp only at hSw); go_simp; (first | done | with_reducible rfl))
        try simp only [Act.put, List.setIfInBounds_toArray, List.set_cons_zero, List.set_cons_succ]
        refine take1 (i := 1) (v := ?v2) (some 124) rfl rfl (by kernel_rfl) (by kernel_rfl) (by kernel_rfl) (fun _ _ _ h => h) (Or.inl ⟨by rfl, ?y2⟩) (by assumption) ?r2
        case y2 => (intro w hSw; (try dsimp only at hSw); go_simp; (first | done | with_reducible rfl))
        try simp only [Act.put, List.setIfInBounds_toArray, List.set_cons_zero, List.set_cons_succ]
        refine take1 (i := 2) (v := ?v3) (some 125) rfl rfl (by kernel_rfl) (by kernel_rfl) (by kernel_rfl) (fun _ _ _ h => h) (Or.inl ⟨by rfl, ?y3⟩) (by assumption) ?r3
        case y3 => (intro w hSw; (try dsimp only at hSw); go_simp; (first | done | with_reducible rfl))
        try simp only [Act.put, List.setIfInBounds_toArray, List.set_cons_zero, List.set_cons_succ]
        refine take1 (i := 3) (v := ?v4) (some 126) rfl rfl (by kernel_rfl) (by kernel_rfl) (by kernel_rfl) (fun _ _ _ h => h) (Or.inl ⟨by rfl, ?y4⟩) (by assumption) ?r4
        case y4 => (intro w hSw; (try dsimp only at hSw); go_simp; (first | done | with_reducible rfl))
        try simp only [Act.put, List.setIfInBounds_toArray, List.set_cons_zero, List.set_cons_succ]
        refine take1 (i := 4) (v := ?v5) (some 127) rfl rfl (by kernel_rfl) (by kernel_rfl) (by kernel_rfl) (fun _ _ _ h => h) (Or.inl ⟨by rfl, ?y5⟩) (by assumption) ?r5
        case y5 => (intro w hSw; (try dsimp only at hSw); go_simp; (first | done | with_reducible rfl))
        try simp only [Act.put, List.setIfInBounds_toArray, List.set_cons_zero, List.set_cons_succ]
        refine take1 (i := 6) (v := ?v6) (some 129) rfl rfl (by kernel_rfl) (by kernel_rfl) (by kernel_rfl) (fun _ _ _ h => h) (Or.inl ⟨by rfl, ?y6⟩) (by assumption) ?r6
        case y6 => (intro w hSw; (try dsimp only at hSw); go_simp; (first | done | with_reducible rfl))
        try simp only [Act.put, List.setIfInBounds_toArray, List.set_cons_zero, List.set_cons_succ]
        refine wpAnyH_ready (rs := [5, 7]) (by kernel_rfl) (by simp) ?_
        refine AllReadyH.cons rfl (fun K hK => ?_) (AllReadyH.cons rfl (fun K hK => ?_) AllReadyH.nil)
        · go_simp
          refine hK.out _ _ (trivial) (fun hHeld => ?_)
          clear hK K
          try simp only [Act.put, List.setIfInBounds_toArray, List.set_cons_zero, List.set_cons_succ]
          refine wpAnyH_ready (rs := [7]) (by kernel_rfl) (by simp) ?_
          refine AllReadyH.cons rfl (fun K hK => ?_) AllReadyH.nil
          go_simp
          go_at_call 15
          refine (HA2.out _ _ _ (HRW.out.below (Below.refl _ _).drew (Nat.le_refl _))).mono ?_
          rintro e w' ⟨rfl, hw⟩
          subst w'
          refine hK.out _ _ (trivial) (fun hHeld => ?_)
          clear hK K
          try simp only [Act.put, List.setIfInBounds_toArray, List.set_cons_zero, List.set_cons_succ]
          refine take1 (i := 8) (v := ?v7) (some 131) rfl rfl (by kernel_rfl) (by kernel_rfl) (by kernel_rfl) (fun _ _ _ h => h) (Or.inl ⟨by rfl, ?y7⟩) (by assumption) ?r7
          case y7 => (intro w hSw; (try dsimp only at hSw); go_simp; (first | done | with_reducible rfl))
          try simp only [Act.put, List.setIfInBounds_toArray, List.set_cons_zero, List.set_cons_succ]
          refine take1 (i := 9) (v := ?v8) (some 132) rfl rfl (by kernel_rfl) (by kernel_rfl) (by kernel_rfl) (fun _ _ _ h => h) (Or.inl ⟨by rfl, ?y8⟩) (by assumption) ?r8
          case y8 => (intro w hSw; (try dsimp only at hSw); go_simp; (first | done | with_reducible rfl))
          try simp only [Act.put, List.setIfInBounds_toArray, List.set_cons_zero, List.set_cons_succ]
          refine take1 (i := 10) (v := ?v9) (some 133) rfl rfl (by kernel_rfl) (by kernel_rfl) (by kernel_rfl) (fun _ _ _ h => h) (Or.inl ⟨by rfl, ?y9⟩) (by assumption) ?r9
          case y9 => (intro w hSw; (try dsimp only at hSw); go_simp; (first | done | with_reducible rfl))
          try simp only [Act.put, List.setIfInBounds_toArray, List.set_cons_zero, List.set_cons_succ]
          refine take1 (i := 11) (v := ?v10) (some 134) rfl rfl (by kernel_rfl) (by kernel_rfl) (by kernel_rfl) (fun _ _ _ h => h) (Or.inl ⟨by rfl, ?y10⟩) (by assumption) ?r10
          case y10 => (intro w hSw; (try dsimp only at hSw); go_simp; (first | done | with_reducible rfl))
          try simp only [Act.put, List.setIfInBounds_toArray, List.set_cons_zero, List.set_cons_succ]
          refine take1 (i := 12) (v := ?v11) (some 135) rfl rfl (by kernel_rfl) (by kernel_rfl) (by kernel_rfl) (fun _ _ _ h => h) (Or.inl ⟨by rfl, ?y11⟩) (by assumption) ?r11
          case y11 => (intro w hSw; (try dsimp only at hSw); go_simp; (first | done | with_reducible rfl))
          try simp only [Act.put, List.setIfInBounds_toArray, List.set_cons_zero, List.set_cons_succ]
          refine wpAnyH_ready (rs := [13]) (by kernel_rfl) (by simp) ?_
          refine AllReadyH.cons rfl (fun K hK => ?_) AllReadyH.nil
          go_simp
          rw [EW.out]
          refine hK.out _ _ (trivial) (fun hHeld => ?_)
          clear hK K
          try simp only [Act.put]
          refine wpAnyH_done (by kernel_rfl) ?_ _
          go_wp2_with fail
          refine (HBAD.out _ (tab_below HT.out HBS.out)).mono ?_
          rintro e w' ⟨rfl, hb⟩
          go_wp2_with fail
          go_ret
          exact ⟨rfl, HBS.out.trans (hb.mono HBS.out.size)⟩
        · go_simp
          go_at_call 15
          refine (HA2.out _ _ _ (HRW.out.below (Below.refl _ _).drew (Nat.le_refl _))).mono ?_
          rintro e w' ⟨rfl, hw⟩
          subst w'
          refine hK.out _ _ (trivial) (fun hHeld => ?_)
          clear hK K
          try simp only [Act.put, List.setIfInBounds_toArray, List.set_cons_zero, List.set_cons_succ]
          refine take1 (i := 8) (v := ?v12) (some 131) rfl rfl (by kernel_rfl) (by kernel_rfl) (by kernel_rfl) (fun _ _ _ h => h) (Or.inl ⟨by rfl, ?y12⟩) (by assumption) ?r12
          case y12 => (intro w hSw; (try dsimp only at hSw); go_simp; (first | done | with_reducible rfl))
          try simp only [Act.put, List.setIfInBounds_toArray, List.set_cons_zero, List.set_cons_succ]
          refine take1 (i := 9) (v := ?v13) (some 132) rfl rfl (by kernel_rfl) (by kernel_rfl) (by kernel_rfl) (fun _ _ _ h => h) (Or.inl ⟨by rfl, ?y13⟩) (by assumption) ?r13
          case y13 => (intro w hSw; (try dsimp only at hSw); go_simp; (first | done | with_reducible rfl))
          try simp only [Act.put, List.setIfInBounds_toArray, List.set_cons_zero, List.set_cons_succ]
          refine take1 (i := 10) (v := ?v14) (some 133) rfl rfl (by kernel_rfl) (by kernel_rfl) (by kernel_rfl) (fun _ _ _ h => h) (Or.inl ⟨by rfl, ?y14⟩) (by assumption) ?r14
          case y14 => (intro w hSw; (try dsimp only at hSw); go_simp; (first | done | with_reducible rfl))
          try simp only [Act.put, List.setIfInBounds_toArray, List.set_cons_zero, List.set_cons_succ]
          refine wpAnyH_ready (rs := [5]) (by kernel_rfl) (by simp) ?_
          refine AllReadyH.cons rfl (fun K hK => ?_) AllReadyH.nil
          go_simp
          refine hK.out _ _ (trivial) (fun hHeld => ?_)
          clear hK K
          try simp only [Act.put, List.setIfInBounds_toArray, List.set_cons_zero, List.set_cons_succ]
          refine take1 (i := 11) (v := ?v15) (some 134) rfl rfl (by kernel_rfl) (by kernel_rfl) (by kernel_rfl) (fun _ _ _ h => h) (Or.inl ⟨by rfl, ?y15⟩) (by assumption) ?r15
          case y15 => (intro w hSw; (try dsimp only at hSw); go_simp; (first | done | with_reducible rfl))
          try simp only [Act.put, List.setIfInBounds_toArray, List.set_cons_zero, List.set_cons_succ]
          refine take1 (i := 12) (v := ?v16) (some 135) rfl rfl (by kernel_rfl) (by kernel_rfl) (by kernel_rfl) (fun _ _ _ h => h) (Or.inl ⟨by rfl, ?y16⟩) (by assumption) ?r16
          case y16 => (intro w hSw; (try dsimp only at hSw); go_simp; (first | done | with_reducible rfl))
          try simp only [Act.put, List.setIfInBounds_toArray, List.set_cons_zero, List.set_cons_succ]
          refine wpAnyH_ready (rs := [13]) (by kernel_rfl) (by simp) ?_
          refine AllReadyH.cons rfl (fun K hK => ?_) AllReadyH.nil
          go_simp
          rw [EW.out]
          refine hK.out _ _ (trivial) (fun hHeld => ?_)
          clear hK K
          try simp only [Act.put]
          refine wpAnyH_done (by kernel_rfl) ?_ _
          go_wp2_with fail
          refine (HBAD.out _ (tab_below HT.out HBS.out)).mono ?_
          rintro e w' ⟨rfl, hb⟩
          go_wp2_with fail
          go_ret
          exact ⟨rfl, HBS.out.trans (hb.mono HBS.out.size)⟩
    | false =>
      go_wp2_with fail
      refine (HI4.out _ (sents_below HE.out HB9.out) (tab_below HT.out HB9.out)).mono ?_
      rintro e w10 ⟨rfl, hb⟩
      have HB10 : Hid (Below w.heap.size w w10) := Lib.hid (HB9.out.trans (hb.mono HB9.out.size))
      have HZ10 : Hid (w9.heap.size ≤ w10.heap.size) := Lib.hid hb.size
      have HRf10 := Lib.hid (HRf0.out.below HB10.out (Nat.le_refl _))
      clear hb
      cases b3 with
      | false =>
        have hye := HNO.out rfl
        subst hye
        go_wp2_with fail
        go_ret
        exact ⟨rfl, HB10.out⟩
      | true =>
        obtain ⟨hys, hx35, hx4, hy4⟩ := HYES.out rfl
        have hyl : y.data.toList.length = y.size := by simp
        have hy0 : 0 < y.size := by rw [hys, sealF_size]; omega
        have hy5 : y.size ≤ 4000 := by rw [hys]; exact hy4
        have HHY := Lib.hid (show headB y 35 = x by rw [hys]; exact head_seal x hx35)
        have HSY := Lib.hid (show sealF (headB y 35) = y by rw [hys, head_seal x hx35])
        have HYS := Lib.hid hys
        have HX35 := Lib.hid hx35
        have HX4 := Lib.hid hx4
        have HY4 := Lib.hid hy4
        have HYL := Lib.hid hyl
        clear hys hx35 hx4 hy4 hyl
        have HV := Lib.hid (fun w' ht => implVerify_yes y w' (by unfold maxLen; omega) (by rw [HHY.out]; exact HX4.out) (by rw [HSY.out]; exact hy5) HSY.out ht)
        rw [HHY.out] at HV
        have hxx : (x.toList == x.toList) = true := by simp
        have hxx2 : (!x.toList == x.toList) = false := by simp
        go_wp2_with fail
        refine (HV.out _ (tab_below HT.out HB10.out)).mono ?_
        rintro e w11 ⟨rfl, hb⟩
        have HB11 : Hid (Below w.heap.size w w11) := Lib.hid (HB10.out.trans (hb.mono HB10.out.size))
        have HZ11 : Hid (w10.heap.size ≤ w11.heap.size) := Lib.hid hb.size
        have HRf11 := Lib.hid (HRf0.out.below HB11.out (Nat.le_refl _))
        clear hb
        obtain ⟨cp, W, C, n, hcv, hbl, hh, hn, hcs⟩ := bytes_of y w11
        obtain ⟨BB, hBB⟩ : ∃ BB, w11.heap.size = BB := ⟨_, rfl⟩
        have HBW : Hid (Below w.heap.size w W) := Lib.hid (HB11.out.trans (hbl.mono HB11.out.size))
        have HRW := Lib.hid (HRf0.out.below HBW.out (Nat.le_refl _))
        rw [hBB] at hcv hh
        have HH := Lib.hid hh
        have HCS := Lib.hid hcs
        have HLB : Hid (w.heap.size ≤ BB) := Lib.hid (by rw [← hBB]; exact HB11.out.size)
        have HLW : Hid (BB < W.heap.size) := Lib.hid (lt_of_block hh)
        clear hBB hbl hh hcs
        obtain ⟨k, hk⟩ : ∃ k, r1 % y.size = k := ⟨_, rfl⟩
        have hkl : k < y.size := by rw [← hk]; exact Nat.mod_lt _ hy0
        have hkt : (r1 : Int).tmod (y.size : Int) = (k : Int) := by rw [Int.tmod_eq_emod_of_nonneg (by omega), ← hk]; simp
        clear hk
        have hkL : k < y.data.toList.length := by rw [HYL.out]; exact hkl
        obtain ⟨q, hq⟩ : ∃ q, 1 + r2 % 255 = q := ⟨_, rfl⟩
        have q0 : 0 < q ∧ q ≤ 255 := by omega
        have hq1 : (r2 : Int).tmod 255 = ((r2 % 255 : Nat) : Int) := by rw [Int.tmod_eq_emod_of_nonneg (by omega)]; simp
        have hq2 : IntKind.i64.wrap (1 + ((r2 % 255 : Nat) : Int)) = (q : Int) := by rw [IntKind.wrap_i64]; omega
        have hq3 : IntKind.u8.wrap (q : Int) = (q : Int) := by simp [IntKind.wrap, IntKind.bits, IntKind.signed]; omega
        generalize r2 % 255 = mm at hq hq1 hq2
        clear hq
        obtain ⟨c, hcne, hxor⟩ := xor_new y.data.toList[k] q q0.1 q0.2
        have HCE : Hid (W.heap[BB]? = some (.cells C 5 (n, n + 1)) → W.cell? ⟨BB, k, none⟩ = some (.int .u8 (y.data.toList[k].toNat : Int)) ∧ W.frozen? ⟨BB, k, none⟩ = false) := Lib.hid (fun hw => ⟨by simp [World.cell?, hw, HCS.out k hkL], by simp [World.frozen?, hw]; omega⟩)
        obtain ⟨hcell, hfroz⟩ := HCE.out HH.out
        have hbk := y.data.toList[k].toNat_lt
        have HNE := Lib.hid hcne
        have hset := bytes_set W.drew BB n k C y.data.toList c y.size cp HYL.out.symm HH.out HCS.out hkL
        obtain ⟨z, hz⟩ : ∃ z : ByteArray, (⟨(y.data.toList.set k c).toArray⟩ : ByteArray) = z := ⟨_, rfl⟩
        rw [hz] at hset
        have HZ : Hid (z.size ≤ 4000) := Lib.hid (by rw [← hz]; show (List.toArray _).size ≤ 4000; rw [List.size_toArray, List.length_set, HYL.out]; omega)
        have HBAD := Lib.hid (fun w' ht => implVerify_fail z w' (by have := HZ.out; unfold maxLen; omega) (changed_not x z k c HX35.out (by rw [← HYS.out]; exact hkL) (by simp only [← HYS.out]; exact HNE.out) (by rw [← HYS.out, ← hz])) ht)
        clear hz hcne HHY HSY HV
        generalize y.data.toList[k].toNat = vb at hxor hcell hbk
        generalize c.toNat = vc at hxor hset
        generalize y.size = N at *
        go_wp2_with fail
        refine (HA1.out _ _ _ HRW.out).mono ?_
        rintro e w' ⟨rfl, hw⟩
        subst w'
        go_wp2_with fail
        have ew : (W.setCell ⟨BB, k, none⟩ (.int .u8 (vc : Int))).drew = W.drew.setCell ⟨BB, k, none⟩ (.int .u8 (vc : Int)) := rfl
        have hbs : Below w.heap.size w (W.drew.setCell ⟨BB, k, none⟩ (.int .u8 (vc : Int))) := (HBW.out.drew).setCell (p := ⟨BB, k, none⟩) HLB.out _
        generalize W.drew.setCell ⟨BB, k, none⟩ (.int .u8 (vc : Int)) = WS at ew hset hbs
        have HBS := Lib.hid hbs
        have EW := Lib.hid ew
        clear hbs ew
        refine wp_region_held_drew (S := (fun u => True)) (by kernel_rfl) (trivial) (fun hHeld => ?_)
        refine take1 (i := 0) (v := ?v17) (some 123) rfl rfl (by kernel_rfl) (by kernel_rfl) (by kernel_rfl) (fun _ _ _ h => h) (Or.inl ⟨by rfl, ?y17⟩) (by assumption) ?r17
        case y17 => (intro w hSw; (try dsimp only at hSw); go_simp; (first | done | with_reducible rfl))
        try simp only [Act.put, List.setIfInBounds_toArray, List.set_cons_zero, List.set_cons_succ]
        refine take1 (i := 1) (v := ?v18) (some 124) rfl rfl (by kernel_rfl) (by kernel_rfl) (by kernel_rfl) (fun _ _ _ h => h) (Or.inl ⟨by rfl, ?y18⟩) (by assumption) ?r18
        case y18 => (intro w hSw; (try dsimp only at hSw); go_simp; (first | done | with_reducible rfl))
        try simp only [Act.put, List.setIfInBounds_toArray, List.set_cons_zero, List.set_cons_succ]
        refine take1 (i := 2) (v := ?v19) (some 125) rfl rfl (by kernel_rfl) (by kernel_rfl) (by kernel_rfl) (fun _ _ _ h => h) (Or.inl ⟨by rfl, ?y19⟩) (by assumption) ?r19
        case y19 => (intro w hSw; (try dsimp only at hSw); go_simp; (first | done | with_reducible rfl))
        try simp only [Act.put, List.setIfInBounds_toArray, List.set_cons_zero, List.set_cons_succ]
        refine take1 (i := 3) (v := ?v20) (some 126) rfl rfl (by kernel_rfl) (by kernel_rfl) (by kernel_rfl) (fun _ _ _ h => h) (Or.inl ⟨by rfl, ?y20⟩) (by assumption) ?r20
        case y20 => (intro w hSw; (try dsimp only at hSw); go_simp; (first | done | with_reducible rfl))
        try simp only [Act.put, List.setIfInBounds_toArray, List.set_cons_zero, List.set_cons_succ]
        refine take1 (i := 4) (v := ?v21) (some 127) rfl rfl (by kernel_rfl) (by kernel_rfl) (by kernel_rfl) (fun _ _ _ h => h) (Or.inl ⟨by rfl, ?y21⟩) (by assumption) ?r21
        case y21 => (intro w hSw; (try dsimp only at hSw); go_simp; (first | done | with_reducible rfl))
        try simp only [Act.put, List.setIfInBounds_toArray, List.set_cons_zero, List.set_cons_succ]
        refine take1 (i := 6) (v := ?v22) (some 129) rfl rfl (by kernel_rfl) (by kernel_rfl) (by kernel_rfl) (fun _ _ _ h => h) (Or.inl ⟨by rfl, ?y22⟩) (by assumption) ?r22
        case y22 => (intro w hSw; (try dsimp only at hSw); go_simp; (first | done | with_reducible rfl))
        try simp only [Act.put, List.setIfInBounds_toArray, List.set_cons_zero, List.set_cons_succ]
        refine wpAnyH_ready (rs := [5, 7]) (by kernel_rfl) (by simp) ?_
        refine AllReadyH.cons rfl (fun K hK => ?_) (AllReadyH.cons rfl (fun K hK => ?_) AllReadyH.nil)
        · go_simp
          refine hK.out _ _ (trivial) (fun hHeld => ?_)
          clear hK K
          try simp only [Act.put, List.setIfInBounds_toArray, List.set_cons_zero, List.set_cons_succ]
          refine wpAnyH_ready (rs := [7]) (by kernel_rfl) (by simp) ?_
          refine AllReadyH.cons rfl (fun K hK => ?_) AllReadyH.nil
          go_simp
          go_at_call 15
          refine (HA2.out _ _ _ (HRW.out.below (Below.refl _ _).drew (Nat.le_refl _))).mono ?_
          rintro e w' ⟨rfl, hw⟩
          subst w'
          refine hK.out _ _ (trivial) (fun hHeld => ?_)
          clear hK K
          try simp only [Act.put, List.setIfInBounds_toArray, List.set_cons_zero, List.set_cons_succ]
          refine take1 (i := 8) (v := ?v23) (some 131) rfl rfl (by kernel_rfl) (by kernel_rfl) (by kernel_rfl) (fun _ _ _ h => h) (Or.inl ⟨by rfl, ?y23⟩) (by assumption) ?r23
          case y23 => (intro w hSw; (try dsimp only at hSw); go_simp; (first | done | with_reducible rfl))
          try simp only [Act.put, List.setIfInBounds_toArray, List.set_cons_zero, List.set_cons_succ]
          refine take1 (i := 9) (v := ?v24) (some 132) rfl rfl (by kernel_rfl) (by kernel_rfl) (by kernel_rfl) (fun _ _ _ h => h) (Or.inl ⟨by rfl, ?y24⟩) (by assumption) ?r24
          case y24 => (intro w hSw; (try dsimp only at hSw); go_simp; (first | done | with_reducible rfl))
          try simp only [Act.put, List.setIfInBounds_toArray, List.set_cons_zero, List.set_cons_succ]
          refine take1 (i := 10) (v := ?v25) (some 133) rfl rfl (by kernel_rfl) (by kernel_rfl) (by kernel_rfl) (fun _ _ _ h => h) (Or.inl ⟨by rfl, ?y25⟩) (by assumption) ?r25
          case y25 => (intro w hSw; (try dsimp only at hSw); go_simp; (first | done | with_reducible rfl))
          try simp only [Act.put, List.setIfInBounds_toArray, List.set_cons_zero, List.set_cons_succ]
          refine take1 (i := 11) (v := ?v26) (some 134) rfl rfl (by kernel_rfl) (by kernel_rfl) (by kernel_rfl) (fun _ _ _ h => h) (Or.inl ⟨by rfl, ?y26⟩) (by assumption) ?r26
          case y26 => (intro w hSw; (try dsimp only at hSw); go_simp; (first | done | with_reducible rfl))
          try simp only [Act.put, List.setIfInBounds_toArray, List.set_cons_zero, List.set_cons_succ]
          refine take1 (i := 12) (v := ?v27) (some 135) rfl rfl (by kernel_rfl) (by kernel_rfl) (by kernel_rfl) (fun _ _ _ h => h) (Or.inl ⟨by rfl, ?y27⟩) (by assumption) ?r27
          case y27 => (intro w hSw; (try dsimp only at hSw); go_simp; (first | done | with_reducible rfl))
          try simp only [Act.put, List.setIfInBounds_toArray, List.set_cons_zero, List.set_cons_succ]
          refine wpAnyH_ready (rs := [13]) (by kernel_rfl) (by simp) ?_
          refine AllReadyH.cons rfl (fun K hK => ?_) AllReadyH.nil
          go_simp
          rw [EW.out]
          refine hK.out _ _ (trivial) (fun hHeld => ?_)
          clear hK K
          try simp only [Act.put]
          refine wpAnyH_done (by kernel_rfl) ?_ _
          go_wp2_with fail
          refine (HBAD.out _ (tab_below HT.out HBS.out)).mono ?_
          rintro e w' ⟨rfl, hb⟩
          go_wp2_with fail
          go_ret
          exact ⟨rfl, HBS.out.trans (hb.mono HBS.out.size)⟩
        · go_simp
          go_at_call 15
          refine (HA2.out _ _ _ (HRW.out.below (Below.refl _ _).drew (Nat.le_refl _))).mono ?_
          rintro e w' ⟨rfl, hw⟩
          subst w'
          refine hK.out _ _ (trivial) (fun hHeld => ?_)
          clear hK K
          try simp only [Act.put, List.setIfInBounds_toArray, List.set_cons_zero, List.set_cons_succ]
          refine take1 (i := 8) (v := ?v28) (some 131) rfl rfl (by kernel_rfl) (by kernel_rfl) (by kernel_rfl) (fun _ _ _ h => h) (Or.inl ⟨by rfl, ?y28⟩) (by assumption) ?r28
          case y28 => (intro w hSw; (try dsimp only at hSw); go_simp; (first | done | with_reducible rfl))
          try simp only [Act.put, List.setIfInBounds_toArray, List.set_cons_zero, List.set_cons_succ]
          refine take1 (i := 9) (v := ?v29) (some 132) rfl rfl (by kernel_rfl) (by kernel_rfl) (by kernel_rfl) (fun _ _ _ h => h) (Or.inl ⟨by rfl, ?y29⟩) (by assumption) ?r29
          case y29 => (intro w hSw; (try dsimp only at hSw); go_simp; (first | done | with_reducible rfl))
          try simp only [Act.put, List.setIfInBounds_toArray, List.set_cons_zero, List.set_cons_succ]
          refine take1 (i := 10) (v := ?v30) (some 133) rfl rfl (by kernel_rfl) (by kernel_rfl) (by kernel_rfl) (fun _ _ _ h => h) (Or.inl ⟨by rfl, ?y30⟩) (by assumption) ?r30
          case y30 => (intro w hSw; (try dsimp only at hSw); go_simp; (first | done | with_reducible rfl))
          try simp only [Act.put, List.setIfInBounds_toArray, List.set_cons_zero, List.set_cons_succ]
          refine wpAnyH_ready (rs := [5]) (by kernel_rfl) (by simp) ?_
          refine AllReadyH.cons rfl (fun K hK => ?_) AllReadyH.nil
          go_simp
          refine hK.out _ _ (trivial) (fun hHeld => ?_)
          clear hK K
          try simp only [Act.put, List.setIfInBounds_toArray, List.set_cons_zero, List.set_cons_succ]
          refine take1 (i := 11) (v := ?v31) (some 134) rfl rfl (by kernel_rfl) (by kernel_rfl) (by kernel_rfl) (fun _ _ _ h => h) (Or.inl ⟨by rfl, ?y31⟩) (by assumption) ?r31
          case y31 => (intro w hSw; (try dsimp only at hSw); go_simp; (first | done | with_reducible rfl))
          try simp only [Act.put, List.setIfInBounds_toArray, List.set_cons_zero, List.set_cons_succ]
          refine take1 (i := 12) (v := ?v32) (some 135) rfl rfl (by kernel_rfl) (by kernel_rfl) (by kernel_rfl) (fun _ _ _ h => h) (Or.inl ⟨by rfl, ?y32⟩) (by assumption) ?r32
          case y32 => (intro w hSw; (try dsimp only at hSw); go_simp; (first | done | with_reducible rfl))
          try simp only [Act.put, List.setIfInBounds_toArray, List.set_cons_zero, List.set_cons_succ]
          refine wpAnyH_ready (rs := [13]) (by kernel_rfl) (by simp) ?_
          refine AllReadyH.cons rfl (fun K hK => ?_) AllReadyH.nil
          go_simp
          rw [EW.out]
          refine hK.out _ _ (trivial) (fun hHeld => ?_)
          clear hK K
          try simp only [Act.put]
          refine wpAnyH_done (by kernel_rfl) ?_ _
          go_wp2_with fail
          refine (HBAD.out _ (tab_below HT.out HBS.out)).mono ?_
          rintro e w' ⟨rfl, hb⟩
          go_wp2_with fail
          go_ret
          exact ⟨rfl, HBS.out.trans (hb.mono HBS.out.size)⟩
end Go.Proofs.YtfbilfplbjjoaaaDoor
