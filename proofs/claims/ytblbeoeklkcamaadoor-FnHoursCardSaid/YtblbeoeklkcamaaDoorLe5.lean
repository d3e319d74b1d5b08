/- The model's DayOfClass and LongestGap. -/
import Derived.Test.YtblbeoeklkcamaaDoorLe4
import Derived.Test.YtblbeoeklkcamaaDoorTg
import Derived.Test.YtblbeoeklkcamaaDoorK9a
namespace Go.Proofs.YtblbeoeklkcamaaDoor
set_option linter.unusedVariables false
open Go.RowKit

set_option maxRecDepth 100000 in
set_option maxHeartbeats 400000 in
theorem l1MostL_any (x y : Int) (w : World) :
    Calls Tryd.prog 42 #[.int .i64 x, .int .i64 y] w fun e w' => e = .returned (.int .i64 (if y < x then x else y)) ∧ w' = w := by
  by_cases h : y < x
  · rw [if_pos h]
    go_enter Tryd.func42, Tryd.ntmps42
    go_wp2_with fail
    go_ret
    exact ⟨rfl, rfl⟩
  · rw [if_neg h]
    go_enter Tryd.func42, Tryd.ntmps42
    go_wp2_with fail
    go_ret
    exact ⟨rfl, rfl⟩
set_option maxRecDepth 100000 in
set_option maxHeartbeats 1600000 in
theorem specGap_no (v : Value) (ps : List Les) (c : Int) (w : World) (h : RowsR 7 lesC w v ps) (g : Int) (t : Bool) (hn : ¬ (okLs ps ∧ (1 ≤ c ∧ c ≤ 9))) (hq : g = 0 ∧ t = false) :
    Calls Tryd.prog 17 #[v, .int .i64 c] w fun e w' => e = .returned (.tuple #[.int .i64 g, .bool t]) ∧ Below w.heap.size w w' := by
  obtain ⟨rfl, rfl⟩ := hq
  have HR := Lib.hid h
  obtain ⟨a, cp, rfl⟩ := h.form
  clear h
  by_cases ho : okLs ps
  · have HO := Lib.hid ho
    have HCC : Hid (¬ (1 ≤ c ∧ c ≤ 9)) := Lib.hid (fun hc => hn ⟨ho, hc⟩)
    clear hn ho
    go_enter Tryd.func17, Tryd.ntmps17
    go_wp2_with fail
    refine (l11Good_yes _ ps _ HR.out HO.out).mono ?_
    rintro e w2 ⟨rfl, hb2⟩
    have HB2 := Lib.hid hb2
    clear hb2
    go_wp2_with fail
    refine (l11Class_no _ _ HCC.out).mono ?_
    rintro e w' ⟨rfl, hw⟩
    subst w'
    go_wp2_with fail
    go_ret2
    exact ⟨rfl, HB2.out⟩
  · have HO := Lib.hid ho
    clear hn ho
    go_enter Tryd.func17, Tryd.ntmps17
    go_wp2_with fail
    refine (l11Good_no _ ps _ HR.out HO.out).mono ?_
    rintro e w2 ⟨rfl, hb2⟩
    have HB2 := Lib.hid hb2
    clear hb2
    go_wp2_with fail
    go_ret2
    exact ⟨rfl, HB2.out⟩
set_option maxRecDepth 100000 in
set_option maxHeartbeats 3200000 in
theorem specGap_ok (v : Value) (ps : List Les) (c : Int) (w : World) (h : RowsR 7 lesC w v ps) (ho : okLs ps) (hc : 1 ≤ c ∧ c ≤ 9) (g : Int) (hg : g = gpA ps c 7) :
    Calls Tryd.prog 17 #[v, .int .i64 c] w fun e w' => e = .returned (.tuple #[.int .i64 g, .bool true]) ∧ Below w.heap.size w w' := by
  have hl := okLs_len ho
  have HR := Lib.hid h
  have HO := Lib.hid ho
  have HCC := Lib.hid hc
  have HG := Lib.hid hg
  obtain ⟨a, cp, rfl⟩ := h.form
  clear h ho hc hg
  go_enter Tryd.func17, Tryd.ntmps17
  go_wp2_with fail
  refine (l11Good_yes _ ps _ HR.out HO.out).mono ?_
  rintro e w2 ⟨rfl, hb2⟩
  have HB2 := Lib.hid hb2
  clear hb2
  go_wp2_with fail
  refine (l11Class_yes _ _ HCC.out).mono ?_
  rintro e w' ⟨rfl, hw⟩
  subst w'
  go_wp2_with fail
  go_loopw [6, 7] (fun mv dv wr => ∃ n : Nat, n ≤ 7 ∧ dv = .int .i64 n ∧ mv = .int .i64 (gpA ps c n) ∧ Below w.heap.size w wr) (fun _ dv _ => 7 - (intOf dv).toNat)
  case atStart => exact ⟨0, by omega, rfl, rfl, HB2.out⟩
  case round =>
    obtain ⟨n, hn, rfl, rfl, hb⟩ := hrel
    rename World => wo
    have HBo := Lib.hid hb
    clear hb
    by_cases h7 : n < 7
    · have z1 : (n : Int) ≤ 6 := by omega
      have HDL0 : Hid ((dayF ps c n).length ≤ 12) := Lib.hid (by have := dayF_len ps c n; omega)
      have HOK : Hid (∀ i, i < (dayF ps c n).length → okLe (leD (dayF ps c n) i)) := Lib.hid (fun i hi => day_ok HO.out c n i hi)
      have HA : Hid (gpA ps c (n + 1) = gpD (dayF ps c n) ((dayF ps c n).length - 1) (gpA ps c n)) := Lib.hid rfl
      generalize gpA ps c n = M at HA ⊢
      go_wp2_with fail
      refine (l11Day_any _ ps c n wo (HR.out.below HBo.out (Nat.le_refl _)) hl).mono ?_
      rintro e w3 ⟨⟨sm, rfl, ho⟩, hb3⟩
      generalize dayF ps c n = D at ho HDL0 HOK HA
      have HRD := Lib.hid (RowsR.of_own lesC_len ho)
      obtain ⟨ad, cd, rfl⟩ := own_form ho
      have R1 := Lib.hid HRD.out.at
      have HB3 := Lib.hid (HBo.out.trans (hb3.mono HBo.out.size))
      have hDl : D.length ≤ 12 := HDL0.out
      clear hb3 ho
      go_wp2_with fail
      go_loopw [6, 9] (fun mv iv wr => ∃ i : Nat, (i = 0 ∨ i + 1 ≤ D.length) ∧ iv = .int .i64 ((i + 1 : Nat) : Int) ∧ mv = .int .i64 (gpD D i M) ∧ Below w3.heap.size w3 wr) (fun _ iv _ => 20 - (intOf iv).toNat)
      case atStart => exact ⟨0, .inl rfl, rfl, rfl, Below.refl _ _⟩
      case round =>
        obtain ⟨i, hi, rfl, rfl, hb⟩ := hrel
        rename World => wi
        have HBi := Lib.hid hb
        clear hb
        by_cases hlt : i + 1 < D.length
        · have y1 : (0 : Int) ≤ (i : Int) := by omega
          have y2 : (i : Int) + 1 < (D.length : Int) := by omega
          have y3 : (i : Int) < (D.length : Int) := by omega
          have y4 : (0 : Int) ≤ (i : Int) + 1 := by omega
          have y5 : IntKind.i64.wrap (i : Int) = (i : Int) := by rw [IntKind.wrap_i64]; omega
          obtain ⟨b1, o1, rfl, l1, k1⟩ := R1.out _ HBi.out (i + 1) hlt
          obtain ⟨b2, o2, e2, _, k2⟩ := R1.out _ HBi.out i (by omega)
          obtain ⟨rfl, rfl⟩ : b1 = b2 ∧ o1 = o2 := by injection e2 with e2; injection e2 with e2 e3; exact ⟨e2, e3⟩
          obtain ⟨x, hx⟩ : ∃ x, leD D (i + 1) = x := ⟨_, rfl⟩
          obtain ⟨y, hy⟩ : ∃ y, leD D i = y := ⟨_, rfl⟩
          have gw := gap_wrap (HOK.out (i + 1) hlt) (HOK.out i (by omega))
          rw [hx, hy] at gw
          obtain ⟨gw1, gw2, gw3⟩ := gw
          have HS : Hid (gpD D (i + 1) M = mxI (gpD D i M) (x.bgn - y.bgn - y.mins)) := Lib.hid (by rw [gpD, gapAt, hx, hy])
          rw [← leD_at D (i + 1) hlt, hx] at k1
          rw [← leD_at D i (by omega), hy] at k2
          have p5 : wi.cell? ⟨b1, o1 + (i + 1) * 7 + 5, none⟩ = some (.int .i64 x.bgn) := k1 5 (by omega)
          have q0 : wi.cell? ⟨b1, o1 + i * 7, none⟩ = some (.int .i64 y.id) := k2 0 (by omega)
          have q1 : wi.cell? ⟨b1, o1 + i * 7 + 1, none⟩ = some (.int .i64 y.cls) := k2 1 (by omega)
          have q2 : wi.cell? ⟨b1, o1 + i * 7 + 2, none⟩ = some (.int .i64 y.tch) := k2 2 (by omega)
          have q3 : wi.cell? ⟨b1, o1 + i * 7 + 3, none⟩ = some (.int .i64 y.room) := k2 3 (by omega)
          have q4 : wi.cell? ⟨b1, o1 + i * 7 + 4, none⟩ = some (.int .i64 y.day) := k2 4 (by omega)
          have q5 : wi.cell? ⟨b1, o1 + i * 7 + 5, none⟩ = some (.int .i64 y.bgn) := k2 5 (by omega)
          have q6 : wi.cell? ⟨b1, o1 + i * 7 + 6, none⟩ = some (.int .i64 y.mins) := k2 6 (by omega)
          have l2 : b1 < wi.heap.size := Nat.lt_of_lt_of_le l1 HBi.out.size
          clear k1 k2 e2 hx hy
          obtain ⟨G, hG⟩ : ∃ G, x.bgn - y.bgn - y.mins = G := ⟨_, rfl⟩
          rw [hG] at HS gw2 gw3
          obtain ⟨m, hm⟩ : ∃ m, gpD D i M = m := ⟨_, rfl⟩
          rw [hm] at HS ⊢
          clear hm
          go_wp2_with fail
          refine wp_region_held_drew (S := (fun w' => w'.cell? ⟨b1, o1 + (i + 1) * 7 + 5, none⟩ = some (.int .i64 x.bgn) ∧ w'.cell? ⟨b1, o1 + i * 7 + 5, none⟩ = some (.int .i64 y.bgn) ∧ w'.cell? ⟨b1, o1 + i * 7 + 6, none⟩ = some (.int .i64 y.mins))) (by kernel_rfl) (⟨p5, q5, q6⟩) (fun hHeld => ?_)
          refine take1 (i := 0) (v := ?v1) (some 32) rfl rfl (by kernel_rfl) (by kernel_rfl) (by kernel_rfl) (fun _ _ _ h => h) (Or.inl ⟨by rfl, ?y1⟩) (by assumption) ?r1
          case y1 => (intro w hSw; (try dsimp only at hSw); go_simp; (first | done | with_reducible rfl))
          try simp only [Act.put, List.setIfInBounds_toArray, List.set_cons_zero, List.set_cons_succ]
          refine take1 (i := 1) (v := ?v2) (some 33) rfl rfl (by kernel_rfl) (by kernel_rfl) (by kernel_rfl) (fun _ _ _ h => h) (Or.inl ⟨by rfl, ?y2⟩) (by assumption) ?r2
          case y2 => (intro w hSw; (try dsimp only at hSw); go_simp; (first | done | with_reducible rfl))
          try simp only [Act.put, List.setIfInBounds_toArray, List.set_cons_zero, List.set_cons_succ]
          refine take1 (i := 2) (v := ?v3) (some 34) rfl rfl (by kernel_rfl) (by kernel_rfl) (by kernel_rfl) (fun _ _ _ h => h) (Or.inl ⟨by rfl, ?y3⟩) (by assumption) ?r3
          case y3 => (intro w hSw; (try dsimp only at hSw); go_simp; (first | done | with_reducible rfl))
          try simp only [Act.put, List.setIfInBounds_toArray, List.set_cons_zero, List.set_cons_succ]
          refine take1 (i := 3) (v := ?v4) (some 35) rfl rfl (by kernel_rfl) (by kernel_rfl) (by kernel_rfl) (fun _ _ _ h => h) (Or.inl ⟨by rfl, ?y4⟩) (by assumption) ?r4
          case y4 => (intro w hSw; (try dsimp only at hSw); go_simp; (first | done | with_reducible rfl))
          try simp only [Act.put, List.setIfInBounds_toArray, List.set_cons_zero, List.set_cons_succ]
          refine take1 (i := 4) (v := ?v5) (some 36) rfl rfl (by kernel_rfl) (by kernel_rfl) (by kernel_rfl) (fun _ _ _ h => h) (Or.inl ⟨by rfl, ?y5⟩) (by assumption) ?r5
          case y5 => (intro w hSw; (try dsimp only at hSw); go_simp; (first | done | with_reducible rfl))
          try simp only [Act.put, List.setIfInBounds_toArray, List.set_cons_zero, List.set_cons_succ]
          refine take1 (i := 5) (v := ?v6) (some 37) rfl rfl (by kernel_rfl) (by kernel_rfl) (by kernel_rfl) (fun _ _ _ h => h) (Or.inl ⟨by rfl, ?y6⟩) (by assumption) ?r6
          case y6 => (intro w hSw; (try dsimp only at hSw); go_simp; (first | done | with_reducible rfl))
          try simp only [Act.put, List.setIfInBounds_toArray, List.set_cons_zero, List.set_cons_succ]
          refine take1 (i := 6) (v := ?v7) (some 38) rfl rfl (by kernel_rfl) (by kernel_rfl) (by kernel_rfl) (fun _ _ _ h => h) (Or.inl ⟨by rfl, ?y7⟩) (by assumption) ?r7
          case y7 => (intro w hSw; (try dsimp only at hSw); go_simp; (first | done | with_reducible rfl))
          try simp only [Act.put, List.setIfInBounds_toArray, List.set_cons_zero, List.set_cons_succ]
          refine take1 (i := 7) (v := ?v8) (some 39) rfl rfl (by kernel_rfl) (by kernel_rfl) (by kernel_rfl) (fun _ _ _ h => h) (Or.inl ⟨by rfl, ?y8⟩) (by assumption) ?r8
          case y8 => (intro w hSw; (try dsimp only at hSw); go_simp; (first | done | with_reducible rfl))
          try simp only [Act.put, List.setIfInBounds_toArray, List.set_cons_zero, List.set_cons_succ]
          refine take1 (i := 8) (v := ?v9) (some 40) rfl rfl (by kernel_rfl) (by kernel_rfl) (by kernel_rfl) (fun _ _ _ h => h) (Or.inl ⟨by rfl, ?y9⟩) (by assumption) ?r9
          case y9 => (intro w hSw; (try dsimp only at hSw); go_simp; (first | done | with_reducible rfl))
          try simp only [Act.put, List.setIfInBounds_toArray, List.set_cons_zero, List.set_cons_succ]
          refine take1 (i := 9) (v := ?v10) (some 41) rfl rfl (by kernel_rfl) (by kernel_rfl) (by kernel_rfl) (fun _ _ _ h => h) (Or.inl ⟨by rfl, ?y10⟩) (by assumption) ?r10
          case y10 => (intro w hSw; (try dsimp only at hSw); go_simp; (first | done | with_reducible rfl))
          try simp only [Act.put, List.setIfInBounds_toArray, List.set_cons_zero, List.set_cons_succ]
          refine take1 (i := 10) (v := ?v11) (some 42) rfl rfl (by kernel_rfl) (by kernel_rfl) (by kernel_rfl) (fun _ _ _ h => h) (Or.inl ⟨by rfl, ?y11⟩) (by assumption) ?r11
          case y11 => (intro w hSw; (try dsimp only at hSw); go_simp; (first | done | with_reducible rfl))
          try simp only [Act.put, List.setIfInBounds_toArray, List.set_cons_zero, List.set_cons_succ]
          refine take1 (i := 11) (v := ?v12) (some 43) rfl rfl (by kernel_rfl) (by kernel_rfl) (by kernel_rfl) (fun _ _ _ h => h) (Or.inl ⟨by rfl, ?y12⟩) (by assumption) ?r12
          case y12 => (intro w hSw; (try dsimp only at hSw); go_simp; (first | done | with_reducible rfl))
          try simp only [Act.put, List.setIfInBounds_toArray, List.set_cons_zero, List.set_cons_succ]
          refine take1 (i := 12) (v := ?v13) (some 44) rfl rfl (by kernel_rfl) (by kernel_rfl) (by kernel_rfl) (fun _ _ _ h => h) (Or.inl ⟨by rfl, ?y13⟩) (by assumption) ?r13
          case y13 => (intro w hSw; (try dsimp only at hSw); go_simp; (first | done | with_reducible rfl))
          try simp only [Act.put, List.setIfInBounds_toArray, List.set_cons_zero, List.set_cons_succ]
          refine take1 (i := 13) (v := ?v14) (some 45) rfl rfl (by kernel_rfl) (by kernel_rfl) (by kernel_rfl) (fun _ _ _ h => h) (Or.inl ⟨by rfl, ?y14⟩) (by assumption) ?r14
          case y14 => (intro w hSw; (try dsimp only at hSw); go_simp; (first | done | with_reducible rfl))
          try simp only [Act.put, List.setIfInBounds_toArray, List.set_cons_zero, List.set_cons_succ]
          refine take1 (i := 14) (v := ?v15) (some 46) rfl rfl (by kernel_rfl) (by kernel_rfl) (by kernel_rfl) (fun _ _ _ h => h) (Or.inl ⟨by rfl, ?y15⟩) (by assumption) ?r15
          case y15 => (intro w hSw; (try dsimp only at hSw); go_simp; (first | done | with_reducible rfl))
          try simp only [Act.put, List.setIfInBounds_toArray, List.set_cons_zero, List.set_cons_succ]
          refine take1 (i := 15) (v := ?v16) (some 47) rfl rfl (by kernel_rfl) (by kernel_rfl) (by kernel_rfl) (fun _ _ _ h => h) (Or.inl ⟨by rfl, ?y16⟩) (by assumption) ?r16
          case y16 => (intro w hSw; (try dsimp only at hSw); go_simp; (first | done | with_reducible rfl))
          try simp only [Act.put, List.setIfInBounds_toArray, List.set_cons_zero, List.set_cons_succ]
          refine take1 (i := 16) (v := ?v17) (some 48) rfl rfl (by kernel_rfl) (by kernel_rfl) (by kernel_rfl) (fun _ _ _ h => h) (Or.inl ⟨by rfl, ?y17⟩) (by assumption) ?r17
          case y17 => (intro w hSw; (try dsimp only at hSw); go_simp; (first | done | with_reducible rfl))
          try simp only [Act.put, List.setIfInBounds_toArray, List.set_cons_zero, List.set_cons_succ]
          refine take1 (i := 17) (v := ?v18) (some 49) rfl rfl (by kernel_rfl) (by kernel_rfl) (by kernel_rfl) (fun _ _ _ h => h) (Or.inl ⟨by rfl, ?y18⟩) (by assumption) ?r18
          case y18 => (intro w hSw; (try dsimp only at hSw); go_simp; (first | done | with_reducible rfl))
          try simp only [Act.put, List.setIfInBounds_toArray, List.set_cons_zero, List.set_cons_succ]
          refine take1 (i := 18) (v := ?v19) (some 50) rfl rfl (by kernel_rfl) (by kernel_rfl) (by kernel_rfl) (fun _ _ _ h => h) (Or.inl ⟨by rfl, ?y19⟩) (by assumption) ?r19
          case y19 => (intro w hSw; (try dsimp only at hSw); go_simp; (first | done | with_reducible rfl))
          try simp only [Act.put, List.setIfInBounds_toArray, List.set_cons_zero, List.set_cons_succ]
          refine take1 (i := 19) (v := ?v20) (some 51) rfl rfl (by kernel_rfl) (by kernel_rfl) (by kernel_rfl) (fun _ _ _ h => h) (Or.inl ⟨by rfl, ?y20⟩) (by assumption) ?r20
          case y20 => (intro w hSw; (try dsimp only at hSw); go_simp; (first | done | with_reducible rfl))
          try simp only [Act.put, List.setIfInBounds_toArray, List.set_cons_zero, List.set_cons_succ]
          refine wpAnyH_ready (rs := [20]) (by kernel_rfl) (by simp) ?_
          refine AllReadyH.cons rfl (fun K hK => ?_) AllReadyH.nil
          go_simp
          go_at_call 42
          refine (l1MostL_any m G _).mono ?_
          rintro e w4 ⟨rfl, hw4⟩
          have hb4 : Below wi.heap.size wi w4 := by rw [hw4]; exact (Below.refl _ _).drew
          clear hw4
          try go_simp
          refine hK.out _ _ (⟨(hb4.cell (p := ⟨b1, _, none⟩) l2).trans p5, (hb4.cell (p := ⟨b1, _, none⟩) l2).trans q5, (hb4.cell (p := ⟨b1, _, none⟩) l2).trans q6⟩) (fun hHeld => ?_)
          clear hK K
          try simp only [Act.put, List.setIfInBounds_toArray, List.set_cons_zero, List.set_cons_succ]
          refine take1 (i := 21) (v := ?v21) (some 6) rfl rfl (by kernel_rfl) (by kernel_rfl) (by kernel_rfl) (fun _ _ _ h => h) (Or.inl ⟨by rfl, ?y21⟩) (by assumption) ?r21
          case y21 => (intro w hSw; (try dsimp only at hSw); go_simp; (first | done | with_reducible rfl))
          try simp only [Act.put]
          refine wpAnyH_done (by kernel_rfl) ?_ _
          have HB5 : Hid (Below w3.heap.size w3 w4) := Lib.hid (HBi.out.trans (hb4.mono HBi.out.size))
          clear hb4
          clear hHeld p5 q0 q1 q2 q3 q4 q5 q6
          go_wp2_with fail
          go_roundw
          case rel => exact ⟨i + 1, .inr (by omega), by go_num, by first | (rw [HS.out]; done) | (rw [HS.out]; rfl), HB5.out⟩
          case measure => simp [intOf]; omega

        · have HE : Hid (gpD D i M = gpA ps c (n + 1)) := Lib.hid (by rw [HA.out]; congr 1; omega)
          have y2 : ¬ (i : Int) + 1 < (D.length : Int) := by omega
          have HBw := Lib.hid (HB3.out.trans (HBi.out.mono HB3.out.size))
          rw [HE.out]
          go_wp2_with fail
          go_roundw
          case rel => exact ⟨n + 1, by omega, by go_num, rfl, HBw.out⟩
          case measure => simp [intOf]; omega
    · obtain rfl : n = 7 := by omega
      rw [← HG.out]
      go_wp2_with fail
      go_ret2
      exact ⟨rfl, HBo.out⟩
theorem specGap_any (v : Value) (ps : List Les) (c : Int) (w : World) (h : RowsR 7 lesC w v ps) (g : Int) (t : Bool) (hf : GpF ps c g t) :
    Calls Tryd.prog 17 #[v, .int .i64 c] w fun e w' => e = .returned (.tuple #[.int .i64 g, .bool t]) ∧ Below w.heap.size w w' := by
  rcases hf with ⟨⟨h1, h2⟩, h3, rfl⟩ | ⟨h1, h2, h3⟩
  · exact specGap_ok v ps c w h h1 h2 g h3
  · exact specGap_no v ps c w h g t h1 ⟨h2, h3⟩
end Go.Proofs.YtblbeoeklkcamaaDoor
