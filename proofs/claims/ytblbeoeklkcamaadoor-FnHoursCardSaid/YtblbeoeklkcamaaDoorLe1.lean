/- The model's tests of lessons. -/
import Derived.Test.YtblbeoeklkcamaaDoorTls
import Derived.Test.YtblbeoeklkcamaaDoorKa
import Derived.Test.YtblbeoeklkcamaaDoorInts
import Derived.Test.YtblbeoeklkcamaaDoorLhas
namespace Go.Proofs.YtblbeoeklkcamaaDoor
set_option linter.unusedVariables false
open Go.RowKit

set_option maxRecDepth 100000 in
set_option maxHeartbeats 400000 in
theorem l11Class_yes (c : Int) (w : World) (h : 1 ≤ c ∧ c ≤ 9) :
    Calls Tryd.prog 40 #[.int .i64 c] w fun e w' => e = .returned (.bool true) ∧ w' = w := by
  have HH := Lib.hid h
  clear h
  go_enter Tryd.func40, Tryd.ntmps40
  go_wp2_with fail
  refine (l1In_yesq _ _ _ _ HH.out).mono ?_
  rintro e w' ⟨rfl, hw⟩
  subst w'
  go_wp2_with fail
  go_ret
  exact ⟨rfl, rfl⟩
set_option maxRecDepth 100000 in
set_option maxHeartbeats 400000 in
theorem l11Class_no (c : Int) (w : World) (h : ¬ (1 ≤ c ∧ c ≤ 9)) :
    Calls Tryd.prog 40 #[.int .i64 c] w fun e w' => e = .returned (.bool false) ∧ w' = w := by
  have HH := Lib.hid h
  clear h
  go_enter Tryd.func40, Tryd.ntmps40
  go_wp2_with fail
  refine (l1In_noq _ _ _ _ HH.out).mono ?_
  rintro e w' ⟨rfl, hw⟩
  subst w'
  go_wp2_with fail
  go_ret
  exact ⟨rfl, rfl⟩
set_option maxRecDepth 100000 in
set_option maxHeartbeats 400000 in
theorem l11Week_yes (c : Int) (w : World) (h : 0 ≤ c ∧ c ≤ 6) :
    Calls Tryd.prog 65 #[.int .i64 c] w fun e w' => e = .returned (.bool true) ∧ w' = w := by
  have HH := Lib.hid h
  clear h
  go_enter Tryd.func65, Tryd.ntmps65
  go_wp2_with fail
  refine (l1In_yesq _ _ _ _ HH.out).mono ?_
  rintro e w' ⟨rfl, hw⟩
  subst w'
  go_wp2_with fail
  go_ret
  exact ⟨rfl, rfl⟩
set_option maxRecDepth 100000 in
set_option maxHeartbeats 400000 in
theorem l11Week_no (c : Int) (w : World) (h : ¬ (0 ≤ c ∧ c ≤ 6)) :
    Calls Tryd.prog 65 #[.int .i64 c] w fun e w' => e = .returned (.bool false) ∧ w' = w := by
  have HH := Lib.hid h
  clear h
  go_enter Tryd.func65, Tryd.ntmps65
  go_wp2_with fail
  refine (l1In_noq _ _ _ _ HH.out).mono ?_
  rintro e w' ⟨rfl, hw⟩
  subst w'
  go_wp2_with fail
  go_ret
  exact ⟨rfl, rfl⟩
set_option maxRecDepth 100000 in
set_option maxHeartbeats 1600000 in
theorem l11Time_any (b m : Int) (w : World) (r : Bool) (hr : r = true ↔ okTm b m) :
    Calls Tryd.prog 66 #[.int .i64 b, .int .i64 m] w fun e w' => e = .returned (.bool r) ∧ Below w.heap.size w w' := by
  have HR : Hid (r = true ↔ (480 ≤ b ∧ b ≤ 1140) ∧ (m = 30 ∨ m = 45 ∨ m = 60 ∨ m = 90)) := Lib.hid hr
  clear hr
  go_enter Tryd.func66, Tryd.ntmps66
  go_wp2_with fail
  by_cases h1 : 480 ≤ b ∧ b ≤ 1140
  · have HT : Hid (r = true ↔ m ∈ [30, 45, 60, 90]) := Lib.hid (by
      rw [HR.out]
      simp [h1])
    refine (l1In_yesq _ _ _ _ h1).mono ?_
    rintro e w' ⟨rfl, hw⟩
    subst w'
    clear h1
    go_wp2_with fail
    have hb : Below w.heap.size w (w.alloc (.cells #[.int .i64 30, .int .i64 45, .int .i64 60, .int .i64 90] 3)) := (Below.refl _ _).alloc (Nat.le_refl _) _
    have hrw : RowsR 1 inC (w.alloc (.cells #[.int .i64 30, .int .i64 45, .int .i64 60, .int .i64 90] 3)) (.slice (some ⟨w.heap.size, 0, none⟩) 4 4) [30, 45, 60, 90] := row_lit w [30, 45, 60, 90] 3 (by decide)
    generalize w.alloc (.cells #[.int .i64 30, .int .i64 45, .int .i64 60, .int .i64 90] 3) = w1 at hb hrw ⊢
    refine (l1Has_any _ _ m w1 hrw r HT.out).mono ?_
    rintro e w' ⟨rfl, hw⟩
    subst w'
    clear hrw
    go_wp2_with fail
    go_ret
    exact ⟨rfl, hb⟩
  · have HN : Hid (r = false) := Lib.hid (Bool.eq_false_iff.2 fun e => h1 (HR.out.1 e).1)
    refine (l1In_noq _ _ _ _ h1).mono ?_
    rintro e w' ⟨rfl, hw⟩
    subst w'
    clear h1
    go_wp2_with fail
    go_ret
    exact ⟨ret_bool HN.out.symm, Below.refl _ _⟩
set_option maxRecDepth 100000 in
set_option maxHeartbeats 1600000 in
theorem l11One_any (x : Les) (w : World) (r : Bool) (hr : r = true ↔ okLe x) :
    Calls Tryd.prog 46 #[lesV x] w fun e w' => e = .returned (.bool r) ∧ Below w.heap.size w w' := by
  obtain ⟨id, cls, tch, room, day, bgn, mins⟩ := x
  show Calls Tryd.prog 46 #[.agg #[.int .i64 id, .int .i64 cls, .int .i64 tch, .int .i64 room, .int .i64 day, .int .i64 bgn, .int .i64 mins]] w fun e w' => e = .returned (.bool r) ∧ Below w.heap.size w w'
  have HR : Hid (r = true ↔ (1 ≤ id ∧ id ≤ 99) ∧ (1 ≤ cls ∧ cls ≤ 9) ∧ (1 ≤ tch ∧ tch ≤ 20) ∧ (1 ≤ room ∧ room ≤ 9) ∧ (0 ≤ day ∧ day ≤ 6) ∧ okTm bgn mins) := Lib.hid hr
  clear hr
  have HB0 : Hid (Below w.heap.size w w) := Lib.hid (Below.refl _ _)
  go_enter Tryd.func46, Tryd.ntmps46
  go_wp2_with fail
  have hb : Below w.heap.size w (w.alloc (.cells #[.int .i64 id, .int .i64 cls, .int .i64 tch, .int .i64 room, .int .i64 day, .int .i64 bgn, .int .i64 mins] 31)) := (Below.refl _ _).alloc (Nat.le_refl _) _
  have hk : (w.alloc (.cells #[.int .i64 id, .int .i64 cls, .int .i64 tch, .int .i64 room, .int .i64 day, .int .i64 bgn, .int .i64 mins] 31)).heap[w.heap.size]? = some (.cells #[.int .i64 id, .int .i64 cls, .int .i64 tch, .int .i64 room, .int .i64 day, .int .i64 bgn, .int .i64 mins] 31 (0, 0)) := alloc_at rfl
  have hz : (w.alloc (.cells #[.int .i64 id, .int .i64 cls, .int .i64 tch, .int .i64 room, .int .i64 day, .int .i64 bgn, .int .i64 mins] 31)).heap.size = w.heap.size + 1 := by simp
  generalize w.alloc (.cells #[.int .i64 id, .int .i64 cls, .int .i64 tch, .int .i64 room, .int .i64 day, .int .i64 bgn, .int .i64 mins] 31) = w1 at hb hk hz ⊢
  have HB1 : Hid (Below w.heap.size w w1) := Lib.hid (HB0.out.trans (hb.mono HB0.out.size))
  have HZ1 : Hid (w.heap.size ≤ w1.heap.size) := Lib.hid hb.size
  have HKf1 := Lib.hid hk
  replace HZ1 : Hid (w.heap.size < w1.heap.size) := Lib.hid (by omega)
  have HE1 := Lib.hid hz
  clear hb hk hz
  have ltf := lt_of_block HKf1.out
  obtain ⟨cf0, cf1, cf2, cf3, cf4, cf5, cf6, ff0, ff1, ff2, ff3, ff4, ff5, ff6⟩ := cell7 HKf1.out
  by_cases h0 : 1 ≤ id ∧ id ≤ 99
  · refine (l1In_yesq _ _ _ _ h0).mono ?_
    rintro e w' ⟨rfl, hw⟩
    subst w'
    have H0 := Lib.hid h0
    clear h0
    go_wp2_with fail
    by_cases h1 : 1 ≤ cls ∧ cls ≤ 9
    · refine (l11Class_yes _ _ h1).mono ?_
      rintro e w' ⟨rfl, hw⟩
      subst w'
      have H1 := Lib.hid h1
      clear h1
      go_wp2_with fail
      by_cases h2 : 1 ≤ tch ∧ tch ≤ 20
      · refine (l1In_yesq _ _ _ _ h2).mono ?_
        rintro e w' ⟨rfl, hw⟩
        subst w'
        have H2 := Lib.hid h2
        clear h2
        go_wp2_with fail
        by_cases h3 : 1 ≤ room ∧ room ≤ 9
        · refine (l1In_yesq _ _ _ _ h3).mono ?_
          rintro e w' ⟨rfl, hw⟩
          subst w'
          have H3 := Lib.hid h3
          clear h3
          go_wp2_with fail
          by_cases h4 : 0 ≤ day ∧ day ≤ 6
          · refine (l11Week_yes _ _ h4).mono ?_
            rintro e w' ⟨rfl, hw⟩
            subst w'
            have H4 := Lib.hid h4
            clear h4
            go_wp2_with fail
            refine (l11Time_any bgn mins _ r ⟨fun e => (HR.out.1 e).2.2.2.2.2, fun h => HR.out.2 ⟨H0.out, H1.out, H2.out, H3.out, H4.out, h⟩⟩).mono ?_
            rintro e w2 ⟨rfl, hb2⟩
            have HB2 := Lib.hid (HB1.out.trans (hb2.mono HB1.out.size))
            clear hb2
            go_wp2_with fail
            go_ret
            exact ⟨rfl, HB2.out⟩
          · have HN := Lib.hid (show r = false from Bool.eq_false_iff.2 fun e => h4 (HR.out.1 e).2.2.2.2.1)
            refine (l11Week_no _ _ h4).mono ?_
            rintro e w' ⟨rfl, hw⟩
            subst w'
            clear h4
            go_wp2_with fail
            go_ret
            exact ⟨ret_bool HN.out.symm, HB1.out⟩
        · have HN := Lib.hid (show r = false from Bool.eq_false_iff.2 fun e => h3 (HR.out.1 e).2.2.2.1)
          refine (l1In_noq _ _ _ _ h3).mono ?_
          rintro e w' ⟨rfl, hw⟩
          subst w'
          clear h3
          go_wp2_with fail
          go_ret
          exact ⟨ret_bool HN.out.symm, HB1.out⟩
      · have HN := Lib.hid (show r = false from Bool.eq_false_iff.2 fun e => h2 (HR.out.1 e).2.2.1)
        refine (l1In_noq _ _ _ _ h2).mono ?_
        rintro e w' ⟨rfl, hw⟩
        subst w'
        clear h2
        go_wp2_with fail
        go_ret
        exact ⟨ret_bool HN.out.symm, HB1.out⟩
    · have HN := Lib.hid (show r = false from Bool.eq_false_iff.2 fun e => h1 (HR.out.1 e).2.1)
      refine (l11Class_no _ _ h1).mono ?_
      rintro e w' ⟨rfl, hw⟩
      subst w'
      clear h1
      go_wp2_with fail
      go_ret
      exact ⟨ret_bool HN.out.symm, HB1.out⟩
  · have HN := Lib.hid (show r = false from Bool.eq_false_iff.2 fun e => h0 (HR.out.1 e).1)
    refine (l1In_noq _ _ _ _ h0).mono ?_
    rintro e w' ⟨rfl, hw⟩
    subst w'
    clear h0
    go_wp2_with fail
    go_ret
    exact ⟨ret_bool HN.out.symm, HB1.out⟩
set_option maxRecDepth 100000 in
set_option maxHeartbeats 3200000 in
theorem l11Good_scan (v : Value) (ps : List Les) (w : World) (h : RowsR 7 lesC w v ps) (p : Nat) (hp : p ≤ ps.length) (hpre : ∀ i (h : i < ps.length), i < p → okLsAt ps i h) (hx : ∀ h : p < ps.length, ¬ okLsAt ps p h) (r : Bool) (hr1 : p < ps.length → r = false) (hr2 : p = ps.length → r = decide (ps.length ≤ 12)) :
    Calls Tryd.prog 25 #[v] w fun e w' => e = .returned (.bool r) ∧ Below w.heap.size w w' := by
  have hm : ps.length ≤ 9223372036854775807 := by obtain ⟨_, _, _, ⟨m, _⟩, _⟩ := h; exact m
  obtain ⟨a, cp, rfl⟩ := h.form
  have R1 := Lib.hid h.at
  have HP := Lib.hid hpre
  have HX := Lib.hid hx
  have HR1 := Lib.hid hr1
  have HR2 := Lib.hid hr2
  clear h hpre hx hr1 hr2
  go_enter Tryd.func25, Tryd.ntmps25
  go_wp2_with fail
  go_loopw [3] (fun i wr => ∃ k : Nat, k ≤ p ∧ i = .int .i64 k ∧ Below w.heap.size w wr) (fun i _ => ps.length - (intOf i).toNat)
  case atStart => exact ⟨0, Nat.zero_le _, rfl, Below.refl _ _⟩
  case round =>
    obtain ⟨k, hk, rfl, hb⟩ := hrel
    have HB := Lib.hid hb
    by_cases hlt : k < ps.length
    · have z1 : (0 : Int) ≤ (k : Int) := by omega
      have z2 : (k : Int) < (ps.length : Int) := by omega
      obtain ⟨b1, o1, rfl, l1, k1⟩ := R1.out _ hb k hlt
      have l2 : b1 < wr.heap.size := Nat.lt_of_lt_of_le l1 hb.size
      by_cases hkp : k < p
      · have hok := HP.out k hlt hkp
        by_cases hk0 : 0 < k
        · obtain ⟨m, rfl⟩ : ∃ m, k = m + 1 := ⟨k - 1, by omega⟩
          have HG : Hid (okLe ps[m + 1]) := Lib.hid (hok.1)
          have p0 : wr.cell? ⟨b1, o1 + (m + 1) * 7, none⟩ = some (.int .i64 ps[m + 1].id) := k1 0 (by omega)
          have p1 : wr.cell? ⟨b1, o1 + (m + 1) * 7 + 1, none⟩ = some (.int .i64 ps[m + 1].cls) := k1 1 (by omega)
          have p2 : wr.cell? ⟨b1, o1 + (m + 1) * 7 + 2, none⟩ = some (.int .i64 ps[m + 1].tch) := k1 2 (by omega)
          have p3 : wr.cell? ⟨b1, o1 + (m + 1) * 7 + 3, none⟩ = some (.int .i64 ps[m + 1].room) := k1 3 (by omega)
          have p4 : wr.cell? ⟨b1, o1 + (m + 1) * 7 + 4, none⟩ = some (.int .i64 ps[m + 1].day) := k1 4 (by omega)
          have p5 : wr.cell? ⟨b1, o1 + (m + 1) * 7 + 5, none⟩ = some (.int .i64 ps[m + 1].bgn) := k1 5 (by omega)
          have p6 : wr.cell? ⟨b1, o1 + (m + 1) * 7 + 6, none⟩ = some (.int .i64 ps[m + 1].mins) := k1 6 (by omega)
          obtain ⟨b1', o1', e1, _, k2⟩ := R1.out _ hb m (by omega)
          obtain ⟨rfl, rfl⟩ : b1 = b1' ∧ o1 = o1' := by injection e1 with e1; injection e1 with e1 e2; exact ⟨e1, e2⟩
          have p7 : wr.cell? ⟨b1, o1 + m * 7, none⟩ = some (.int .i64 ps[m].id) := k2 0 (by omega)
          have hcmp : decide (ps[m + 1].id ≤ ps[m].id) = false := decide_eq_false (by have := hok.2 hk0; simp at this; omega)
          have z3 : (0 : Int) ≤ (m : Int) := by omega
          have z4 : (m : Int) < (ps.length : Int) := by omega
          have z5 : (m : Int) + 1 < (ps.length : Int) := by omega
          have z6 : (0 : Int) ≤ (m : Int) + 1 := by omega
          have z7 : IntKind.i64.wrap (m : Int) = (m : Int) := by rw [IntKind.wrap_i64]; omega
          clear hb k1 k2 e1
          generalize ps[m + 1] = q at p0 p1 p2 p3 p4 p5 p6 hcmp HG
          generalize ps[m] = q2 at p7 hcmp
          go_wp2_with fail
          refine wp_region_held_drew (S := (fun w' => w'.cell? ⟨b1, o1 + (m + 1) * 7, none⟩ = some (.int .i64 q.id) ∧ w'.cell? ⟨b1, o1 + (m + 1) * 7 + 1, none⟩ = some (.int .i64 q.cls) ∧ w'.cell? ⟨b1, o1 + (m + 1) * 7 + 2, none⟩ = some (.int .i64 q.tch) ∧ w'.cell? ⟨b1, o1 + (m + 1) * 7 + 3, none⟩ = some (.int .i64 q.room) ∧ w'.cell? ⟨b1, o1 + (m + 1) * 7 + 4, none⟩ = some (.int .i64 q.day) ∧ w'.cell? ⟨b1, o1 + (m + 1) * 7 + 5, none⟩ = some (.int .i64 q.bgn) ∧ w'.cell? ⟨b1, o1 + (m + 1) * 7 + 6, none⟩ = some (.int .i64 q.mins) ∧ w'.cell? ⟨b1, o1 + m * 7, none⟩ = some (.int .i64 q2.id))) (by kernel_rfl) (⟨p0, p1, p2, p3, p4, p5, p6, p7⟩) (fun hHeld => ?_)
          refine take1 (i := 0) (v := ?v1) (some 10) rfl rfl (by kernel_rfl) (by kernel_rfl) (by kernel_rfl) (fun _ _ _ h => h) (Or.inl ⟨by rfl, ?y1⟩) (by assumption) ?r1
          case y1 => (intro w hSw; (try dsimp only at hSw); go_simp; (first | done | with_reducible rfl))
          try simp only [Act.put, List.setIfInBounds_toArray, List.set_cons_zero, List.set_cons_succ]
          refine take1 (i := 1) (v := ?v2) (some 11) rfl rfl (by kernel_rfl) (by kernel_rfl) (by kernel_rfl) (fun _ _ _ h => h) (Or.inl ⟨by rfl, ?y2⟩) (by assumption) ?r2
          case y2 => (intro w hSw; (try dsimp only at hSw); go_simp; (first | done | with_reducible rfl))
          try simp only [Act.put, List.setIfInBounds_toArray, List.set_cons_zero, List.set_cons_succ]
          refine take1 (i := 2) (v := ?v3) (some 12) rfl rfl (by kernel_rfl) (by kernel_rfl) (by kernel_rfl) (fun _ _ _ h => h) (Or.inl ⟨by rfl, ?y3⟩) (by assumption) ?r3
          case y3 => (intro w hSw; (try dsimp only at hSw); go_simp; (first | done | with_reducible rfl))
          try simp only [Act.put, List.setIfInBounds_toArray, List.set_cons_zero, List.set_cons_succ]
          refine take1 (i := 3) (v := ?v4) (some 13) rfl rfl (by kernel_rfl) (by kernel_rfl) (by kernel_rfl) (fun _ _ _ h => h) (Or.inl ⟨by rfl, ?y4⟩) (by assumption) ?r4
          case y4 => (intro w hSw; (try dsimp only at hSw); go_simp; (first | done | with_reducible rfl))
          try simp only [Act.put, List.setIfInBounds_toArray, List.set_cons_zero, List.set_cons_succ]
          refine wpAnyH_ready (rs := [4]) (by kernel_rfl) (by simp) ?_
          refine AllReadyH.cons rfl (fun K hK => ?_) AllReadyH.nil
          go_simp
          go_at_call 46
          refine (l11One_any q _ true ⟨fun _ => HG.out, fun _ => rfl⟩).mono ?_
          rintro e w2 ⟨rfl, hb'⟩
          have hb2 : Below wr.heap.size wr w2 := Below.trans (Below.drew (Below.refl _ _)) hb'
          clear hb'
          try go_simp
          refine hK.out _ _ (⟨(hb2.cell (p := ⟨b1, _, none⟩) l2).trans p0, (hb2.cell (p := ⟨b1, _, none⟩) l2).trans p1, (hb2.cell (p := ⟨b1, _, none⟩) l2).trans p2, (hb2.cell (p := ⟨b1, _, none⟩) l2).trans p3, (hb2.cell (p := ⟨b1, _, none⟩) l2).trans p4, (hb2.cell (p := ⟨b1, _, none⟩) l2).trans p5, (hb2.cell (p := ⟨b1, _, none⟩) l2).trans p6, (hb2.cell (p := ⟨b1, _, none⟩) l2).trans p7⟩) (fun hHeld => ?_)
          clear hK K
          try simp only [Act.put, List.setIfInBounds_toArray, List.set_cons_zero, List.set_cons_succ]
          refine take1 (i := 5) (v := ?v5) (some 15) rfl rfl (by kernel_rfl) (by kernel_rfl) (by kernel_rfl) (fun _ _ _ h => h) (Or.inl ⟨by rfl, ?y5⟩) (by assumption) ?r5
          case y5 => (intro w hSw; (try dsimp only at hSw); go_simp; (first | done | with_reducible rfl))
          try simp only [Act.put, List.setIfInBounds_toArray, List.set_cons_zero, List.set_cons_succ]
          refine take1 (i := 6) (v := ?v6) (some 16) rfl rfl (by kernel_rfl) (by kernel_rfl) (by kernel_rfl) (fun _ _ _ h => h) (Or.inl ⟨by rfl, ?y6⟩) (by assumption) ?r6
          case y6 => (intro w hSw; (try dsimp only at hSw); go_simp; (first | done | with_reducible rfl))
          try simp only [Act.put, List.setIfInBounds_toArray, List.set_cons_zero, List.set_cons_succ]
          refine take1 (i := 7) (v := ?v7) (some 17) rfl rfl (by kernel_rfl) (by kernel_rfl) (by kernel_rfl) (fun _ _ _ h => h) (Or.inl ⟨by rfl, ?y7⟩) (by assumption) ?r7
          case y7 => (intro w hSw; (try dsimp only at hSw); go_simp; (first | done | with_reducible rfl))
          try simp only [Act.put, List.setIfInBounds_toArray, List.set_cons_zero, List.set_cons_succ]
          refine take1 (i := 8) (v := ?v8) (some 18) rfl rfl (by kernel_rfl) (by kernel_rfl) (by kernel_rfl) (fun _ _ _ h => h) (Or.inl ⟨by rfl, ?y8⟩) (by assumption) ?r8
          case y8 => (intro w hSw; (try dsimp only at hSw); go_simp; (first | done | with_reducible rfl))
          try simp only [Act.put, List.setIfInBounds_toArray, List.set_cons_zero, List.set_cons_succ]
          refine take1 (i := 9) (v := ?v9) (some 19) rfl rfl (by kernel_rfl) (by kernel_rfl) (by kernel_rfl) (fun _ _ _ h => h) (Or.inl ⟨by rfl, ?y9⟩) (by assumption) ?r9
          case y9 => (intro w hSw; (try dsimp only at hSw); go_simp; (first | done | with_reducible rfl))
          try simp only [Act.put, List.setIfInBounds_toArray, List.set_cons_zero, List.set_cons_succ]
          refine take1 (i := 10) (v := ?v10) (some 20) rfl rfl (by kernel_rfl) (by kernel_rfl) (by kernel_rfl) (fun _ _ _ h => h) (Or.inl ⟨by rfl, ?y10⟩) (by assumption) ?r10
          case y10 => (intro w hSw; (try dsimp only at hSw); go_simp; (first | done | with_reducible rfl))
          try simp only [Act.put, List.setIfInBounds_toArray, List.set_cons_zero, List.set_cons_succ]
          refine take1 (i := 11) (v := ?v11) (some 21) rfl rfl (by kernel_rfl) (by kernel_rfl) (by kernel_rfl) (fun _ _ _ h => h) (Or.inl ⟨by rfl, ?y11⟩) (by assumption) ?r11
          case y11 => (intro w hSw; (try dsimp only at hSw); go_simp; (first | done | with_reducible rfl))
          try simp only [Act.put, List.setIfInBounds_toArray, List.set_cons_zero, List.set_cons_succ]
          refine take1 (i := 12) (v := ?v12) (some 22) rfl rfl (by kernel_rfl) (by kernel_rfl) (by kernel_rfl) (fun _ _ _ h => h) (Or.inl ⟨by rfl, ?y12⟩) (by assumption) ?r12
          case y12 => (intro w hSw; (try dsimp only at hSw); go_simp; (first | done | with_reducible rfl))
          try simp only [Act.put, List.setIfInBounds_toArray, List.set_cons_zero, List.set_cons_succ]
          refine take1 (i := 13) (v := ?v13) (some 23) rfl rfl (by kernel_rfl) (by kernel_rfl) (by kernel_rfl) (fun _ _ _ h => h) (Or.inl ⟨by rfl, ?y13⟩) (by assumption) ?r13
          case y13 => (intro w hSw; (try dsimp only at hSw); go_simp; (first | done | with_reducible rfl))
          try simp only [Act.put, List.setIfInBounds_toArray, List.set_cons_zero, List.set_cons_succ]
          refine take1 (i := 14) (v := ?v14) (some 24) rfl rfl (by kernel_rfl) (by kernel_rfl) (by kernel_rfl) (fun _ _ _ h => h) (Or.inl ⟨by rfl, ?y14⟩) (by assumption) ?r14
          case y14 => (intro w hSw; (try dsimp only at hSw); go_simp; (first | done | with_reducible rfl))
          try simp only [Act.put, List.setIfInBounds_toArray, List.set_cons_zero, List.set_cons_succ]
          refine take1 (i := 15) (v := ?v15) (some 25) rfl rfl (by kernel_rfl) (by kernel_rfl) (by kernel_rfl) (fun _ _ _ h => h) (Or.inl ⟨by rfl, ?y15⟩) (by assumption) ?r15
          case y15 => (intro w hSw; (try dsimp only at hSw); go_simp; (first | done | with_reducible rfl))
          try simp only [Act.put, List.setIfInBounds_toArray, List.set_cons_zero, List.set_cons_succ]
          refine take1 (i := 16) (v := ?v16) (some 26) rfl rfl (by kernel_rfl) (by kernel_rfl) (by kernel_rfl) (fun _ _ _ h => h) (Or.inl ⟨by rfl, ?y16⟩) (by assumption) ?r16
          case y16 => (intro w hSw; (try dsimp only at hSw); go_simp; (first | done | with_reducible rfl))
          try simp only [Act.put, List.setIfInBounds_toArray, List.set_cons_zero, List.set_cons_succ]
          refine take1 (i := 17) (v := ?v17) (some 27) rfl rfl (by kernel_rfl) (by kernel_rfl) (by kernel_rfl) (fun _ _ _ h => h) (Or.inl ⟨by rfl, ?y17⟩) (by assumption) ?r17
          case y17 => (intro w hSw; (try dsimp only at hSw); go_simp; (first | done | with_reducible rfl))
          try simp only [Act.put, List.setIfInBounds_toArray, List.set_cons_zero, List.set_cons_succ]
          refine take1 (i := 18) (v := ?v18) (some 28) rfl rfl (by kernel_rfl) (by kernel_rfl) (by kernel_rfl) (fun _ _ _ h => h) (Or.inl ⟨by rfl, ?y18⟩) (by assumption) ?r18
          case y18 => (intro w hSw; (try dsimp only at hSw); go_simp; (first | done | with_reducible rfl))
          try simp only [Act.put, List.setIfInBounds_toArray, List.set_cons_zero, List.set_cons_succ]
          refine take1 (i := 19) (v := ?v19) (some 29) rfl rfl (by kernel_rfl) (by kernel_rfl) (by kernel_rfl) (fun _ _ _ h => h) (Or.inl ⟨by rfl, ?y19⟩) (by assumption) ?r19
          case y19 => (intro w hSw; (try dsimp only at hSw); go_simp; (first | done | with_reducible rfl))
          try simp only [Act.put, List.setIfInBounds_toArray, List.set_cons_zero, List.set_cons_succ]
          refine take1 (i := 20) (v := ?v20) (some 30) rfl rfl (by kernel_rfl) (by kernel_rfl) (by kernel_rfl) (fun _ _ _ h => h) (Or.inl ⟨by rfl, ?y20⟩) (by assumption) ?r20
          case y20 => (intro w hSw; (try dsimp only at hSw); go_simp; (first | done | with_reducible rfl))
          try simp only [Act.put, List.setIfInBounds_toArray, List.set_cons_zero, List.set_cons_succ]
          refine take1 (i := 21) (v := ?v21) (some 31) rfl rfl (by kernel_rfl) (by kernel_rfl) (by kernel_rfl) (fun _ _ _ h => h) (Or.inl ⟨by rfl, ?y21⟩) (by assumption) ?r21
          case y21 => (intro w hSw; (try dsimp only at hSw); go_simp; (first | done | with_reducible rfl))
          try simp only [Act.put, List.setIfInBounds_toArray, List.set_cons_zero, List.set_cons_succ]
          refine take1 (i := 22) (v := ?v22) (some 32) rfl rfl (by kernel_rfl) (by kernel_rfl) (by kernel_rfl) (fun _ _ _ h => h) (Or.inl ⟨by rfl, ?y22⟩) (by assumption) ?r22
          case y22 => (intro w hSw; (try dsimp only at hSw); go_simp; (first | done | with_reducible rfl))
          try simp only [Act.put, List.setIfInBounds_toArray, List.set_cons_zero, List.set_cons_succ]
          refine take1 (i := 23) (v := ?v23) (some 33) rfl rfl (by kernel_rfl) (by kernel_rfl) (by kernel_rfl) (fun _ _ _ h => h) (Or.inl ⟨by rfl, ?y23⟩) (by assumption) ?r23
          case y23 => (intro w hSw; (try dsimp only at hSw); go_simp; (first | done | with_reducible rfl))
          try simp only [Act.put, List.setIfInBounds_toArray, List.set_cons_zero, List.set_cons_succ]
          refine wpAnyH_done (by kernel_rfl) ?_ _
          go_wp2_with fail
          go_roundw
          case rel => exact ⟨(m + 1) + 1, by omega, by go_num, HB.out.trans (hb2.mono HB.out.size)⟩
          case measure => simp [intOf]; omega
        · have HG : Hid (okLe ps[k]) := Lib.hid (hok.1)
          have hd : decide (0 < k) = false := decide_eq_false hk0
          have p0 : wr.cell? ⟨b1, o1 + k * 7, none⟩ = some (.int .i64 ps[k].id) := k1 0 (by omega)
          have p1 : wr.cell? ⟨b1, o1 + k * 7 + 1, none⟩ = some (.int .i64 ps[k].cls) := k1 1 (by omega)
          have p2 : wr.cell? ⟨b1, o1 + k * 7 + 2, none⟩ = some (.int .i64 ps[k].tch) := k1 2 (by omega)
          have p3 : wr.cell? ⟨b1, o1 + k * 7 + 3, none⟩ = some (.int .i64 ps[k].room) := k1 3 (by omega)
          have p4 : wr.cell? ⟨b1, o1 + k * 7 + 4, none⟩ = some (.int .i64 ps[k].day) := k1 4 (by omega)
          have p5 : wr.cell? ⟨b1, o1 + k * 7 + 5, none⟩ = some (.int .i64 ps[k].bgn) := k1 5 (by omega)
          have p6 : wr.cell? ⟨b1, o1 + k * 7 + 6, none⟩ = some (.int .i64 ps[k].mins) := k1 6 (by omega)
          clear hb k1
          generalize ps[k] = q at p0 p1 p2 p3 p4 p5 p6 HG
          go_wp2_with fail
          refine wp_region_held_drew (S := (fun w' => w'.cell? ⟨b1, o1 + k * 7, none⟩ = some (.int .i64 q.id) ∧ w'.cell? ⟨b1, o1 + k * 7 + 1, none⟩ = some (.int .i64 q.cls) ∧ w'.cell? ⟨b1, o1 + k * 7 + 2, none⟩ = some (.int .i64 q.tch) ∧ w'.cell? ⟨b1, o1 + k * 7 + 3, none⟩ = some (.int .i64 q.room) ∧ w'.cell? ⟨b1, o1 + k * 7 + 4, none⟩ = some (.int .i64 q.day) ∧ w'.cell? ⟨b1, o1 + k * 7 + 5, none⟩ = some (.int .i64 q.bgn) ∧ w'.cell? ⟨b1, o1 + k * 7 + 6, none⟩ = some (.int .i64 q.mins))) (by kernel_rfl) (⟨p0, p1, p2, p3, p4, p5, p6⟩) (fun hHeld => ?_)
          refine take1 (i := 0) (v := ?v24) (some 10) rfl rfl (by kernel_rfl) (by kernel_rfl) (by kernel_rfl) (fun _ _ _ h => h) (Or.inl ⟨by rfl, ?y24⟩) (by assumption) ?r24
          case y24 => (intro w hSw; (try dsimp only at hSw); go_simp; (first | done | with_reducible rfl))
          try simp only [Act.put, List.setIfInBounds_toArray, List.set_cons_zero, List.set_cons_succ]
          refine take1 (i := 1) (v := ?v25) (some 11) rfl rfl (by kernel_rfl) (by kernel_rfl) (by kernel_rfl) (fun _ _ _ h => h) (Or.inl ⟨by rfl, ?y25⟩) (by assumption) ?r25
          case y25 => (intro w hSw; (try dsimp only at hSw); go_simp; (first | done | with_reducible rfl))
          try simp only [Act.put, List.setIfInBounds_toArray, List.set_cons_zero, List.set_cons_succ]
          refine take1 (i := 2) (v := ?v26) (some 12) rfl rfl (by kernel_rfl) (by kernel_rfl) (by kernel_rfl) (fun _ _ _ h => h) (Or.inl ⟨by rfl, ?y26⟩) (by assumption) ?r26
          case y26 => (intro w hSw; (try dsimp only at hSw); go_simp; (first | done | with_reducible rfl))
          try simp only [Act.put, List.setIfInBounds_toArray, List.set_cons_zero, List.set_cons_succ]
          refine take1 (i := 3) (v := ?v27) (some 13) rfl rfl (by kernel_rfl) (by kernel_rfl) (by kernel_rfl) (fun _ _ _ h => h) (Or.inl ⟨by rfl, ?y27⟩) (by assumption) ?r27
          case y27 => (intro w hSw; (try dsimp only at hSw); go_simp; (first | done | with_reducible rfl))
          try simp only [Act.put, List.setIfInBounds_toArray, List.set_cons_zero, List.set_cons_succ]
          refine wpAnyH_ready (rs := [4]) (by kernel_rfl) (by simp) ?_
          refine AllReadyH.cons rfl (fun K hK => ?_) AllReadyH.nil
          go_simp
          go_at_call 46
          refine (l11One_any q _ true ⟨fun _ => HG.out, fun _ => rfl⟩).mono ?_
          rintro e w2 ⟨rfl, hb'⟩
          have hb2 : Below wr.heap.size wr w2 := Below.trans (Below.drew (Below.refl _ _)) hb'
          clear hb'
          try go_simp
          refine hK.out _ _ (⟨(hb2.cell (p := ⟨b1, _, none⟩) l2).trans p0, (hb2.cell (p := ⟨b1, _, none⟩) l2).trans p1, (hb2.cell (p := ⟨b1, _, none⟩) l2).trans p2, (hb2.cell (p := ⟨b1, _, none⟩) l2).trans p3, (hb2.cell (p := ⟨b1, _, none⟩) l2).trans p4, (hb2.cell (p := ⟨b1, _, none⟩) l2).trans p5, (hb2.cell (p := ⟨b1, _, none⟩) l2).trans p6⟩) (fun hHeld => ?_)
          clear hK K
          try simp only [Act.put, List.setIfInBounds_toArray, List.set_cons_zero, List.set_cons_succ]
          refine take1 (i := 5) (v := ?v28) (some 15) rfl rfl (by kernel_rfl) (by kernel_rfl) (by kernel_rfl) (fun _ _ _ h => h) (Or.inl ⟨by rfl, ?y28⟩) (by assumption) ?r28
          case y28 => (intro w hSw; (try dsimp only at hSw); go_simp; (first | done | with_reducible rfl))
          try simp only [Act.put, List.setIfInBounds_toArray, List.set_cons_zero, List.set_cons_succ]
          refine take1 (i := 6) (v := ?v29) (some 16) rfl rfl (by kernel_rfl) (by kernel_rfl) (by kernel_rfl) (fun _ _ _ h => h) (Or.inl ⟨by rfl, ?y29⟩) (by assumption) ?r29
          case y29 => (intro w hSw; (try dsimp only at hSw); go_simp; (first | done | with_reducible rfl))
          try simp only [Act.put, List.setIfInBounds_toArray, List.set_cons_zero, List.set_cons_succ]
          refine take1 (i := 7) (v := ?v30) (some 17) rfl rfl (by kernel_rfl) (by kernel_rfl) (by kernel_rfl) (fun _ _ _ h => h) (Or.inl ⟨by rfl, ?y30⟩) (by assumption) ?r30
          case y30 => (intro w hSw; (try dsimp only at hSw); go_simp; (first | done | with_reducible rfl))
          try simp only [Act.put, List.setIfInBounds_toArray, List.set_cons_zero, List.set_cons_succ]
          refine take1 (i := 8) (v := ?v31) (some 18) rfl rfl (by kernel_rfl) (by kernel_rfl) (by kernel_rfl) (fun _ _ _ h => h) (Or.inl ⟨by rfl, ?y31⟩) (by assumption) ?r31
          case y31 => (intro w hSw; (try dsimp only at hSw); go_simp; (first | done | with_reducible rfl))
          try simp only [Act.put, List.setIfInBounds_toArray, List.set_cons_zero, List.set_cons_succ]
          refine take1 (i := 9) (v := ?v32) (some 19) rfl rfl (by kernel_rfl) (by kernel_rfl) (by kernel_rfl) (fun _ _ _ h => h) (Or.inl ⟨by rfl, ?y32⟩) (by assumption) ?r32
          case y32 => (intro w hSw; (try dsimp only at hSw); go_simp; (first | done | with_reducible rfl))
          try simp only [Act.put, List.setIfInBounds_toArray, List.set_cons_zero, List.set_cons_succ]
          refine take1 (i := 10) (v := undef) (some 20) rfl rfl (by kernel_rfl) (by kernel_rfl) (by kernel_rfl) (fun _ _ _ h => h) (Or.inr ⟨by rfl, rfl⟩) (by assumption) ?_
          try simp only [Act.put, List.setIfInBounds_toArray, List.set_cons_zero, List.set_cons_succ]
          refine take1 (i := 11) (v := undef) (some 21) rfl rfl (by kernel_rfl) (by kernel_rfl) (by kernel_rfl) (fun _ _ _ h => h) (Or.inr ⟨by rfl, rfl⟩) (by assumption) ?_
          try simp only [Act.put, List.setIfInBounds_toArray, List.set_cons_zero, List.set_cons_succ]
          refine take1 (i := 12) (v := undef) (some 22) rfl rfl (by kernel_rfl) (by kernel_rfl) (by kernel_rfl) (fun _ _ _ h => h) (Or.inr ⟨by rfl, rfl⟩) (by assumption) ?_
          try simp only [Act.put, List.setIfInBounds_toArray, List.set_cons_zero, List.set_cons_succ]
          refine take1 (i := 13) (v := undef) (some 23) rfl rfl (by kernel_rfl) (by kernel_rfl) (by kernel_rfl) (fun _ _ _ h => h) (Or.inr ⟨by rfl, rfl⟩) (by assumption) ?_
          try simp only [Act.put, List.setIfInBounds_toArray, List.set_cons_zero, List.set_cons_succ]
          refine take1 (i := 14) (v := undef) (some 24) rfl rfl (by kernel_rfl) (by kernel_rfl) (by kernel_rfl) (fun _ _ _ h => h) (Or.inr ⟨by rfl, rfl⟩) (by assumption) ?_
          try simp only [Act.put, List.setIfInBounds_toArray, List.set_cons_zero, List.set_cons_succ]
          refine take1 (i := 15) (v := undef) (some 25) rfl rfl (by kernel_rfl) (by kernel_rfl) (by kernel_rfl) (fun _ _ _ h => h) (Or.inr ⟨by rfl, rfl⟩) (by assumption) ?_
          try simp only [Act.put, List.setIfInBounds_toArray, List.set_cons_zero, List.set_cons_succ]
          refine take1 (i := 16) (v := undef) (some 26) rfl rfl (by kernel_rfl) (by kernel_rfl) (by kernel_rfl) (fun _ _ _ h => h) (Or.inr ⟨by rfl, rfl⟩) (by assumption) ?_
          try simp only [Act.put, List.setIfInBounds_toArray, List.set_cons_zero, List.set_cons_succ]
          refine take1 (i := 17) (v := undef) (some 27) rfl rfl (by kernel_rfl) (by kernel_rfl) (by kernel_rfl) (fun _ _ _ h => h) (Or.inr ⟨by rfl, rfl⟩) (by assumption) ?_
          try simp only [Act.put, List.setIfInBounds_toArray, List.set_cons_zero, List.set_cons_succ]
          refine take1 (i := 18) (v := undef) (some 28) rfl rfl (by kernel_rfl) (by kernel_rfl) (by kernel_rfl) (fun _ _ _ h => h) (Or.inr ⟨by rfl, rfl⟩) (by assumption) ?_
          try simp only [Act.put, List.setIfInBounds_toArray, List.set_cons_zero, List.set_cons_succ]
          refine take1 (i := 19) (v := undef) (some 29) rfl rfl (by kernel_rfl) (by kernel_rfl) (by kernel_rfl) (fun _ _ _ h => h) (Or.inr ⟨by rfl, rfl⟩) (by assumption) ?_
          try simp only [Act.put, List.setIfInBounds_toArray, List.set_cons_zero, List.set_cons_succ]
          refine take1 (i := 20) (v := undef) (some 30) rfl rfl (by kernel_rfl) (by kernel_rfl) (by kernel_rfl) (fun _ _ _ h => h) (Or.inr ⟨by rfl, rfl⟩) (by assumption) ?_
          try simp only [Act.put, List.setIfInBounds_toArray, List.set_cons_zero, List.set_cons_succ]
          refine take1 (i := 21) (v := undef) (some 31) rfl rfl (by kernel_rfl) (by kernel_rfl) (by kernel_rfl) (fun _ _ _ h => h) (Or.inr ⟨by rfl, rfl⟩) (by assumption) ?_
          try simp only [Act.put, List.setIfInBounds_toArray, List.set_cons_zero, List.set_cons_succ]
          refine take1 (i := 22) (v := ?v45) (some 32) rfl rfl (by kernel_rfl) (by kernel_rfl) (by kernel_rfl) (fun _ _ _ h => h) (Or.inl ⟨by rfl, ?y45⟩) (by assumption) ?r45
          case y45 => (intro w hSw; (try dsimp only at hSw); go_simp; (first | done | with_reducible rfl))
          try simp only [Act.put, List.setIfInBounds_toArray, List.set_cons_zero, List.set_cons_succ]
          refine take1 (i := 23) (v := ?v46) (some 33) rfl rfl (by kernel_rfl) (by kernel_rfl) (by kernel_rfl) (fun _ _ _ h => h) (Or.inl ⟨by rfl, ?y46⟩) (by assumption) ?r46
          case y46 => (intro w hSw; (try dsimp only at hSw); go_simp; (first | done | with_reducible rfl))
          try simp only [Act.put, List.setIfInBounds_toArray, List.set_cons_zero, List.set_cons_succ]
          refine wpAnyH_done (by kernel_rfl) ?_ _
          go_wp2_with fail
          go_roundw
          case rel => exact ⟨k + 1, by omega, by go_num, HB.out.trans (hb2.mono HB.out.size)⟩
          case measure => simp [intOf]; omega
      · obtain rfl : k = p := by omega
        by_cases hok : okLe ps[k]
        · have hk0 : 0 < k := Classical.byContradiction fun h0 => HX.out hlt ⟨hok, fun h => absurd h h0⟩
          obtain ⟨m, rfl⟩ : ∃ m, k = m + 1 := ⟨k - 1, by omega⟩
          have HG : Hid (okLe ps[m + 1]) := Lib.hid (hok)
          have p0 : wr.cell? ⟨b1, o1 + (m + 1) * 7, none⟩ = some (.int .i64 ps[m + 1].id) := k1 0 (by omega)
          have p1 : wr.cell? ⟨b1, o1 + (m + 1) * 7 + 1, none⟩ = some (.int .i64 ps[m + 1].cls) := k1 1 (by omega)
          have p2 : wr.cell? ⟨b1, o1 + (m + 1) * 7 + 2, none⟩ = some (.int .i64 ps[m + 1].tch) := k1 2 (by omega)
          have p3 : wr.cell? ⟨b1, o1 + (m + 1) * 7 + 3, none⟩ = some (.int .i64 ps[m + 1].room) := k1 3 (by omega)
          have p4 : wr.cell? ⟨b1, o1 + (m + 1) * 7 + 4, none⟩ = some (.int .i64 ps[m + 1].day) := k1 4 (by omega)
          have p5 : wr.cell? ⟨b1, o1 + (m + 1) * 7 + 5, none⟩ = some (.int .i64 ps[m + 1].bgn) := k1 5 (by omega)
          have p6 : wr.cell? ⟨b1, o1 + (m + 1) * 7 + 6, none⟩ = some (.int .i64 ps[m + 1].mins) := k1 6 (by omega)
          obtain ⟨b1', o1', e1, _, k2⟩ := R1.out _ hb m (by omega)
          obtain ⟨rfl, rfl⟩ : b1 = b1' ∧ o1 = o1' := by injection e1 with e1; injection e1 with e1 e2; exact ⟨e1, e2⟩
          have p7 : wr.cell? ⟨b1, o1 + m * 7, none⟩ = some (.int .i64 ps[m].id) := k2 0 (by omega)
          have hcmp : decide (ps[m + 1].id ≤ ps[m].id) = true := decide_eq_true (Classical.byContradiction fun hh => HX.out hlt ⟨hok, fun _ => by simp; omega⟩)
          have z3 : (0 : Int) ≤ (m : Int) := by omega
          have z4 : (m : Int) < (ps.length : Int) := by omega
          have z5 : (m : Int) + 1 < (ps.length : Int) := by omega
          have z6 : (0 : Int) ≤ (m : Int) + 1 := by omega
          have z7 : IntKind.i64.wrap (m : Int) = (m : Int) := by rw [IntKind.wrap_i64]; omega
          clear hb k1 k2 e1
          generalize ps[m + 1] = q at p0 p1 p2 p3 p4 p5 p6 hcmp HG
          generalize ps[m] = q2 at p7 hcmp
          go_wp2_with fail
          refine wp_region_held_drew (S := (fun w' => w'.cell? ⟨b1, o1 + (m + 1) * 7, none⟩ = some (.int .i64 q.id) ∧ w'.cell? ⟨b1, o1 + (m + 1) * 7 + 1, none⟩ = some (.int .i64 q.cls) ∧ w'.cell? ⟨b1, o1 + (m + 1) * 7 + 2, none⟩ = some (.int .i64 q.tch) ∧ w'.cell? ⟨b1, o1 + (m + 1) * 7 + 3, none⟩ = some (.int .i64 q.room) ∧ w'.cell? ⟨b1, o1 + (m + 1) * 7 + 4, none⟩ = some (.int .i64 q.day) ∧ w'.cell? ⟨b1, o1 + (m + 1) * 7 + 5, none⟩ = some (.int .i64 q.bgn) ∧ w'.cell? ⟨b1, o1 + (m + 1) * 7 + 6, none⟩ = some (.int .i64 q.mins) ∧ w'.cell? ⟨b1, o1 + m * 7, none⟩ = some (.int .i64 q2.id))) (by kernel_rfl) (⟨p0, p1, p2, p3, p4, p5, p6, p7⟩) (fun hHeld => ?_)
          refine take1 (i := 0) (v := ?v47) (some 10) rfl rfl (by kernel_rfl) (by kernel_rfl) (by kernel_rfl) (fun _ _ _ h => h) (Or.inl ⟨by rfl, ?y47⟩) (by assumption) ?r47
          case y47 => (intro w hSw; (try dsimp only at hSw); go_simp; (first | done | with_reducible rfl))
          try simp only [Act.put, List.setIfInBounds_toArray, List.set_cons_zero, List.set_cons_succ]
          refine take1 (i := 1) (v := ?v48) (some 11) rfl rfl (by kernel_rfl) (by kernel_rfl) (by kernel_rfl) (fun _ _ _ h => h) (Or.inl ⟨by rfl, ?y48⟩) (by assumption) ?r48
          case y48 => (intro w hSw; (try dsimp only at hSw); go_simp; (first | done | with_reducible rfl))
          try simp only [Act.put, List.setIfInBounds_toArray, List.set_cons_zero, List.set_cons_succ]
          refine take1 (i := 2) (v := ?v49) (some 12) rfl rfl (by kernel_rfl) (by kernel_rfl) (by kernel_rfl) (fun _ _ _ h => h) (Or.inl ⟨by rfl, ?y49⟩) (by assumption) ?r49
          case y49 => (intro w hSw; (try dsimp only at hSw); go_simp; (first | done | with_reducible rfl))
          try simp only [Act.put, List.setIfInBounds_toArray, List.set_cons_zero, List.set_cons_succ]
          refine take1 (i := 3) (v := ?v50) (some 13) rfl rfl (by kernel_rfl) (by kernel_rfl) (by kernel_rfl) (fun _ _ _ h => h) (Or.inl ⟨by rfl, ?y50⟩) (by assumption) ?r50
          case y50 => (intro w hSw; (try dsimp only at hSw); go_simp; (first | done | with_reducible rfl))
          try simp only [Act.put, List.setIfInBounds_toArray, List.set_cons_zero, List.set_cons_succ]
          refine wpAnyH_ready (rs := [4]) (by kernel_rfl) (by simp) ?_
          refine AllReadyH.cons rfl (fun K hK => ?_) AllReadyH.nil
          go_simp
          go_at_call 46
          refine (l11One_any q _ true ⟨fun _ => HG.out, fun _ => rfl⟩).mono ?_
          rintro e w2 ⟨rfl, hb'⟩
          have hb2 : Below wr.heap.size wr w2 := Below.trans (Below.drew (Below.refl _ _)) hb'
          clear hb'
          try go_simp
          refine hK.out _ _ (⟨(hb2.cell (p := ⟨b1, _, none⟩) l2).trans p0, (hb2.cell (p := ⟨b1, _, none⟩) l2).trans p1, (hb2.cell (p := ⟨b1, _, none⟩) l2).trans p2, (hb2.cell (p := ⟨b1, _, none⟩) l2).trans p3, (hb2.cell (p := ⟨b1, _, none⟩) l2).trans p4, (hb2.cell (p := ⟨b1, _, none⟩) l2).trans p5, (hb2.cell (p := ⟨b1, _, none⟩) l2).trans p6, (hb2.cell (p := ⟨b1, _, none⟩) l2).trans p7⟩) (fun hHeld => ?_)
          clear hK K
          try simp only [Act.put, List.setIfInBounds_toArray, List.set_cons_zero, List.set_cons_succ]
          refine take1 (i := 5) (v := ?v51) (some 15) rfl rfl (by kernel_rfl) (by kernel_rfl) (by kernel_rfl) (fun _ _ _ h => h) (Or.inl ⟨by rfl, ?y51⟩) (by assumption) ?r51
          case y51 => (intro w hSw; (try dsimp only at hSw); go_simp; (first | done | with_reducible rfl))
          try simp only [Act.put, List.setIfInBounds_toArray, List.set_cons_zero, List.set_cons_succ]
          refine take1 (i := 6) (v := ?v52) (some 16) rfl rfl (by kernel_rfl) (by kernel_rfl) (by kernel_rfl) (fun _ _ _ h => h) (Or.inl ⟨by rfl, ?y52⟩) (by assumption) ?r52
          case y52 => (intro w hSw; (try dsimp only at hSw); go_simp; (first | done | with_reducible rfl))
          try simp only [Act.put, List.setIfInBounds_toArray, List.set_cons_zero, List.set_cons_succ]
          refine take1 (i := 7) (v := ?v53) (some 17) rfl rfl (by kernel_rfl) (by kernel_rfl) (by kernel_rfl) (fun _ _ _ h => h) (Or.inl ⟨by rfl, ?y53⟩) (by assumption) ?r53
          case y53 => (intro w hSw; (try dsimp only at hSw); go_simp; (first | done | with_reducible rfl))
          try simp only [Act.put, List.setIfInBounds_toArray, List.set_cons_zero, List.set_cons_succ]
          refine take1 (i := 8) (v := ?v54) (some 18) rfl rfl (by kernel_rfl) (by kernel_rfl) (by kernel_rfl) (fun _ _ _ h => h) (Or.inl ⟨by rfl, ?y54⟩) (by assumption) ?r54
          case y54 => (intro w hSw; (try dsimp only at hSw); go_simp; (first | done | with_reducible rfl))
          try simp only [Act.put, List.setIfInBounds_toArray, List.set_cons_zero, List.set_cons_succ]
          refine take1 (i := 9) (v := ?v55) (some 19) rfl rfl (by kernel_rfl) (by kernel_rfl) (by kernel_rfl) (fun _ _ _ h => h) (Or.inl ⟨by rfl, ?y55⟩) (by assumption) ?r55
          case y55 => (intro w hSw; (try dsimp only at hSw); go_simp; (first | done | with_reducible rfl))
          try simp only [Act.put, List.setIfInBounds_toArray, List.set_cons_zero, List.set_cons_succ]
          refine take1 (i := 10) (v := ?v56) (some 20) rfl rfl (by kernel_rfl) (by kernel_rfl) (by kernel_rfl) (fun _ _ _ h => h) (Or.inl ⟨by rfl, ?y56⟩) (by assumption) ?r56
          case y56 => (intro w hSw; (try dsimp only at hSw); go_simp; (first | done | with_reducible rfl))
          try simp only [Act.put, List.setIfInBounds_toArray, List.set_cons_zero, List.set_cons_succ]
          refine take1 (i := 11) (v := ?v57) (some 21) rfl rfl (by kernel_rfl) (by kernel_rfl) (by kernel_rfl) (fun _ _ _ h => h) (Or.inl ⟨by rfl, ?y57⟩) (by assumption) ?r57
          case y57 => (intro w hSw; (try dsimp only at hSw); go_simp; (first | done | with_reducible rfl))
          try simp only [Act.put, List.setIfInBounds_toArray, List.set_cons_zero, List.set_cons_succ]
          refine take1 (i := 12) (v := ?v58) (some 22) rfl rfl (by kernel_rfl) (by kernel_rfl) (by kernel_rfl) (fun _ _ _ h => h) (Or.inl ⟨by rfl, ?y58⟩) (by assumption) ?r58
          case y58 => (intro w hSw; (try dsimp only at hSw); go_simp; (first | done | with_reducible rfl))
          try simp only [Act.put, List.setIfInBounds_toArray, List.set_cons_zero, List.set_cons_succ]
          refine take1 (i := 13) (v := ?v59) (some 23) rfl rfl (by kernel_rfl) (by kernel_rfl) (by kernel_rfl) (fun _ _ _ h => h) (Or.inl ⟨by rfl, ?y59⟩) (by assumption) ?r59
          case y59 => (intro w hSw; (try dsimp only at hSw); go_simp; (first | done | with_reducible rfl))
          try simp only [Act.put, List.setIfInBounds_toArray, List.set_cons_zero, List.set_cons_succ]
          refine take1 (i := 14) (v := ?v60) (some 24) rfl rfl (by kernel_rfl) (by kernel_rfl) (by kernel_rfl) (fun _ _ _ h => h) (Or.inl ⟨by rfl, ?y60⟩) (by assumption) ?r60
          case y60 => (intro w hSw; (try dsimp only at hSw); go_simp; (first | done | with_reducible rfl))
          try simp only [Act.put, List.setIfInBounds_toArray, List.set_cons_zero, List.set_cons_succ]
          refine take1 (i := 15) (v := ?v61) (some 25) rfl rfl (by kernel_rfl) (by kernel_rfl) (by kernel_rfl) (fun _ _ _ h => h) (Or.inl ⟨by rfl, ?y61⟩) (by assumption) ?r61
          case y61 => (intro w hSw; (try dsimp only at hSw); go_simp; (first | done | with_reducible rfl))
          try simp only [Act.put, List.setIfInBounds_toArray, List.set_cons_zero, List.set_cons_succ]
          refine take1 (i := 16) (v := ?v62) (some 26) rfl rfl (by kernel_rfl) (by kernel_rfl) (by kernel_rfl) (fun _ _ _ h => h) (Or.inl ⟨by rfl, ?y62⟩) (by assumption) ?r62
          case y62 => (intro w hSw; (try dsimp only at hSw); go_simp; (first | done | with_reducible rfl))
          try simp only [Act.put, List.setIfInBounds_toArray, List.set_cons_zero, List.set_cons_succ]
          refine take1 (i := 17) (v := ?v63) (some 27) rfl rfl (by kernel_rfl) (by kernel_rfl) (by kernel_rfl) (fun _ _ _ h => h) (Or.inl ⟨by rfl, ?y63⟩) (by assumption) ?r63
          case y63 => (intro w hSw; (try dsimp only at hSw); go_simp; (first | done | with_reducible rfl))
          try simp only [Act.put, List.setIfInBounds_toArray, List.set_cons_zero, List.set_cons_succ]
          refine take1 (i := 18) (v := ?v64) (some 28) rfl rfl (by kernel_rfl) (by kernel_rfl) (by kernel_rfl) (fun _ _ _ h => h) (Or.inl ⟨by rfl, ?y64⟩) (by assumption) ?r64
          case y64 => (intro w hSw; (try dsimp only at hSw); go_simp; (first | done | with_reducible rfl))
          try simp only [Act.put, List.setIfInBounds_toArray, List.set_cons_zero, List.set_cons_succ]
          refine take1 (i := 19) (v := ?v65) (some 29) rfl rfl (by kernel_rfl) (by kernel_rfl) (by kernel_rfl) (fun _ _ _ h => h) (Or.inl ⟨by rfl, ?y65⟩) (by assumption) ?r65
          case y65 => (intro w hSw; (try dsimp only at hSw); go_simp; (first | done | with_reducible rfl))
          try simp only [Act.put, List.setIfInBounds_toArray, List.set_cons_zero, List.set_cons_succ]
          refine take1 (i := 20) (v := ?v66) (some 30) rfl rfl (by kernel_rfl) (by kernel_rfl) (by kernel_rfl) (fun _ _ _ h => h) (Or.inl ⟨by rfl, ?y66⟩) (by assumption) ?r66
          case y66 => (intro w hSw; (try dsimp only at hSw); go_simp; (first | done | with_reducible rfl))
          try simp only [Act.put, List.setIfInBounds_toArray, List.set_cons_zero, List.set_cons_succ]
          refine take1 (i := 21) (v := ?v67) (some 31) rfl rfl (by kernel_rfl) (by kernel_rfl) (by kernel_rfl) (fun _ _ _ h => h) (Or.inl ⟨by rfl, ?y67⟩) (by assumption) ?r67
          case y67 => (intro w hSw; (try dsimp only at hSw); go_simp; (first | done | with_reducible rfl))
          try simp only [Act.put, List.setIfInBounds_toArray, List.set_cons_zero, List.set_cons_succ]
          refine take1 (i := 22) (v := ?v68) (some 32) rfl rfl (by kernel_rfl) (by kernel_rfl) (by kernel_rfl) (fun _ _ _ h => h) (Or.inl ⟨by rfl, ?y68⟩) (by assumption) ?r68
          case y68 => (intro w hSw; (try dsimp only at hSw); go_simp; (first | done | with_reducible rfl))
          try simp only [Act.put, List.setIfInBounds_toArray, List.set_cons_zero, List.set_cons_succ]
          refine take1 (i := 23) (v := ?v69) (some 33) rfl rfl (by kernel_rfl) (by kernel_rfl) (by kernel_rfl) (fun _ _ _ h => h) (Or.inl ⟨by rfl, ?y69⟩) (by assumption) ?r69
          case y69 => (intro w hSw; (try dsimp only at hSw); go_simp; (first | done | with_reducible rfl))
          try simp only [Act.put, List.setIfInBounds_toArray, List.set_cons_zero, List.set_cons_succ]
          refine wpAnyH_done (by kernel_rfl) ?_ _
          go_wp2_with fail
          go_ret
          exact ⟨ret_bool (HR1.out (by omega)).symm, HB.out.trans (hb2.mono HB.out.size)⟩
        · have HG := Lib.hid hok
          have p0 : wr.cell? ⟨b1, o1 + k * 7, none⟩ = some (.int .i64 ps[k].id) := k1 0 (by omega)
          have p1 : wr.cell? ⟨b1, o1 + k * 7 + 1, none⟩ = some (.int .i64 ps[k].cls) := k1 1 (by omega)
          have p2 : wr.cell? ⟨b1, o1 + k * 7 + 2, none⟩ = some (.int .i64 ps[k].tch) := k1 2 (by omega)
          have p3 : wr.cell? ⟨b1, o1 + k * 7 + 3, none⟩ = some (.int .i64 ps[k].room) := k1 3 (by omega)
          have p4 : wr.cell? ⟨b1, o1 + k * 7 + 4, none⟩ = some (.int .i64 ps[k].day) := k1 4 (by omega)
          have p5 : wr.cell? ⟨b1, o1 + k * 7 + 5, none⟩ = some (.int .i64 ps[k].bgn) := k1 5 (by omega)
          have p6 : wr.cell? ⟨b1, o1 + k * 7 + 6, none⟩ = some (.int .i64 ps[k].mins) := k1 6 (by omega)
          clear hb k1 hok
          generalize ps[k] = q at p0 p1 p2 p3 p4 p5 p6 HG
          go_wp2_with fail
          refine wp_region_held_drew (S := (fun w' => w'.cell? ⟨b1, o1 + k * 7, none⟩ = some (.int .i64 q.id) ∧ w'.cell? ⟨b1, o1 + k * 7 + 1, none⟩ = some (.int .i64 q.cls) ∧ w'.cell? ⟨b1, o1 + k * 7 + 2, none⟩ = some (.int .i64 q.tch) ∧ w'.cell? ⟨b1, o1 + k * 7 + 3, none⟩ = some (.int .i64 q.room) ∧ w'.cell? ⟨b1, o1 + k * 7 + 4, none⟩ = some (.int .i64 q.day) ∧ w'.cell? ⟨b1, o1 + k * 7 + 5, none⟩ = some (.int .i64 q.bgn) ∧ w'.cell? ⟨b1, o1 + k * 7 + 6, none⟩ = some (.int .i64 q.mins))) (by kernel_rfl) (⟨p0, p1, p2, p3, p4, p5, p6⟩) (fun hHeld => ?_)
          refine take1 (i := 0) (v := ?v70) (some 10) rfl rfl (by kernel_rfl) (by kernel_rfl) (by kernel_rfl) (fun _ _ _ h => h) (Or.inl ⟨by rfl, ?y70⟩) (by assumption) ?r70
          case y70 => (intro w hSw; (try dsimp only at hSw); go_simp; (first | done | with_reducible rfl))
          try simp only [Act.put, List.setIfInBounds_toArray, List.set_cons_zero, List.set_cons_succ]
          refine take1 (i := 1) (v := ?v71) (some 11) rfl rfl (by kernel_rfl) (by kernel_rfl) (by kernel_rfl) (fun _ _ _ h => h) (Or.inl ⟨by rfl, ?y71⟩) (by assumption) ?r71
          case y71 => (intro w hSw; (try dsimp only at hSw); go_simp; (first | done | with_reducible rfl))
          try simp only [Act.put, List.setIfInBounds_toArray, List.set_cons_zero, List.set_cons_succ]
          refine take1 (i := 2) (v := ?v72) (some 12) rfl rfl (by kernel_rfl) (by kernel_rfl) (by kernel_rfl) (fun _ _ _ h => h) (Or.inl ⟨by rfl, ?y72⟩) (by assumption) ?r72
          case y72 => (intro w hSw; (try dsimp only at hSw); go_simp; (first | done | with_reducible rfl))
          try simp only [Act.put, List.setIfInBounds_toArray, List.set_cons_zero, List.set_cons_succ]
          refine take1 (i := 3) (v := ?v73) (some 13) rfl rfl (by kernel_rfl) (by kernel_rfl) (by kernel_rfl) (fun _ _ _ h => h) (Or.inl ⟨by rfl, ?y73⟩) (by assumption) ?r73
          case y73 => (intro w hSw; (try dsimp only at hSw); go_simp; (first | done | with_reducible rfl))
          try simp only [Act.put, List.setIfInBounds_toArray, List.set_cons_zero, List.set_cons_succ]
          refine wpAnyH_ready (rs := [4]) (by kernel_rfl) (by simp) ?_
          refine AllReadyH.cons rfl (fun K hK => ?_) AllReadyH.nil
          go_simp
          go_at_call 46
          refine (l11One_any q _ false ⟨fun e => by simp at e, fun h => absurd h HG.out⟩).mono ?_
          rintro e w2 ⟨rfl, hb'⟩
          have hb2 : Below wr.heap.size wr w2 := Below.trans (Below.drew (Below.refl _ _)) hb'
          clear hb'
          try go_simp
          refine hK.out _ _ (⟨(hb2.cell (p := ⟨b1, _, none⟩) l2).trans p0, (hb2.cell (p := ⟨b1, _, none⟩) l2).trans p1, (hb2.cell (p := ⟨b1, _, none⟩) l2).trans p2, (hb2.cell (p := ⟨b1, _, none⟩) l2).trans p3, (hb2.cell (p := ⟨b1, _, none⟩) l2).trans p4, (hb2.cell (p := ⟨b1, _, none⟩) l2).trans p5, (hb2.cell (p := ⟨b1, _, none⟩) l2).trans p6⟩) (fun hHeld => ?_)
          clear hK K
          try simp only [Act.put, List.setIfInBounds_toArray, List.set_cons_zero, List.set_cons_succ]
          refine take1 (i := 5) (v := ?v74) (some 15) rfl rfl (by kernel_rfl) (by kernel_rfl) (by kernel_rfl) (fun _ _ _ h => h) (Or.inl ⟨by rfl, ?y74⟩) (by assumption) ?r74
          case y74 => (intro w hSw; (try dsimp only at hSw); go_simp; (first | done | with_reducible rfl))
          try simp only [Act.put, List.setIfInBounds_toArray, List.set_cons_zero, List.set_cons_succ]
          refine take1 (i := 6) (v := ?v75) (some 16) rfl rfl (by kernel_rfl) (by kernel_rfl) (by kernel_rfl) (fun _ _ _ h => h) (Or.inl ⟨by rfl, ?y75⟩) (by assumption) ?r75
          case y75 => (intro w hSw; (try dsimp only at hSw); go_simp; (first | done | with_reducible rfl))
          try simp only [Act.put, List.setIfInBounds_toArray, List.set_cons_zero, List.set_cons_succ]
          refine take1 (i := 7) (v := undef) (some 17) rfl rfl (by kernel_rfl) (by kernel_rfl) (by kernel_rfl) (fun _ _ _ h => h) (Or.inr ⟨by rfl, rfl⟩) (by assumption) ?_
          try simp only [Act.put, List.setIfInBounds_toArray, List.set_cons_zero, List.set_cons_succ]
          refine take1 (i := 8) (v := undef) (some 18) rfl rfl (by kernel_rfl) (by kernel_rfl) (by kernel_rfl) (fun _ _ _ h => h) (Or.inr ⟨by rfl, rfl⟩) (by assumption) ?_
          try simp only [Act.put, List.setIfInBounds_toArray, List.set_cons_zero, List.set_cons_succ]
          refine take1 (i := 9) (v := undef) (some 19) rfl rfl (by kernel_rfl) (by kernel_rfl) (by kernel_rfl) (fun _ _ _ h => h) (Or.inr ⟨by rfl, rfl⟩) (by assumption) ?_
          try simp only [Act.put, List.setIfInBounds_toArray, List.set_cons_zero, List.set_cons_succ]
          refine take1 (i := 10) (v := undef) (some 20) rfl rfl (by kernel_rfl) (by kernel_rfl) (by kernel_rfl) (fun _ _ _ h => h) (Or.inr ⟨by rfl, rfl⟩) (by assumption) ?_
          try simp only [Act.put, List.setIfInBounds_toArray, List.set_cons_zero, List.set_cons_succ]
          refine take1 (i := 11) (v := undef) (some 21) rfl rfl (by kernel_rfl) (by kernel_rfl) (by kernel_rfl) (fun _ _ _ h => h) (Or.inr ⟨by rfl, rfl⟩) (by assumption) ?_
          try simp only [Act.put, List.setIfInBounds_toArray, List.set_cons_zero, List.set_cons_succ]
          refine take1 (i := 12) (v := undef) (some 22) rfl rfl (by kernel_rfl) (by kernel_rfl) (by kernel_rfl) (fun _ _ _ h => h) (Or.inr ⟨by rfl, rfl⟩) (by assumption) ?_
          try simp only [Act.put, List.setIfInBounds_toArray, List.set_cons_zero, List.set_cons_succ]
          refine take1 (i := 13) (v := undef) (some 23) rfl rfl (by kernel_rfl) (by kernel_rfl) (by kernel_rfl) (fun _ _ _ h => h) (Or.inr ⟨by rfl, rfl⟩) (by assumption) ?_
          try simp only [Act.put, List.setIfInBounds_toArray, List.set_cons_zero, List.set_cons_succ]
          refine take1 (i := 14) (v := undef) (some 24) rfl rfl (by kernel_rfl) (by kernel_rfl) (by kernel_rfl) (fun _ _ _ h => h) (Or.inr ⟨by rfl, rfl⟩) (by assumption) ?_
          try simp only [Act.put, List.setIfInBounds_toArray, List.set_cons_zero, List.set_cons_succ]
          refine take1 (i := 15) (v := undef) (some 25) rfl rfl (by kernel_rfl) (by kernel_rfl) (by kernel_rfl) (fun _ _ _ h => h) (Or.inr ⟨by rfl, rfl⟩) (by assumption) ?_
          try simp only [Act.put, List.setIfInBounds_toArray, List.set_cons_zero, List.set_cons_succ]
          refine take1 (i := 16) (v := undef) (some 26) rfl rfl (by kernel_rfl) (by kernel_rfl) (by kernel_rfl) (fun _ _ _ h => h) (Or.inr ⟨by rfl, rfl⟩) (by assumption) ?_
          try simp only [Act.put, List.setIfInBounds_toArray, List.set_cons_zero, List.set_cons_succ]
          refine take1 (i := 17) (v := undef) (some 27) rfl rfl (by kernel_rfl) (by kernel_rfl) (by kernel_rfl) (fun _ _ _ h => h) (Or.inr ⟨by rfl, rfl⟩) (by assumption) ?_
          try simp only [Act.put, List.setIfInBounds_toArray, List.set_cons_zero, List.set_cons_succ]
          refine take1 (i := 18) (v := undef) (some 28) rfl rfl (by kernel_rfl) (by kernel_rfl) (by kernel_rfl) (fun _ _ _ h => h) (Or.inr ⟨by rfl, rfl⟩) (by assumption) ?_
          try simp only [Act.put, List.setIfInBounds_toArray, List.set_cons_zero, List.set_cons_succ]
          refine take1 (i := 19) (v := undef) (some 29) rfl rfl (by kernel_rfl) (by kernel_rfl) (by kernel_rfl) (fun _ _ _ h => h) (Or.inr ⟨by rfl, rfl⟩) (by assumption) ?_
          try simp only [Act.put, List.setIfInBounds_toArray, List.set_cons_zero, List.set_cons_succ]
          refine take1 (i := 20) (v := undef) (some 30) rfl rfl (by kernel_rfl) (by kernel_rfl) (by kernel_rfl) (fun _ _ _ h => h) (Or.inr ⟨by rfl, rfl⟩) (by assumption) ?_
          try simp only [Act.put, List.setIfInBounds_toArray, List.set_cons_zero, List.set_cons_succ]
          refine take1 (i := 21) (v := undef) (some 31) rfl rfl (by kernel_rfl) (by kernel_rfl) (by kernel_rfl) (fun _ _ _ h => h) (Or.inr ⟨by rfl, rfl⟩) (by assumption) ?_
          try simp only [Act.put, List.setIfInBounds_toArray, List.set_cons_zero, List.set_cons_succ]
          refine take1 (i := 22) (v := undef) (some 32) rfl rfl (by kernel_rfl) (by kernel_rfl) (by kernel_rfl) (fun _ _ _ h => h) (Or.inr ⟨by rfl, rfl⟩) (by assumption) ?_
          try simp only [Act.put, List.setIfInBounds_toArray, List.set_cons_zero, List.set_cons_succ]
          refine take1 (i := 23) (v := ?v92) (some 33) rfl rfl (by kernel_rfl) (by kernel_rfl) (by kernel_rfl) (fun _ _ _ h => h) (Or.inl ⟨by rfl, ?y92⟩) (by assumption) ?r92
          case y92 => (intro w hSw; (try dsimp only at hSw); go_simp; (first | done | with_reducible rfl))
          try simp only [Act.put, List.setIfInBounds_toArray, List.set_cons_zero, List.set_cons_succ]
          refine wpAnyH_done (by kernel_rfl) ?_ _
          go_wp2_with fail
          go_ret
          exact ⟨ret_bool (HR1.out (by omega)).symm, HB.out.trans (hb2.mono HB.out.size)⟩
    · have HE : Hid (r = decide (ps.length ≤ 12)) := Lib.hid (HR2.out (by omega))
      clear hb
      by_cases h12 : ps.length ≤ 12
      · have h12' : (ps.length : Int) ≤ 12 := by omega
        have HE2 : Hid (r = true) := Lib.hid (by rw [HE.out]; simp [h12])
        go_wp2_with fail
        go_ret
        exact ⟨ret_bool HE2.out.symm, HB.out⟩
      · have h12' : ¬ (ps.length : Int) ≤ 12 := by omega
        have HE2 : Hid (r = false) := Lib.hid (by rw [HE.out]; simp [h12])
        go_wp2_with fail
        go_ret
        exact ⟨ret_bool HE2.out.symm, HB.out⟩
theorem l11Good_any (v : Value) (ps : List Les) (w : World) (h : RowsR 7 lesC w v ps) (r : Bool) (hr : r = true ↔ okLs ps) :
    Calls Tryd.prog 25 #[v] w fun e w' => e = .returned (.bool r) ∧ Below w.heap.size w w' := by
  obtain ⟨p, hp, hpre, hx⟩ := first_bad ps.length (fun i h => okLsAt ps i h)
  refine l11Good_scan v ps w h p hp hpre hx r (fun hlt => Bool.eq_false_iff.2 fun e => hx hlt ((hr.1 e).1 p hlt)) (fun he => ?_)
  by_cases h12 : ps.length ≤ 12
  · rw [decide_eq_true h12]; exact hr.2 ⟨fun i hi => hpre i hi (by omega), h12⟩
  · rw [decide_eq_false h12]; exact Bool.eq_false_iff.2 fun e => h12 (hr.1 e).2
theorem l11Good_yes (v : Value) (ps : List Les) (w : World) (h : RowsR 7 lesC w v ps) (ho : okLs ps) :
    Calls Tryd.prog 25 #[v] w fun e w' => e = .returned (.bool true) ∧ Below w.heap.size w w' := l11Good_any v ps w h true ⟨fun _ => ho, fun _ => rfl⟩
theorem l11Good_no (v : Value) (ps : List Les) (w : World) (h : RowsR 7 lesC w v ps) (ho : ¬ okLs ps) :
    Calls Tryd.prog 25 #[v] w fun e w' => e = .returned (.bool false) ∧ Below w.heap.size w w' := l11Good_any v ps w h false ⟨fun e => by simp at e, fun h => absurd h ho⟩
end Go.Proofs.YtblbeoeklkcamaaDoor
