/- The program's tests of lessons. -/
import Derived.Test.YtblbeoeklkcamaaDoorLe2
namespace Go.Proofs.YtblbeoeklkcamaaDoor
set_option linter.unusedVariables false
open Go.RowKit

set_option maxRecDepth 100000 in
set_option maxHeartbeats 400000 in
theorem isClass_yes (c : Int) (w : World) (h : 1 ≤ c ∧ c ≤ 9) :
    Calls Tryd.prog 37 #[.int .i64 c] w fun e w' => e = .returned (.bool true) ∧ w' = w := by
  obtain ⟨h1, h2⟩ := h
  go_enter Tryd.func37, Tryd.ntmps37
  go_wp2_with fail
  go_ret
  exact ⟨rfl, rfl⟩
set_option maxRecDepth 100000 in
set_option maxHeartbeats 400000 in
theorem isClass_no (c : Int) (w : World) (h : ¬ (1 ≤ c ∧ c ≤ 9)) :
    Calls Tryd.prog 37 #[.int .i64 c] w fun e w' => e = .returned (.bool false) ∧ w' = w := by
  by_cases h1 : 1 ≤ c
  · have h2 : ¬ c ≤ 9 := fun h2 => h ⟨h1, h2⟩
    clear h
    go_enter Tryd.func37, Tryd.ntmps37
    go_wp2_with fail
    go_ret
    exact ⟨rfl, rfl⟩
  · clear h
    go_enter Tryd.func37, Tryd.ntmps37
    go_wp2_with fail
    go_ret
    exact ⟨rfl, rfl⟩
set_option maxRecDepth 100000 in
set_option maxHeartbeats 400000 in
theorem isWeekday_yes (c : Int) (w : World) (h : 0 ≤ c ∧ c ≤ 6) :
    Calls Tryd.prog 54 #[.int .i64 c] w fun e w' => e = .returned (.bool true) ∧ w' = w := by
  obtain ⟨h1, h2⟩ := h
  go_enter Tryd.func54, Tryd.ntmps54
  go_wp2_with fail
  go_ret
  exact ⟨rfl, rfl⟩
set_option maxRecDepth 100000 in
set_option maxHeartbeats 400000 in
theorem isWeekday_no (c : Int) (w : World) (h : ¬ (0 ≤ c ∧ c ≤ 6)) :
    Calls Tryd.prog 54 #[.int .i64 c] w fun e w' => e = .returned (.bool false) ∧ w' = w := by
  by_cases h1 : 0 ≤ c
  · have h2 : ¬ c ≤ 6 := fun h2 => h ⟨h1, h2⟩
    clear h
    go_enter Tryd.func54, Tryd.ntmps54
    go_wp2_with fail
    go_ret
    exact ⟨rfl, rfl⟩
  · clear h
    go_enter Tryd.func54, Tryd.ntmps54
    go_wp2_with fail
    go_ret
    exact ⟨rfl, rfl⟩
set_option maxRecDepth 100000 in
set_option maxHeartbeats 1600000 in
theorem isTime_any (d b m : Int) (w : World) (r : Bool) (hr : r = true ↔ (0 ≤ d ∧ d ≤ 6) ∧ okTm b m) :
    Calls Tryd.prog 32 #[.int .i64 d, .int .i64 b, .int .i64 m] w fun e w' => e = .returned (.bool r) ∧ w' = w := by
  have HR : Hid (r = true ↔ (0 ≤ d ∧ d ≤ 6) ∧ (480 ≤ b ∧ b ≤ 1140) ∧ (m = 30 ∨ m = 45 ∨ m = 60 ∨ m = 90)) := Lib.hid hr
  clear hr
  by_cases hd : 0 ≤ d ∧ d ≤ 6
  · have HD := Lib.hid hd
    clear hd
    by_cases h1 : b < 480
    · have HN : Hid (r = false) := Lib.hid (Bool.eq_false_iff.2 fun e => by have := (HR.out.1 e).2.1; omega)
      go_enter Tryd.func32, Tryd.ntmps32
      go_wp2_with fail
      refine (isWeekday_yes _ _ HD.out).mono ?_
      rintro e w' ⟨rfl, hw⟩
      subst w'
      go_wp2_with fail
      go_ret
      exact ⟨ret_bool HN.out.symm, rfl⟩
    · by_cases h2 : 1140 < b
      · have HN : Hid (r = false) := Lib.hid (Bool.eq_false_iff.2 fun e => by have := (HR.out.1 e).2.1; omega)
        go_enter Tryd.func32, Tryd.ntmps32
        go_wp2_with fail
        refine (isWeekday_yes _ _ HD.out).mono ?_
        rintro e w' ⟨rfl, hw⟩
        subst w'
        go_wp2_with fail
        go_ret
        exact ⟨ret_bool HN.out.symm, rfl⟩
      · have HB : Hid (480 ≤ b ∧ b ≤ 1140) := Lib.hid (by omega)
        by_cases hm : m = 30 ∨ m = 45 ∨ m = 60 ∨ m = 90
        · have HN : Hid (r = true) := Lib.hid (HR.out.2 ⟨HD.out, HB.out, hm⟩)
          rcases hm with rfl | rfl | rfl | rfl
          · go_enter Tryd.func32, Tryd.ntmps32
            go_wp2_with fail
            refine (isWeekday_yes _ _ HD.out).mono ?_
            rintro e w' ⟨rfl, hw⟩
            subst w'
            go_wp2_with fail
            go_ret
            exact ⟨ret_bool HN.out.symm, rfl⟩
          · go_enter Tryd.func32, Tryd.ntmps32
            go_wp2_with fail
            refine (isWeekday_yes _ _ HD.out).mono ?_
            rintro e w' ⟨rfl, hw⟩
            subst w'
            go_wp2_with fail
            go_ret
            exact ⟨ret_bool HN.out.symm, rfl⟩
          · go_enter Tryd.func32, Tryd.ntmps32
            go_wp2_with fail
            refine (isWeekday_yes _ _ HD.out).mono ?_
            rintro e w' ⟨rfl, hw⟩
            subst w'
            go_wp2_with fail
            go_ret
            exact ⟨ret_bool HN.out.symm, rfl⟩
          · go_enter Tryd.func32, Tryd.ntmps32
            go_wp2_with fail
            refine (isWeekday_yes _ _ HD.out).mono ?_
            rintro e w' ⟨rfl, hw⟩
            subst w'
            go_wp2_with fail
            go_ret
            exact ⟨ret_bool HN.out.symm, rfl⟩
        · have HN : Hid (r = false) := Lib.hid (Bool.eq_false_iff.2 fun e => hm (HR.out.1 e).2.2)
          have m1 : (m == 30) = false := by rw [beq_eq_false_iff_ne]; exact fun e => hm (.inl e)
          have m2 : (m == 45) = false := by rw [beq_eq_false_iff_ne]; exact fun e => hm (.inr (.inl e))
          have m3 : (m == 60) = false := by rw [beq_eq_false_iff_ne]; exact fun e => hm (.inr (.inr (.inl e)))
          have m4 : (m == 90) = false := by rw [beq_eq_false_iff_ne]; exact fun e => hm (.inr (.inr (.inr e)))
          clear hm
          go_enter Tryd.func32, Tryd.ntmps32
          go_wp2_with fail
          refine (isWeekday_yes _ _ HD.out).mono ?_
          rintro e w' ⟨rfl, hw⟩
          subst w'
          go_wp2_with fail
          go_ret
          exact ⟨ret_bool HN.out.symm, rfl⟩
  · have HN : Hid (r = false) := Lib.hid (Bool.eq_false_iff.2 fun e => hd (HR.out.1 e).1)
    have HD := Lib.hid hd
    clear hd
    go_enter Tryd.func32, Tryd.ntmps32
    go_wp2_with fail
    refine (isWeekday_no _ _ HD.out).mono ?_
    rintro e w' ⟨rfl, hw⟩
    subst w'
    go_wp2_with fail
    go_ret
    exact ⟨ret_bool HN.out.symm, rfl⟩
set_option maxRecDepth 100000 in
set_option maxHeartbeats 1600000 in
theorem implIsLesson_any (x : Les) (w : World) (r : Bool) (hr : r = true ↔ okLe x) :
    Calls Tryd.prog 21 #[lesV x] w fun e w' => e = .returned (.bool r) ∧ Below w.heap.size w w' := by
  obtain ⟨id, cls, tch, room, day, bgn, mins⟩ := x
  show Calls Tryd.prog 21 #[.agg #[.int .i64 id, .int .i64 cls, .int .i64 tch, .int .i64 room, .int .i64 day, .int .i64 bgn, .int .i64 mins]] w fun e w' => e = .returned (.bool r) ∧ Below w.heap.size w w'
  have HR : Hid (r = true ↔ (1 ≤ id ∧ id ≤ 99) ∧ (1 ≤ cls ∧ cls ≤ 9) ∧ (1 ≤ tch ∧ tch ≤ 20) ∧ (1 ≤ room ∧ room ≤ 9) ∧ (0 ≤ day ∧ day ≤ 6) ∧ okTm bgn mins) := Lib.hid hr
  clear hr
  have HB0 : Hid (Below w.heap.size w w) := Lib.hid (Below.refl _ _)
  by_cases a1 : id < 1
  · have HN : Hid (r = false) := Lib.hid (Bool.eq_false_iff.2 fun e => by have := (HR.out.1 e).1; omega)
    go_enter Tryd.func21, Tryd.ntmps21
    go_wp2_with fail
    have hb : Below w.heap.size w (w.alloc (.cells #[.int .i64 id, .int .i64 cls, .int .i64 tch, .int .i64 room, .int .i64 day, .int .i64 bgn, .int .i64 mins] 31)) := (Below.refl _ _).alloc (Nat.le_refl _) _
    have hk : (w.alloc (.cells #[.int .i64 id, .int .i64 cls, .int .i64 tch, .int .i64 room, .int .i64 day, .int .i64 bgn, .int .i64 mins] 31)).heap[w.heap.size]? = some (.cells #[.int .i64 id, .int .i64 cls, .int .i64 tch, .int .i64 room, .int .i64 day, .int .i64 bgn, .int .i64 mins] 31 (0, 0)) := alloc_at rfl
    have hz : (w.alloc (.cells #[.int .i64 id, .int .i64 cls, .int .i64 tch, .int .i64 room, .int .i64 day, .int .i64 bgn, .int .i64 mins] 31)).heap.size = w.heap.size + 1 := by simp
    generalize w.alloc (.cells #[.int .i64 id, .int .i64 cls, .int .i64 tch, .int .i64 room, .int .i64 day, .int .i64 bgn, .int .i64 mins] 31) = w1 at hb hk hz ⊢
    have HB1 : Hid (Below w.heap.size w w1) := Lib.hid (HB0.out.trans (hb.mono HB0.out.size))
    have HZ1 : Hid (w.heap.size ≤ w1.heap.size) := Lib.hid hb.size
    have HKf1 := Lib.hid hk
    replace HZ1 : Hid (w.heap.size < w1.heap.size) := Lib.hid (by omega)
    have HE1 := Lib.hid hz
    clear hb hk hz
    have ltf := lt_of_block HKf1.out
    obtain ⟨cf0, cf1, cf2, cf3, cf4, cf5, cf6, ff0, ff1, ff2, ff3, ff4, ff5, ff6⟩ := cell7 HKf1.out
    go_ret
    exact ⟨ret_bool HN.out.symm, HB1.out⟩
  by_cases a2 : 99 < id
  · have HN : Hid (r = false) := Lib.hid (Bool.eq_false_iff.2 fun e => by have := (HR.out.1 e).1; omega)
    go_enter Tryd.func21, Tryd.ntmps21
    go_wp2_with fail
    have hb : Below w.heap.size w (w.alloc (.cells #[.int .i64 id, .int .i64 cls, .int .i64 tch, .int .i64 room, .int .i64 day, .int .i64 bgn, .int .i64 mins] 31)) := (Below.refl _ _).alloc (Nat.le_refl _) _
    have hk : (w.alloc (.cells #[.int .i64 id, .int .i64 cls, .int .i64 tch, .int .i64 room, .int .i64 day, .int .i64 bgn, .int .i64 mins] 31)).heap[w.heap.size]? = some (.cells #[.int .i64 id, .int .i64 cls, .int .i64 tch, .int .i64 room, .int .i64 day, .int .i64 bgn, .int .i64 mins] 31 (0, 0)) := alloc_at rfl
    have hz : (w.alloc (.cells #[.int .i64 id, .int .i64 cls, .int .i64 tch, .int .i64 room, .int .i64 day, .int .i64 bgn, .int .i64 mins] 31)).heap.size = w.heap.size + 1 := by simp
    generalize w.alloc (.cells #[.int .i64 id, .int .i64 cls, .int .i64 tch, .int .i64 room, .int .i64 day, .int .i64 bgn, .int .i64 mins] 31) = w1 at hb hk hz ⊢
    have HB1 : Hid (Below w.heap.size w w1) := Lib.hid (HB0.out.trans (hb.mono HB0.out.size))
    have HZ1 : Hid (w.heap.size ≤ w1.heap.size) := Lib.hid hb.size
    have HKf1 := Lib.hid hk
    replace HZ1 : Hid (w.heap.size < w1.heap.size) := Lib.hid (by omega)
    have HE1 := Lib.hid hz
    clear hb hk hz
    have ltf := lt_of_block HKf1.out
    obtain ⟨cf0, cf1, cf2, cf3, cf4, cf5, cf6, ff0, ff1, ff2, ff3, ff4, ff5, ff6⟩ := cell7 HKf1.out
    go_ret
    exact ⟨ret_bool HN.out.symm, HB1.out⟩
  by_cases hc : 1 ≤ cls ∧ cls ≤ 9
  · have HC := Lib.hid hc
    clear hc
    by_cases b1 : tch < 1
    · have HN : Hid (r = false) := Lib.hid (Bool.eq_false_iff.2 fun e => by have := (HR.out.1 e).2.2.1; omega)
      go_enter Tryd.func21, Tryd.ntmps21
      go_wp2_with fail
      have hb : Below w.heap.size w (w.alloc (.cells #[.int .i64 id, .int .i64 cls, .int .i64 tch, .int .i64 room, .int .i64 day, .int .i64 bgn, .int .i64 mins] 31)) := (Below.refl _ _).alloc (Nat.le_refl _) _
      have hk : (w.alloc (.cells #[.int .i64 id, .int .i64 cls, .int .i64 tch, .int .i64 room, .int .i64 day, .int .i64 bgn, .int .i64 mins] 31)).heap[w.heap.size]? = some (.cells #[.int .i64 id, .int .i64 cls, .int .i64 tch, .int .i64 room, .int .i64 day, .int .i64 bgn, .int .i64 mins] 31 (0, 0)) := alloc_at rfl
      have hz : (w.alloc (.cells #[.int .i64 id, .int .i64 cls, .int .i64 tch, .int .i64 room, .int .i64 day, .int .i64 bgn, .int .i64 mins] 31)).heap.size = w.heap.size + 1 := by simp
      generalize w.alloc (.cells #[.int .i64 id, .int .i64 cls, .int .i64 tch, .int .i64 room, .int .i64 day, .int .i64 bgn, .int .i64 mins] 31) = w1 at hb hk hz ⊢
      have HB1 : Hid (Below w.heap.size w w1) := Lib.hid (HB0.out.trans (hb.mono HB0.out.size))
      have HZ1 : Hid (w.heap.size ≤ w1.heap.size) := Lib.hid hb.size
      have HKf1 := Lib.hid hk
      replace HZ1 : Hid (w.heap.size < w1.heap.size) := Lib.hid (by omega)
      have HE1 := Lib.hid hz
      clear hb hk hz
      have ltf := lt_of_block HKf1.out
      obtain ⟨cf0, cf1, cf2, cf3, cf4, cf5, cf6, ff0, ff1, ff2, ff3, ff4, ff5, ff6⟩ := cell7 HKf1.out
      refine (isClass_yes _ _ HC.out).mono ?_
      rintro e w' ⟨rfl, hw⟩
      subst w'
      go_wp2_with fail
      go_ret
      exact ⟨ret_bool HN.out.symm, HB1.out⟩
    by_cases b2 : 20 < tch
    · have HN : Hid (r = false) := Lib.hid (Bool.eq_false_iff.2 fun e => by have := (HR.out.1 e).2.2.1; omega)
      go_enter Tryd.func21, Tryd.ntmps21
      go_wp2_with fail
      have hb : Below w.heap.size w (w.alloc (.cells #[.int .i64 id, .int .i64 cls, .int .i64 tch, .int .i64 room, .int .i64 day, .int .i64 bgn, .int .i64 mins] 31)) := (Below.refl _ _).alloc (Nat.le_refl _) _
      have hk : (w.alloc (.cells #[.int .i64 id, .int .i64 cls, .int .i64 tch, .int .i64 room, .int .i64 day, .int .i64 bgn, .int .i64 mins] 31)).heap[w.heap.size]? = some (.cells #[.int .i64 id, .int .i64 cls, .int .i64 tch, .int .i64 room, .int .i64 day, .int .i64 bgn, .int .i64 mins] 31 (0, 0)) := alloc_at rfl
      have hz : (w.alloc (.cells #[.int .i64 id, .int .i64 cls, .int .i64 tch, .int .i64 room, .int .i64 day, .int .i64 bgn, .int .i64 mins] 31)).heap.size = w.heap.size + 1 := by simp
      generalize w.alloc (.cells #[.int .i64 id, .int .i64 cls, .int .i64 tch, .int .i64 room, .int .i64 day, .int .i64 bgn, .int .i64 mins] 31) = w1 at hb hk hz ⊢
      have HB1 : Hid (Below w.heap.size w w1) := Lib.hid (HB0.out.trans (hb.mono HB0.out.size))
      have HZ1 : Hid (w.heap.size ≤ w1.heap.size) := Lib.hid hb.size
      have HKf1 := Lib.hid hk
      replace HZ1 : Hid (w.heap.size < w1.heap.size) := Lib.hid (by omega)
      have HE1 := Lib.hid hz
      clear hb hk hz
      have ltf := lt_of_block HKf1.out
      obtain ⟨cf0, cf1, cf2, cf3, cf4, cf5, cf6, ff0, ff1, ff2, ff3, ff4, ff5, ff6⟩ := cell7 HKf1.out
      refine (isClass_yes _ _ HC.out).mono ?_
      rintro e w' ⟨rfl, hw⟩
      subst w'
      go_wp2_with fail
      go_ret
      exact ⟨ret_bool HN.out.symm, HB1.out⟩
    by_cases b3 : room < 1
    · have HN : Hid (r = false) := Lib.hid (Bool.eq_false_iff.2 fun e => by have := (HR.out.1 e).2.2.2.1; omega)
      go_enter Tryd.func21, Tryd.ntmps21
      go_wp2_with fail
      have hb : Below w.heap.size w (w.alloc (.cells #[.int .i64 id, .int .i64 cls, .int .i64 tch, .int .i64 room, .int .i64 day, .int .i64 bgn, .int .i64 mins] 31)) := (Below.refl _ _).alloc (Nat.le_refl _) _
      have hk : (w.alloc (.cells #[.int .i64 id, .int .i64 cls, .int .i64 tch, .int .i64 room, .int .i64 day, .int .i64 bgn, .int .i64 mins] 31)).heap[w.heap.size]? = some (.cells #[.int .i64 id, .int .i64 cls, .int .i64 tch, .int .i64 room, .int .i64 day, .int .i64 bgn, .int .i64 mins] 31 (0, 0)) := alloc_at rfl
      have hz : (w.alloc (.cells #[.int .i64 id, .int .i64 cls, .int .i64 tch, .int .i64 room, .int .i64 day, .int .i64 bgn, .int .i64 mins] 31)).heap.size = w.heap.size + 1 := by simp
      generalize w.alloc (.cells #[.int .i64 id, .int .i64 cls, .int .i64 tch, .int .i64 room, .int .i64 day, .int .i64 bgn, .int .i64 mins] 31) = w1 at hb hk hz ⊢
      have HB1 : Hid (Below w.heap.size w w1) := Lib.hid (HB0.out.trans (hb.mono HB0.out.size))
      have HZ1 : Hid (w.heap.size ≤ w1.heap.size) := Lib.hid hb.size
      have HKf1 := Lib.hid hk
      replace HZ1 : Hid (w.heap.size < w1.heap.size) := Lib.hid (by omega)
      have HE1 := Lib.hid hz
      clear hb hk hz
      have ltf := lt_of_block HKf1.out
      obtain ⟨cf0, cf1, cf2, cf3, cf4, cf5, cf6, ff0, ff1, ff2, ff3, ff4, ff5, ff6⟩ := cell7 HKf1.out
      refine (isClass_yes _ _ HC.out).mono ?_
      rintro e w' ⟨rfl, hw⟩
      subst w'
      go_wp2_with fail
      go_ret
      exact ⟨ret_bool HN.out.symm, HB1.out⟩
    by_cases b4 : 9 < room
    · have HN : Hid (r = false) := Lib.hid (Bool.eq_false_iff.2 fun e => by have := (HR.out.1 e).2.2.2.1; omega)
      go_enter Tryd.func21, Tryd.ntmps21
      go_wp2_with fail
      have hb : Below w.heap.size w (w.alloc (.cells #[.int .i64 id, .int .i64 cls, .int .i64 tch, .int .i64 room, .int .i64 day, .int .i64 bgn, .int .i64 mins] 31)) := (Below.refl _ _).alloc (Nat.le_refl _) _
      have hk : (w.alloc (.cells #[.int .i64 id, .int .i64 cls, .int .i64 tch, .int .i64 room, .int .i64 day, .int .i64 bgn, .int .i64 mins] 31)).heap[w.heap.size]? = some (.cells #[.int .i64 id, .int .i64 cls, .int .i64 tch, .int .i64 room, .int .i64 day, .int .i64 bgn, .int .i64 mins] 31 (0, 0)) := alloc_at rfl
      have hz : (w.alloc (.cells #[.int .i64 id, .int .i64 cls, .int .i64 tch, .int .i64 room, .int .i64 day, .int .i64 bgn, .int .i64 mins] 31)).heap.size = w.heap.size + 1 := by simp
      generalize w.alloc (.cells #[.int .i64 id, .int .i64 cls, .int .i64 tch, .int .i64 room, .int .i64 day, .int .i64 bgn, .int .i64 mins] 31) = w1 at hb hk hz ⊢
      have HB1 : Hid (Below w.heap.size w w1) := Lib.hid (HB0.out.trans (hb.mono HB0.out.size))
      have HZ1 : Hid (w.heap.size ≤ w1.heap.size) := Lib.hid hb.size
      have HKf1 := Lib.hid hk
      replace HZ1 : Hid (w.heap.size < w1.heap.size) := Lib.hid (by omega)
      have HE1 := Lib.hid hz
      clear hb hk hz
      have ltf := lt_of_block HKf1.out
      obtain ⟨cf0, cf1, cf2, cf3, cf4, cf5, cf6, ff0, ff1, ff2, ff3, ff4, ff5, ff6⟩ := cell7 HKf1.out
      refine (isClass_yes _ _ HC.out).mono ?_
      rintro e w' ⟨rfl, hw⟩
      subst w'
      go_wp2_with fail
      go_ret
      exact ⟨ret_bool HN.out.symm, HB1.out⟩
    have HT := Lib.hid (fun w => isTime_any day bgn mins w r ⟨fun e => (HR.out.1 e).2.2.2.2, fun h => HR.out.2 ⟨⟨by omega, by omega⟩, HC.out, ⟨by omega, by omega⟩, ⟨by omega, by omega⟩, h⟩⟩)
    go_enter Tryd.func21, Tryd.ntmps21
    go_wp2_with fail
    have hb : Below w.heap.size w (w.alloc (.cells #[.int .i64 id, .int .i64 cls, .int .i64 tch, .int .i64 room, .int .i64 day, .int .i64 bgn, .int .i64 mins] 31)) := (Below.refl _ _).alloc (Nat.le_refl _) _
    have hk : (w.alloc (.cells #[.int .i64 id, .int .i64 cls, .int .i64 tch, .int .i64 room, .int .i64 day, .int .i64 bgn, .int .i64 mins] 31)).heap[w.heap.size]? = some (.cells #[.int .i64 id, .int .i64 cls, .int .i64 tch, .int .i64 room, .int .i64 day, .int .i64 bgn, .int .i64 mins] 31 (0, 0)) := alloc_at rfl
    have hz : (w.alloc (.cells #[.int .i64 id, .int .i64 cls, .int .i64 tch, .int .i64 room, .int .i64 day, .int .i64 bgn, .int .i64 mins] 31)).heap.size = w.heap.size + 1 := by simp
    generalize w.alloc (.cells #[.int .i64 id, .int .i64 cls, .int .i64 tch, .int .i64 room, .int .i64 day, .int .i64 bgn, .int .i64 mins] 31) = w1 at hb hk hz ⊢
    have HB1 : Hid (Below w.heap.size w w1) := Lib.hid (HB0.out.trans (hb.mono HB0.out.size))
    have HZ1 : Hid (w.heap.size ≤ w1.heap.size) := Lib.hid hb.size
    have HKf1 := Lib.hid hk
    replace HZ1 : Hid (w.heap.size < w1.heap.size) := Lib.hid (by omega)
    have HE1 := Lib.hid hz
    clear hb hk hz
    have ltf := lt_of_block HKf1.out
    obtain ⟨cf0, cf1, cf2, cf3, cf4, cf5, cf6, ff0, ff1, ff2, ff3, ff4, ff5, ff6⟩ := cell7 HKf1.out
    refine (isClass_yes _ _ HC.out).mono ?_
    rintro e w' ⟨rfl, hw⟩
    subst w'
    go_wp2_with fail
    refine (HT.out _).mono ?_
    rintro e w' ⟨rfl, hw⟩
    subst w'
    go_wp2_with fail
    go_ret
    exact ⟨rfl, HB1.out⟩
  · have HC := Lib.hid hc
    clear hc
    have HN : Hid (r = false) := Lib.hid (Bool.eq_false_iff.2 fun e => HC.out (HR.out.1 e).2.1)
    go_enter Tryd.func21, Tryd.ntmps21
    go_wp2_with fail
    have hb : Below w.heap.size w (w.alloc (.cells #[.int .i64 id, .int .i64 cls, .int .i64 tch, .int .i64 room, .int .i64 day, .int .i64 bgn, .int .i64 mins] 31)) := (Below.refl _ _).alloc (Nat.le_refl _) _
    have hk : (w.alloc (.cells #[.int .i64 id, .int .i64 cls, .int .i64 tch, .int .i64 room, .int .i64 day, .int .i64 bgn, .int .i64 mins] 31)).heap[w.heap.size]? = some (.cells #[.int .i64 id, .int .i64 cls, .int .i64 tch, .int .i64 room, .int .i64 day, .int .i64 bgn, .int .i64 mins] 31 (0, 0)) := alloc_at rfl
    have hz : (w.alloc (.cells #[.int .i64 id, .int .i64 cls, .int .i64 tch, .int .i64 room, .int .i64 day, .int .i64 bgn, .int .i64 mins] 31)).heap.size = w.heap.size + 1 := by simp
    generalize w.alloc (.cells #[.int .i64 id, .int .i64 cls, .int .i64 tch, .int .i64 room, .int .i64 day, .int .i64 bgn, .int .i64 mins] 31) = w1 at hb hk hz ⊢
    have HB1 : Hid (Below w.heap.size w w1) := Lib.hid (HB0.out.trans (hb.mono HB0.out.size))
    have HZ1 : Hid (w.heap.size ≤ w1.heap.size) := Lib.hid hb.size
    have HKf1 := Lib.hid hk
    replace HZ1 : Hid (w.heap.size < w1.heap.size) := Lib.hid (by omega)
    have HE1 := Lib.hid hz
    clear hb hk hz
    have ltf := lt_of_block HKf1.out
    obtain ⟨cf0, cf1, cf2, cf3, cf4, cf5, cf6, ff0, ff1, ff2, ff3, ff4, ff5, ff6⟩ := cell7 HKf1.out
    refine (isClass_no _ _ HC.out).mono ?_
    rintro e w' ⟨rfl, hw⟩
    subst w'
    go_wp2_with fail
    go_ret
    exact ⟨ret_bool HN.out.symm, HB1.out⟩
set_option maxRecDepth 100000 in
set_option maxHeartbeats 3200000 in
theorem iGood_scan (v : Value) (ps : List Les) (w : World) (h : RowsR 7 lesC w v ps) (hl : ps.length ≤ 12) (p : Nat) (hp : p ≤ ps.length) (hpre : ∀ i (h : i < ps.length), i < p → okLsAt ps i h) (hx : ∀ h : p < ps.length, ¬ okLsAt ps p h) (r : Bool) (hr1 : p < ps.length → r = false) (hr2 : p = ps.length → r = true) :
    Calls Tryd.prog 24 #[v] w fun e w' => e = .returned (.bool r) ∧ Below w.heap.size w w' := by
  obtain ⟨a, cp, rfl⟩ := h.form
  have R1 := Lib.hid h.at
  have HP := Lib.hid hpre
  have HX := Lib.hid hx
  have HR1 := Lib.hid hr1
  have HR2 := Lib.hid hr2
  clear h hpre hx hr1 hr2
  have hl' : ¬ (12 : Int) < (ps.length : Int) := by omega
  go_enter Tryd.func24, Tryd.ntmps24
  go_wp2_with fail
  go_loopw [10] (fun i wr => ∃ k : Nat, k ≤ p ∧ i = .int .i64 k ∧ Below w.heap.size w wr) (fun i _ => ps.length - (intOf i).toNat)
  case atStart => exact ⟨0, Nat.zero_le _, rfl, Below.refl _ _⟩
  case round =>
    obtain ⟨k, hk, rfl, hb⟩ := hrel
    have HB := Lib.hid hb
    by_cases hlt : k < ps.length
    · have z1 : (0 : Int) ≤ (k : Int) := by omega
      have z2 : (k : Int) < (ps.length : Int) := by omega
      obtain ⟨b1, o1, rfl, l1, k1⟩ := R1.out _ hb k hlt
      have l2 : b1 < wr.heap.size := Nat.lt_of_lt_of_le l1 hb.size
      by_cases hkp : k < p
      · have hok := HP.out k hlt hkp
        by_cases hk0 : 0 < k
        · obtain ⟨m, rfl⟩ : ∃ m, k = m + 1 := ⟨k - 1, by omega⟩
          have HG : Hid (okLe ps[m + 1]) := Lib.hid (hok.1)
          have p0 : wr.cell? ⟨b1, o1 + (m + 1) * 7, none⟩ = some (.int .i64 ps[m + 1].id) := k1 0 (by omega)
          have p1 : wr.cell? ⟨b1, o1 + (m + 1) * 7 + 1, none⟩ = some (.int .i64 ps[m + 1].cls) := k1 1 (by omega)
          have p2 : wr.cell? ⟨b1, o1 + (m + 1) * 7 + 2, none⟩ = some (.int .i64 ps[m + 1].tch) := k1 2 (by omega)
          have p3 : wr.cell? ⟨b1, o1 + (m + 1) * 7 + 3, none⟩ = some (.int .i64 ps[m + 1].room) := k1 3 (by omega)
          have p4 : wr.cell? ⟨b1, o1 + (m + 1) * 7 + 4, none⟩ = some (.int .i64 ps[m + 1].day) := k1 4 (by omega)
          have p5 : wr.cell? ⟨b1, o1 + (m + 1) * 7 + 5, none⟩ = some (.int .i64 ps[m + 1].bgn) := k1 5 (by omega)
          have p6 : wr.cell? ⟨b1, o1 + (m + 1) * 7 + 6, none⟩ = some (.int .i64 ps[m + 1].mins) := k1 6 (by omega)
          obtain ⟨b1', o1', e1, _, k2⟩ := R1.out _ hb m (by omega)
          obtain ⟨rfl, rfl⟩ : b1 = b1' ∧ o1 = o1' := by injection e1 with e1; injection e1 with e1 e2; exact ⟨e1, e2⟩
          have p8 : wr.cell? ⟨b1, o1 + m * 7, none⟩ = some (.int .i64 ps[m].id) := k2 0 (by omega)
          have hcmp : decide (ps[m + 1].id ≤ ps[m].id) = false := decide_eq_false (by have := hok.2 hk0; simp at this; omega)
          have z3 : (0 : Int) ≤ (m : Int) := by omega
          have z4 : (m : Int) < (ps.length : Int) := by omega
          have z5 : (m : Int) + 1 < (ps.length : Int) := by omega
          have z6 : (0 : Int) ≤ (m : Int) + 1 := by omega
          have z7 : IntKind.i64.wrap (m : Int) = (m : Int) := by rw [IntKind.wrap_i64]; omega
          clear hb k1 k2 e1
          generalize ps[m + 1] = q at p0 p1 p2 p3 p4 p5 p6 hcmp HG
          generalize ps[m] = q2 at p8 hcmp
          go_wp2_with fail
          have hb1 : Below wr.heap.size wr (wr.alloc (.cells #[.int .i64 q.id, .int .i64 q.cls, .int .i64 q.tch, .int .i64 q.room, .int .i64 q.day, .int .i64 q.bgn, .int .i64 q.mins] 31)) := (Below.refl _ _).alloc (Nat.le_refl _) _
          have hk1 : (wr.alloc (.cells #[.int .i64 q.id, .int .i64 q.cls, .int .i64 q.tch, .int .i64 q.room, .int .i64 q.day, .int .i64 q.bgn, .int .i64 q.mins] 31)).heap[wr.heap.size]? = some (.cells #[.int .i64 q.id, .int .i64 q.cls, .int .i64 q.tch, .int .i64 q.room, .int .i64 q.day, .int .i64 q.bgn, .int .i64 q.mins] 31 (0, 0)) := alloc_at rfl
          have hz1 : wr.heap.size < (wr.alloc (.cells #[.int .i64 q.id, .int .i64 q.cls, .int .i64 q.tch, .int .i64 q.room, .int .i64 q.day, .int .i64 q.bgn, .int .i64 q.mins] 31)).heap.size := by simp
          generalize wr.alloc (.cells #[.int .i64 q.id, .int .i64 q.cls, .int .i64 q.tch, .int .i64 q.room, .int .i64 q.day, .int .i64 q.bgn, .int .i64 q.mins] 31) = wx at hb1 hk1 hz1 ⊢
          generalize hBB : wr.heap.size = B at hk1 hz1 ⊢
          obtain ⟨x0, x1, x2, x3, x4, x5, x6, -, -, -, -, -, -, -⟩ := cell7 hk1
          have HB1 : Hid (Below w.heap.size w wx) := Lib.hid (HB.out.trans (hb1.mono HB.out.size))
          have l3 := hz1
          have p7 : wx.cell? ⟨b1, o1 + m * 7, none⟩ = some (.int .i64 q2.id) := (hb1.cell (p := ⟨b1, _, none⟩) l2).trans p8
          have l4 : b1 < wx.heap.size := Nat.lt_of_lt_of_le l2 hb1.size
          clear p0 p1 p2 p3 p4 p5 p6 p8
          clear hk1 hz1 hb1 hBB
          go_wp2_with fail
          refine wp_region_held_drew (S := (fun w' => w'.cell? ⟨B, 0, none⟩ = some (.int .i64 q.id) ∧ w'.cell? ⟨B, 1, none⟩ = some (.int .i64 q.cls) ∧ w'.cell? ⟨B, 2, none⟩ = some (.int .i64 q.tch) ∧ w'.cell? ⟨B, 3, none⟩ = some (.int .i64 q.room) ∧ w'.cell? ⟨B, 4, none⟩ = some (.int .i64 q.day) ∧ w'.cell? ⟨B, 5, none⟩ = some (.int .i64 q.bgn) ∧ w'.cell? ⟨B, 6, none⟩ = some (.int .i64 q.mins) ∧ w'.cell? ⟨b1, o1 + m * 7, none⟩ = some (.int .i64 q2.id))) (by kernel_rfl) (⟨x0, x1, x2, x3, x4, x5, x6, p7⟩) (fun hHeld => ?_)
          refine take1 (i := 0) (v := ?v1) (some 15) rfl rfl (by kernel_rfl) (by kernel_rfl) (by kernel_rfl) (fun _ _ _ h => h) (Or.inl ⟨by rfl, ?y1⟩) (by assumption) ?r1
          case y1 => (intro w hSw; (try dsimp only at hSw); go_simp; (first | done | with_reducible rfl))
          try simp only [Act.put, List.setIfInBounds_toArray, List.set_cons_zero, List.set_cons_succ]
          refine wpAnyH_ready (rs := [1]) (by kernel_rfl) (by simp) ?_
          refine AllReadyH.cons rfl (fun K hK => ?_) AllReadyH.nil
          go_simp
          go_at_call 21
          refine (implIsLesson_any q _ true ⟨fun _ => HG.out, fun _ => rfl⟩).mono ?_
          rintro e w2 ⟨rfl, hb'⟩
          have hb2 : Below wx.heap.size wx w2 := Below.trans (Below.drew (Below.refl _ _)) hb'
          clear hb'
          try go_simp
          refine hK.out _ _ (⟨(hb2.cell (p := ⟨B, 0, none⟩) l3).trans x0, (hb2.cell (p := ⟨B, 1, none⟩) l3).trans x1, (hb2.cell (p := ⟨B, 2, none⟩) l3).trans x2, (hb2.cell (p := ⟨B, 3, none⟩) l3).trans x3, (hb2.cell (p := ⟨B, 4, none⟩) l3).trans x4, (hb2.cell (p := ⟨B, 5, none⟩) l3).trans x5, (hb2.cell (p := ⟨B, 6, none⟩) l3).trans x6, (hb2.cell (p := ⟨b1, _, none⟩) l4).trans p7⟩) (fun hHeld => ?_)
          clear hK K
          try simp only [Act.put, List.setIfInBounds_toArray, List.set_cons_zero, List.set_cons_succ]
          refine take1 (i := 2) (v := ?v2) (some 17) rfl rfl (by kernel_rfl) (by kernel_rfl) (by kernel_rfl) (fun _ _ _ h => h) (Or.inl ⟨by rfl, ?y2⟩) (by assumption) ?r2
          case y2 => (intro w hSw; (try dsimp only at hSw); go_simp; (first | done | with_reducible rfl))
          try simp only [Act.put, List.setIfInBounds_toArray, List.set_cons_zero, List.set_cons_succ]
          refine take1 (i := 3) (v := ?v3) (some 18) rfl rfl (by kernel_rfl) (by kernel_rfl) (by kernel_rfl) (fun _ _ _ h => h) (Or.inl ⟨by rfl, ?y3⟩) (by assumption) ?r3
          case y3 => (intro w hSw; (try dsimp only at hSw); go_simp; (first | done | with_reducible rfl))
          try simp only [Act.put, List.setIfInBounds_toArray, List.set_cons_zero, List.set_cons_succ]
          refine take1 (i := 4) (v := ?v4) (some 19) rfl rfl (by kernel_rfl) (by kernel_rfl) (by kernel_rfl) (fun _ _ _ h => h) (Or.inl ⟨by rfl, ?y4⟩) (by assumption) ?r4
          case y4 => (intro w hSw; (try dsimp only at hSw); go_simp; (first | done | with_reducible rfl))
          try simp only [Act.put, List.setIfInBounds_toArray, List.set_cons_zero, List.set_cons_succ]
          refine take1 (i := 5) (v := ?v5) (some 20) rfl rfl (by kernel_rfl) (by kernel_rfl) (by kernel_rfl) (fun _ _ _ h => h) (Or.inl ⟨by rfl, ?y5⟩) (by assumption) ?r5
          case y5 => (intro w hSw; (try dsimp only at hSw); go_simp; (first | done | with_reducible rfl))
          try simp only [Act.put, List.setIfInBounds_toArray, List.set_cons_zero, List.set_cons_succ]
          refine take1 (i := 6) (v := ?v6) (some 21) rfl rfl (by kernel_rfl) (by kernel_rfl) (by kernel_rfl) (fun _ _ _ h => h) (Or.inl ⟨by rfl, ?y6⟩) (by assumption) ?r6
          case y6 => (intro w hSw; (try dsimp only at hSw); go_simp; (first | done | with_reducible rfl))
          try simp only [Act.put, List.setIfInBounds_toArray, List.set_cons_zero, List.set_cons_succ]
          refine take1 (i := 7) (v := ?v7) (some 22) rfl rfl (by kernel_rfl) (by kernel_rfl) (by kernel_rfl) (fun _ _ _ h => h) (Or.inl ⟨by rfl, ?y7⟩) (by assumption) ?r7
          case y7 => (intro w hSw; (try dsimp only at hSw); go_simp; (first | done | with_reducible rfl))
          try simp only [Act.put, List.setIfInBounds_toArray, List.set_cons_zero, List.set_cons_succ]
          refine take1 (i := 8) (v := ?v8) (some 23) rfl rfl (by kernel_rfl) (by kernel_rfl) (by kernel_rfl) (fun _ _ _ h => h) (Or.inl ⟨by rfl, ?y8⟩) (by assumption) ?r8
          case y8 => (intro w hSw; (try dsimp only at hSw); go_simp; (first | done | with_reducible rfl))
          try simp only [Act.put, List.setIfInBounds_toArray, List.set_cons_zero, List.set_cons_succ]
          refine take1 (i := 9) (v := ?v9) (some 24) rfl rfl (by kernel_rfl) (by kernel_rfl) (by kernel_rfl) (fun _ _ _ h => h) (Or.inl ⟨by rfl, ?y9⟩) (by assumption) ?r9
          case y9 => (intro w hSw; (try dsimp only at hSw); go_simp; (first | done | with_reducible rfl))
          try simp only [Act.put, List.setIfInBounds_toArray, List.set_cons_zero, List.set_cons_succ]
          refine take1 (i := 10) (v := ?v10) (some 25) rfl rfl (by kernel_rfl) (by kernel_rfl) (by kernel_rfl) (fun _ _ _ h => h) (Or.inl ⟨by rfl, ?y10⟩) (by assumption) ?r10
          case y10 => (intro w hSw; (try dsimp only at hSw); go_simp; (first | done | with_reducible rfl))
          try simp only [Act.put, List.setIfInBounds_toArray, List.set_cons_zero, List.set_cons_succ]
          refine take1 (i := 11) (v := ?v11) (some 26) rfl rfl (by kernel_rfl) (by kernel_rfl) (by kernel_rfl) (fun _ _ _ h => h) (Or.inl ⟨by rfl, ?y11⟩) (by assumption) ?r11
          case y11 => (intro w hSw; (try dsimp only at hSw); go_simp; (first | done | with_reducible rfl))
          try simp only [Act.put, List.setIfInBounds_toArray, List.set_cons_zero, List.set_cons_succ]
          refine take1 (i := 12) (v := ?v12) (some 27) rfl rfl (by kernel_rfl) (by kernel_rfl) (by kernel_rfl) (fun _ _ _ h => h) (Or.inl ⟨by rfl, ?y12⟩) (by assumption) ?r12
          case y12 => (intro w hSw; (try dsimp only at hSw); go_simp; (first | done | with_reducible rfl))
          try simp only [Act.put, List.setIfInBounds_toArray, List.set_cons_zero, List.set_cons_succ]
          refine take1 (i := 13) (v := ?v13) (some 28) rfl rfl (by kernel_rfl) (by kernel_rfl) (by kernel_rfl) (fun _ _ _ h => h) (Or.inl ⟨by rfl, ?y13⟩) (by assumption) ?r13
          case y13 => (intro w hSw; (try dsimp only at hSw); go_simp; (first | done | with_reducible rfl))
          try simp only [Act.put, List.setIfInBounds_toArray, List.set_cons_zero, List.set_cons_succ]
          refine take1 (i := 14) (v := ?v14) (some 29) rfl rfl (by kernel_rfl) (by kernel_rfl) (by kernel_rfl) (fun _ _ _ h => h) (Or.inl ⟨by rfl, ?y14⟩) (by assumption) ?r14
          case y14 => (intro w hSw; (try dsimp only at hSw); go_simp; (first | done | with_reducible rfl))
          try simp only [Act.put, List.setIfInBounds_toArray, List.set_cons_zero, List.set_cons_succ]
          refine take1 (i := 15) (v := ?v15) (some 30) rfl rfl (by kernel_rfl) (by kernel_rfl) (by kernel_rfl) (fun _ _ _ h => h) (Or.inl ⟨by rfl, ?y15⟩) (by assumption) ?r15
          case y15 => (intro w hSw; (try dsimp only at hSw); go_simp; (first | done | with_reducible rfl))
          try simp only [Act.put, List.setIfInBounds_toArray, List.set_cons_zero, List.set_cons_succ]
          refine take1 (i := 16) (v := ?v16) (some 31) rfl rfl (by kernel_rfl) (by kernel_rfl) (by kernel_rfl) (fun _ _ _ h => h) (Or.inl ⟨by rfl, ?y16⟩) (by assumption) ?r16
          case y16 => (intro w hSw; (try dsimp only at hSw); go_simp; (first | done | with_reducible rfl))
          try simp only [Act.put, List.setIfInBounds_toArray, List.set_cons_zero, List.set_cons_succ]
          refine take1 (i := 17) (v := ?v17) (some 32) rfl rfl (by kernel_rfl) (by kernel_rfl) (by kernel_rfl) (fun _ _ _ h => h) (Or.inl ⟨by rfl, ?y17⟩) (by assumption) ?r17
          case y17 => (intro w hSw; (try dsimp only at hSw); go_simp; (first | done | with_reducible rfl))
          try simp only [Act.put, List.setIfInBounds_toArray, List.set_cons_zero, List.set_cons_succ]
          refine wpAnyH_done (by kernel_rfl) ?_ _
          go_wp2_with fail
          go_roundw
          case rel => exact ⟨(m + 1) + 1, by omega, by go_num, HB1.out.trans (hb2.mono HB1.out.size)⟩
          case measure => simp [intOf]; omega
        · have HG : Hid (okLe ps[k]) := Lib.hid (hok.1)
          have p0 : wr.cell? ⟨b1, o1 + k * 7, none⟩ = some (.int .i64 ps[k].id) := k1 0 (by omega)
          have p1 : wr.cell? ⟨b1, o1 + k * 7 + 1, none⟩ = some (.int .i64 ps[k].cls) := k1 1 (by omega)
          have p2 : wr.cell? ⟨b1, o1 + k * 7 + 2, none⟩ = some (.int .i64 ps[k].tch) := k1 2 (by omega)
          have p3 : wr.cell? ⟨b1, o1 + k * 7 + 3, none⟩ = some (.int .i64 ps[k].room) := k1 3 (by omega)
          have p4 : wr.cell? ⟨b1, o1 + k * 7 + 4, none⟩ = some (.int .i64 ps[k].day) := k1 4 (by omega)
          have p5 : wr.cell? ⟨b1, o1 + k * 7 + 5, none⟩ = some (.int .i64 ps[k].bgn) := k1 5 (by omega)
          have p6 : wr.cell? ⟨b1, o1 + k * 7 + 6, none⟩ = some (.int .i64 ps[k].mins) := k1 6 (by omega)
          have hd : decide (0 < k) = false := decide_eq_false hk0
          clear hb k1
          generalize ps[k] = q at p0 p1 p2 p3 p4 p5 p6 HG
          go_wp2_with fail
          have hb1 : Below wr.heap.size wr (wr.alloc (.cells #[.int .i64 q.id, .int .i64 q.cls, .int .i64 q.tch, .int .i64 q.room, .int .i64 q.day, .int .i64 q.bgn, .int .i64 q.mins] 31)) := (Below.refl _ _).alloc (Nat.le_refl _) _
          have hk1 : (wr.alloc (.cells #[.int .i64 q.id, .int .i64 q.cls, .int .i64 q.tch, .int .i64 q.room, .int .i64 q.day, .int .i64 q.bgn, .int .i64 q.mins] 31)).heap[wr.heap.size]? = some (.cells #[.int .i64 q.id, .int .i64 q.cls, .int .i64 q.tch, .int .i64 q.room, .int .i64 q.day, .int .i64 q.bgn, .int .i64 q.mins] 31 (0, 0)) := alloc_at rfl
          have hz1 : wr.heap.size < (wr.alloc (.cells #[.int .i64 q.id, .int .i64 q.cls, .int .i64 q.tch, .int .i64 q.room, .int .i64 q.day, .int .i64 q.bgn, .int .i64 q.mins] 31)).heap.size := by simp
          generalize wr.alloc (.cells #[.int .i64 q.id, .int .i64 q.cls, .int .i64 q.tch, .int .i64 q.room, .int .i64 q.day, .int .i64 q.bgn, .int .i64 q.mins] 31) = wx at hb1 hk1 hz1 ⊢
          generalize hBB : wr.heap.size = B at hk1 hz1 ⊢
          obtain ⟨x0, x1, x2, x3, x4, x5, x6, -, -, -, -, -, -, -⟩ := cell7 hk1
          have HB1 : Hid (Below w.heap.size w wx) := Lib.hid (HB.out.trans (hb1.mono HB.out.size))
          have l3 := hz1
          clear p0 p1 p2 p3 p4 p5 p6
          clear hk1 hz1 hb1 hBB
          go_wp2_with fail
          refine wp_region_held_drew (S := (fun w' => w'.cell? ⟨B, 0, none⟩ = some (.int .i64 q.id) ∧ w'.cell? ⟨B, 1, none⟩ = some (.int .i64 q.cls) ∧ w'.cell? ⟨B, 2, none⟩ = some (.int .i64 q.tch) ∧ w'.cell? ⟨B, 3, none⟩ = some (.int .i64 q.room) ∧ w'.cell? ⟨B, 4, none⟩ = some (.int .i64 q.day) ∧ w'.cell? ⟨B, 5, none⟩ = some (.int .i64 q.bgn) ∧ w'.cell? ⟨B, 6, none⟩ = some (.int .i64 q.mins))) (by kernel_rfl) (⟨x0, x1, x2, x3, x4, x5, x6⟩) (fun hHeld => ?_)
          refine take1 (i := 0) (v := ?v18) (some 15) rfl rfl (by kernel_rfl) (by kernel_rfl) (by kernel_rfl) (fun _ _ _ h => h) (Or.inl ⟨by rfl, ?y18⟩) (by assumption) ?r18
          case y18 => (intro w hSw; (try dsimp only at hSw); go_simp; (first | done | with_reducible rfl))
          try simp only [Act.put, List.setIfInBounds_toArray, List.set_cons_zero, List.set_cons_succ]
          refine wpAnyH_ready (rs := [1]) (by kernel_rfl) (by simp) ?_
          refine AllReadyH.cons rfl (fun K hK => ?_) AllReadyH.nil
          go_simp
          go_at_call 21
          refine (implIsLesson_any q _ true ⟨fun _ => HG.out, fun _ => rfl⟩).mono ?_
          rintro e w2 ⟨rfl, hb'⟩
          have hb2 : Below wx.heap.size wx w2 := Below.trans (Below.drew (Below.refl _ _)) hb'
          clear hb'
          try go_simp
          refine hK.out _ _ (⟨(hb2.cell (p := ⟨B, 0, none⟩) l3).trans x0, (hb2.cell (p := ⟨B, 1, none⟩) l3).trans x1, (hb2.cell (p := ⟨B, 2, none⟩) l3).trans x2, (hb2.cell (p := ⟨B, 3, none⟩) l3).trans x3, (hb2.cell (p := ⟨B, 4, none⟩) l3).trans x4, (hb2.cell (p := ⟨B, 5, none⟩) l3).trans x5, (hb2.cell (p := ⟨B, 6, none⟩) l3).trans x6⟩) (fun hHeld => ?_)
          clear hK K
          try simp only [Act.put, List.setIfInBounds_toArray, List.set_cons_zero, List.set_cons_succ]
          refine take1 (i := 2) (v := ?v19) (some 17) rfl rfl (by kernel_rfl) (by kernel_rfl) (by kernel_rfl) (fun _ _ _ h => h) (Or.inl ⟨by rfl, ?y19⟩) (by assumption) ?r19
          case y19 => (intro w hSw; (try dsimp only at hSw); go_simp; (first | done | with_reducible rfl))
          try simp only [Act.put, List.setIfInBounds_toArray, List.set_cons_zero, List.set_cons_succ]
          refine take1 (i := 3) (v := ?v20) (some 18) rfl rfl (by kernel_rfl) (by kernel_rfl) (by kernel_rfl) (fun _ _ _ h => h) (Or.inl ⟨by rfl, ?y20⟩) (by assumption) ?r20
          case y20 => (intro w hSw; (try dsimp only at hSw); go_simp; (first | done | with_reducible rfl))
          try simp only [Act.put, List.setIfInBounds_toArray, List.set_cons_zero, List.set_cons_succ]
          refine take1 (i := 4) (v := ?v21) (some 19) rfl rfl (by kernel_rfl) (by kernel_rfl) (by kernel_rfl) (fun _ _ _ h => h) (Or.inl ⟨by rfl, ?y21⟩) (by assumption) ?r21
          case y21 => (intro w hSw; (try dsimp only at hSw); go_simp; (first | done | with_reducible rfl))
          try simp only [Act.put, List.setIfInBounds_toArray, List.set_cons_zero, List.set_cons_succ]
          refine take1 (i := 5) (v := ?v22) (some 20) rfl rfl (by kernel_rfl) (by kernel_rfl) (by kernel_rfl) (fun _ _ _ h => h) (Or.inl ⟨by rfl, ?y22⟩) (by assumption) ?r22
          case y22 => (intro w hSw; (try dsimp only at hSw); go_simp; (first | done | with_reducible rfl))
          try simp only [Act.put, List.setIfInBounds_toArray, List.set_cons_zero, List.set_cons_succ]
          refine take1 (i := 6) (v := ?v23) (some 21) rfl rfl (by kernel_rfl) (by kernel_rfl) (by kernel_rfl) (fun _ _ _ h => h) (Or.inl ⟨by rfl, ?y23⟩) (by assumption) ?r23
          case y23 => (intro w hSw; (try dsimp only at hSw); go_simp; (first | done | with_reducible rfl))
          try simp only [Act.put, List.setIfInBounds_toArray, List.set_cons_zero, List.set_cons_succ]
          refine take1 (i := 7) (v := undef) (some 22) rfl rfl (by kernel_rfl) (by kernel_rfl) (by kernel_rfl) (fun _ _ _ h => h) (Or.inr ⟨by rfl, rfl⟩) (by assumption) ?_
          try simp only [Act.put, List.setIfInBounds_toArray, List.set_cons_zero, List.set_cons_succ]
          refine take1 (i := 8) (v := undef) (some 23) rfl rfl (by kernel_rfl) (by kernel_rfl) (by kernel_rfl) (fun _ _ _ h => h) (Or.inr ⟨by rfl, rfl⟩) (by assumption) ?_
          try simp only [Act.put, List.setIfInBounds_toArray, List.set_cons_zero, List.set_cons_succ]
          refine take1 (i := 9) (v := undef) (some 24) rfl rfl (by kernel_rfl) (by kernel_rfl) (by kernel_rfl) (fun _ _ _ h => h) (Or.inr ⟨by rfl, rfl⟩) (by assumption) ?_
          try simp only [Act.put, List.setIfInBounds_toArray, List.set_cons_zero, List.set_cons_succ]
          refine take1 (i := 10) (v := undef) (some 25) rfl rfl (by kernel_rfl) (by kernel_rfl) (by kernel_rfl) (fun _ _ _ h => h) (Or.inr ⟨by rfl, rfl⟩) (by assumption) ?_
          try simp only [Act.put, List.setIfInBounds_toArray, List.set_cons_zero, List.set_cons_succ]
          refine take1 (i := 11) (v := undef) (some 26) rfl rfl (by kernel_rfl) (by kernel_rfl) (by kernel_rfl) (fun _ _ _ h => h) (Or.inr ⟨by rfl, rfl⟩) (by assumption) ?_
          try simp only [Act.put, List.setIfInBounds_toArray, List.set_cons_zero, List.set_cons_succ]
          refine take1 (i := 12) (v := undef) (some 27) rfl rfl (by kernel_rfl) (by kernel_rfl) (by kernel_rfl) (fun _ _ _ h => h) (Or.inr ⟨by rfl, rfl⟩) (by assumption) ?_
          try simp only [Act.put, List.setIfInBounds_toArray, List.set_cons_zero, List.set_cons_succ]
          refine take1 (i := 13) (v := undef) (some 28) rfl rfl (by kernel_rfl) (by kernel_rfl) (by kernel_rfl) (fun _ _ _ h => h) (Or.inr ⟨by rfl, rfl⟩) (by assumption) ?_
          try simp only [Act.put, List.setIfInBounds_toArray, List.set_cons_zero, List.set_cons_succ]
          refine take1 (i := 14) (v := undef) (some 29) rfl rfl (by kernel_rfl) (by kernel_rfl) (by kernel_rfl) (fun _ _ _ h => h) (Or.inr ⟨by rfl, rfl⟩) (by assumption) ?_
          try simp only [Act.put, List.setIfInBounds_toArray, List.set_cons_zero, List.set_cons_succ]
          refine take1 (i := 15) (v := undef) (some 30) rfl rfl (by kernel_rfl) (by kernel_rfl) (by kernel_rfl) (fun _ _ _ h => h) (Or.inr ⟨by rfl, rfl⟩) (by assumption) ?_
          try simp only [Act.put, List.setIfInBounds_toArray, List.set_cons_zero, List.set_cons_succ]
          refine take1 (i := 16) (v := ?v33) (some 31) rfl rfl (by kernel_rfl) (by kernel_rfl) (by kernel_rfl) (fun _ _ _ h => h) (Or.inl ⟨by rfl, ?y33⟩) (by assumption) ?r33
          case y33 => (intro w hSw; (try dsimp only at hSw); go_simp; (first | done | with_reducible rfl))
          try simp only [Act.put, List.setIfInBounds_toArray, List.set_cons_zero, List.set_cons_succ]
          refine take1 (i := 17) (v := ?v34) (some 32) rfl rfl (by kernel_rfl) (by kernel_rfl) (by kernel_rfl) (fun _ _ _ h => h) (Or.inl ⟨by rfl, ?y34⟩) (by assumption) ?r34
          case y34 => (intro w hSw; (try dsimp only at hSw); go_simp; (first | done | with_reducible rfl))
          try simp only [Act.put, List.setIfInBounds_toArray, List.set_cons_zero, List.set_cons_succ]
          refine wpAnyH_done (by kernel_rfl) ?_ _
          go_wp2_with fail
          go_roundw
          case rel => exact ⟨k + 1, by omega, by go_num, HB1.out.trans (hb2.mono HB1.out.size)⟩
          case measure => simp [intOf]; omega
      · obtain rfl : k = p := by omega
        by_cases hok : okLe ps[k]
        · have hk0 : 0 < k := Classical.byContradiction fun h0 => HX.out hlt ⟨hok, fun h => absurd h h0⟩
          obtain ⟨m, rfl⟩ : ∃ m, k = m + 1 := ⟨k - 1, by omega⟩
          have HG : Hid (okLe ps[m + 1]) := Lib.hid (hok)
          have p0 : wr.cell? ⟨b1, o1 + (m + 1) * 7, none⟩ = some (.int .i64 ps[m + 1].id) := k1 0 (by omega)
          have p1 : wr.cell? ⟨b1, o1 + (m + 1) * 7 + 1, none⟩ = some (.int .i64 ps[m + 1].cls) := k1 1 (by omega)
          have p2 : wr.cell? ⟨b1, o1 + (m + 1) * 7 + 2, none⟩ = some (.int .i64 ps[m + 1].tch) := k1 2 (by omega)
          have p3 : wr.cell? ⟨b1, o1 + (m + 1) * 7 + 3, none⟩ = some (.int .i64 ps[m + 1].room) := k1 3 (by omega)
          have p4 : wr.cell? ⟨b1, o1 + (m + 1) * 7 + 4, none⟩ = some (.int .i64 ps[m + 1].day) := k1 4 (by omega)
          have p5 : wr.cell? ⟨b1, o1 + (m + 1) * 7 + 5, none⟩ = some (.int .i64 ps[m + 1].bgn) := k1 5 (by omega)
          have p6 : wr.cell? ⟨b1, o1 + (m + 1) * 7 + 6, none⟩ = some (.int .i64 ps[m + 1].mins) := k1 6 (by omega)
          obtain ⟨b1', o1', e1, _, k2⟩ := R1.out _ hb m (by omega)
          obtain ⟨rfl, rfl⟩ : b1 = b1' ∧ o1 = o1' := by injection e1 with e1; injection e1 with e1 e2; exact ⟨e1, e2⟩
          have p8 : wr.cell? ⟨b1, o1 + m * 7, none⟩ = some (.int .i64 ps[m].id) := k2 0 (by omega)
          have hcmp : decide (ps[m + 1].id ≤ ps[m].id) = true := decide_eq_true (Classical.byContradiction fun hh => HX.out hlt ⟨hok, fun _ => by simp; omega⟩)
          have z3 : (0 : Int) ≤ (m : Int) := by omega
          have z4 : (m : Int) < (ps.length : Int) := by omega
          have z5 : (m : Int) + 1 < (ps.length : Int) := by omega
          have z6 : (0 : Int) ≤ (m : Int) + 1 := by omega
          have z7 : IntKind.i64.wrap (m : Int) = (m : Int) := by rw [IntKind.wrap_i64]; omega
          clear hb k1 k2 e1
          generalize ps[m + 1] = q at p0 p1 p2 p3 p4 p5 p6 hcmp HG
          generalize ps[m] = q2 at p8 hcmp
          go_wp2_with fail
          have hb1 : Below wr.heap.size wr (wr.alloc (.cells #[.int .i64 q.id, .int .i64 q.cls, .int .i64 q.tch, .int .i64 q.room, .int .i64 q.day, .int .i64 q.bgn, .int .i64 q.mins] 31)) := (Below.refl _ _).alloc (Nat.le_refl _) _
          have hk1 : (wr.alloc (.cells #[.int .i64 q.id, .int .i64 q.cls, .int .i64 q.tch, .int .i64 q.room, .int .i64 q.day, .int .i64 q.bgn, .int .i64 q.mins] 31)).heap[wr.heap.size]? = some (.cells #[.int .i64 q.id, .int .i64 q.cls, .int .i64 q.tch, .int .i64 q.room, .int .i64 q.day, .int .i64 q.bgn, .int .i64 q.mins] 31 (0, 0)) := alloc_at rfl
          have hz1 : wr.heap.size < (wr.alloc (.cells #[.int .i64 q.id, .int .i64 q.cls, .int .i64 q.tch, .int .i64 q.room, .int .i64 q.day, .int .i64 q.bgn, .int .i64 q.mins] 31)).heap.size := by simp
          generalize wr.alloc (.cells #[.int .i64 q.id, .int .i64 q.cls, .int .i64 q.tch, .int .i64 q.room, .int .i64 q.day, .int .i64 q.bgn, .int .i64 q.mins] 31) = wx at hb1 hk1 hz1 ⊢
          generalize hBB : wr.heap.size = B at hk1 hz1 ⊢
          obtain ⟨x0, x1, x2, x3, x4, x5, x6, -, -, -, -, -, -, -⟩ := cell7 hk1
          have HB1 : Hid (Below w.heap.size w wx) := Lib.hid (HB.out.trans (hb1.mono HB.out.size))
          have l3 := hz1
          have p7 : wx.cell? ⟨b1, o1 + m * 7, none⟩ = some (.int .i64 q2.id) := (hb1.cell (p := ⟨b1, _, none⟩) l2).trans p8
          have l4 : b1 < wx.heap.size := Nat.lt_of_lt_of_le l2 hb1.size
          clear p0 p1 p2 p3 p4 p5 p6 p8
          clear hk1 hz1 hb1 hBB
          go_wp2_with fail
          refine wp_region_held_drew (S := (fun w' => w'.cell? ⟨B, 0, none⟩ = some (.int .i64 q.id) ∧ w'.cell? ⟨B, 1, none⟩ = some (.int .i64 q.cls) ∧ w'.cell? ⟨B, 2, none⟩ = some (.int .i64 q.tch) ∧ w'.cell? ⟨B, 3, none⟩ = some (.int .i64 q.room) ∧ w'.cell? ⟨B, 4, none⟩ = some (.int .i64 q.day) ∧ w'.cell? ⟨B, 5, none⟩ = some (.int .i64 q.bgn) ∧ w'.cell? ⟨B, 6, none⟩ = some (.int .i64 q.mins) ∧ w'.cell? ⟨b1, o1 + m * 7, none⟩ = some (.int .i64 q2.id))) (by kernel_rfl) (⟨x0, x1, x2, x3, x4, x5, x6, p7⟩) (fun hHeld => ?_)
          refine take1 (i := 0) (v := ?v35) (some 15) rfl rfl (by kernel_rfl) (by kernel_rfl) (by kernel_rfl) (fun _ _ _ h => h) (Or.inl ⟨by rfl, ?y35⟩) (by assumption) ?r35
          case y35 => (intro w hSw; (try dsimp only at hSw); go_simp; (first | done | with_reducible rfl))
          try simp only [Act.put, List.setIfInBounds_toArray, List.set_cons_zero, List.set_cons_succ]
          refine wpAnyH_ready (rs := [1]) (by kernel_rfl) (by simp) ?_
          refine AllReadyH.cons rfl (fun K hK => ?_) AllReadyH.nil
          go_simp
          go_at_call 21
          refine (implIsLesson_any q _ true ⟨fun _ => HG.out, fun _ => rfl⟩).mono ?_
          rintro e w2 ⟨rfl, hb'⟩
          have hb2 : Below wx.heap.size wx w2 := Below.trans (Below.drew (Below.refl _ _)) hb'
          clear hb'
          try go_simp
          refine hK.out _ _ (⟨(hb2.cell (p := ⟨B, 0, none⟩) l3).trans x0, (hb2.cell (p := ⟨B, 1, none⟩) l3).trans x1, (hb2.cell (p := ⟨B, 2, none⟩) l3).trans x2, (hb2.cell (p := ⟨B, 3, none⟩) l3).trans x3, (hb2.cell (p := ⟨B, 4, none⟩) l3).trans x4, (hb2.cell (p := ⟨B, 5, none⟩) l3).trans x5, (hb2.cell (p := ⟨B, 6, none⟩) l3).trans x6, (hb2.cell (p := ⟨b1, _, none⟩) l4).trans p7⟩) (fun hHeld => ?_)
          clear hK K
          try simp only [Act.put, List.setIfInBounds_toArray, List.set_cons_zero, List.set_cons_succ]
          refine take1 (i := 2) (v := ?v36) (some 17) rfl rfl (by kernel_rfl) (by kernel_rfl) (by kernel_rfl) (fun _ _ _ h => h) (Or.inl ⟨by rfl, ?y36⟩) (by assumption) ?r36
          case y36 => (intro w hSw; (try dsimp only at hSw); go_simp; (first | done | with_reducible rfl))
          try simp only [Act.put, List.setIfInBounds_toArray, List.set_cons_zero, List.set_cons_succ]
          refine take1 (i := 3) (v := ?v37) (some 18) rfl rfl (by kernel_rfl) (by kernel_rfl) (by kernel_rfl) (fun _ _ _ h => h) (Or.inl ⟨by rfl, ?y37⟩) (by assumption) ?r37
          case y37 => (intro w hSw; (try dsimp only at hSw); go_simp; (first | done | with_reducible rfl))
          try simp only [Act.put, List.setIfInBounds_toArray, List.set_cons_zero, List.set_cons_succ]
          refine take1 (i := 4) (v := ?v38) (some 19) rfl rfl (by kernel_rfl) (by kernel_rfl) (by kernel_rfl) (fun _ _ _ h => h) (Or.inl ⟨by rfl, ?y38⟩) (by assumption) ?r38
          case y38 => (intro w hSw; (try dsimp only at hSw); go_simp; (first | done | with_reducible rfl))
          try simp only [Act.put, List.setIfInBounds_toArray, List.set_cons_zero, List.set_cons_succ]
          refine take1 (i := 5) (v := ?v39) (some 20) rfl rfl (by kernel_rfl) (by kernel_rfl) (by kernel_rfl) (fun _ _ _ h => h) (Or.inl ⟨by rfl, ?y39⟩) (by assumption) ?r39
          case y39 => (intro w hSw; (try dsimp only at hSw); go_simp; (first | done | with_reducible rfl))
          try simp only [Act.put, List.setIfInBounds_toArray, List.set_cons_zero, List.set_cons_succ]
          refine take1 (i := 6) (v := ?v40) (some 21) rfl rfl (by kernel_rfl) (by kernel_rfl) (by kernel_rfl) (fun _ _ _ h => h) (Or.inl ⟨by rfl, ?y40⟩) (by assumption) ?r40
          case y40 => (intro w hSw; (try dsimp only at hSw); go_simp; (first | done | with_reducible rfl))
          try simp only [Act.put, List.setIfInBounds_toArray, List.set_cons_zero, List.set_cons_succ]
          refine take1 (i := 7) (v := ?v41) (some 22) rfl rfl (by kernel_rfl) (by kernel_rfl) (by kernel_rfl) (fun _ _ _ h => h) (Or.inl ⟨by rfl, ?y41⟩) (by assumption) ?r41
          case y41 => (intro w hSw; (try dsimp only at hSw); go_simp; (first | done | with_reducible rfl))
          try simp only [Act.put, List.setIfInBounds_toArray, List.set_cons_zero, List.set_cons_succ]
          refine take1 (i := 8) (v := ?v42) (some 23) rfl rfl (by kernel_rfl) (by kernel_rfl) (by kernel_rfl) (fun _ _ _ h => h) (Or.inl ⟨by rfl, ?y42⟩) (by assumption) ?r42
          case y42 => (intro w hSw; (try dsimp only at hSw); go_simp; (first | done | with_reducible rfl))
          try simp only [Act.put, List.setIfInBounds_toArray, List.set_cons_zero, List.set_cons_succ]
          refine take1 (i := 9) (v := ?v43) (some 24) rfl rfl (by kernel_rfl) (by kernel_rfl) (by kernel_rfl) (fun _ _ _ h => h) (Or.inl ⟨by rfl, ?y43⟩) (by assumption) ?r43
          case y43 => (intro w hSw; (try dsimp only at hSw); go_simp; (first | done | with_reducible rfl))
          try simp only [Act.put, List.setIfInBounds_toArray, List.set_cons_zero, List.set_cons_succ]
          refine take1 (i := 10) (v := ?v44) (some 25) rfl rfl (by kernel_rfl) (by kernel_rfl) (by kernel_rfl) (fun _ _ _ h => h) (Or.inl ⟨by rfl, ?y44⟩) (by assumption) ?r44
          case y44 => (intro w hSw; (try dsimp only at hSw); go_simp; (first | done | with_reducible rfl))
          try simp only [Act.put, List.setIfInBounds_toArray, List.set_cons_zero, List.set_cons_succ]
          refine take1 (i := 11) (v := ?v45) (some 26) rfl rfl (by kernel_rfl) (by kernel_rfl) (by kernel_rfl) (fun _ _ _ h => h) (Or.inl ⟨by rfl, ?y45⟩) (by assumption) ?r45
          case y45 => (intro w hSw; (try dsimp only at hSw); go_simp; (first | done | with_reducible rfl))
          try simp only [Act.put, List.setIfInBounds_toArray, List.set_cons_zero, List.set_cons_succ]
          refine take1 (i := 12) (v := ?v46) (some 27) rfl rfl (by kernel_rfl) (by kernel_rfl) (by kernel_rfl) (fun _ _ _ h => h) (Or.inl ⟨by rfl, ?y46⟩) (by assumption) ?r46
          case y46 => (intro w hSw; (try dsimp only at hSw); go_simp; (first | done | with_reducible rfl))
          try simp only [Act.put, List.setIfInBounds_toArray, List.set_cons_zero, List.set_cons_succ]
          refine take1 (i := 13) (v := ?v47) (some 28) rfl rfl (by kernel_rfl) (by kernel_rfl) (by kernel_rfl) (fun _ _ _ h => h) (Or.inl ⟨by rfl, ?y47⟩) (by assumption) ?r47
          case y47 => (intro w hSw; (try dsimp only at hSw); go_simp; (first | done | with_reducible rfl))
          try simp only [Act.put, List.setIfInBounds_toArray, List.set_cons_zero, List.set_cons_succ]
          refine take1 (i := 14) (v := ?v48) (some 29) rfl rfl (by kernel_rfl) (by kernel_rfl) (by kernel_rfl) (fun _ _ _ h => h) (Or.inl ⟨by rfl, ?y48⟩) (by assumption) ?r48
          case y48 => (intro w hSw; (try dsimp only at hSw); go_simp; (first | done | with_reducible rfl))
          try simp only [Act.put, List.setIfInBounds_toArray, List.set_cons_zero, List.set_cons_succ]
          refine take1 (i := 15) (v := ?v49) (some 30) rfl rfl (by kernel_rfl) (by kernel_rfl) (by kernel_rfl) (fun _ _ _ h => h) (Or.inl ⟨by rfl, ?y49⟩) (by assumption) ?r49
          case y49 => (intro w hSw; (try dsimp only at hSw); go_simp; (first | done | with_reducible rfl))
          try simp only [Act.put, List.setIfInBounds_toArray, List.set_cons_zero, List.set_cons_succ]
          refine take1 (i := 16) (v := ?v50) (some 31) rfl rfl (by kernel_rfl) (by kernel_rfl) (by kernel_rfl) (fun _ _ _ h => h) (Or.inl ⟨by rfl, ?y50⟩) (by assumption) ?r50
          case y50 => (intro w hSw; (try dsimp only at hSw); go_simp; (first | done | with_reducible rfl))
          try simp only [Act.put, List.setIfInBounds_toArray, List.set_cons_zero, List.set_cons_succ]
          refine take1 (i := 17) (v := ?v51) (some 32) rfl rfl (by kernel_rfl) (by kernel_rfl) (by kernel_rfl) (fun _ _ _ h => h) (Or.inl ⟨by rfl, ?y51⟩) (by assumption) ?r51
          case y51 => (intro w hSw; (try dsimp only at hSw); go_simp; (first | done | with_reducible rfl))
          try simp only [Act.put, List.setIfInBounds_toArray, List.set_cons_zero, List.set_cons_succ]
          refine wpAnyH_done (by kernel_rfl) ?_ _
          go_wp2_with fail
          go_ret
          exact ⟨ret_bool (HR1.out (by omega)).symm, HB1.out.trans (hb2.mono HB1.out.size)⟩
        · have HG := Lib.hid hok
          have p0 : wr.cell? ⟨b1, o1 + k * 7, none⟩ = some (.int .i64 ps[k].id) := k1 0 (by omega)
          have p1 : wr.cell? ⟨b1, o1 + k * 7 + 1, none⟩ = some (.int .i64 ps[k].cls) := k1 1 (by omega)
          have p2 : wr.cell? ⟨b1, o1 + k * 7 + 2, none⟩ = some (.int .i64 ps[k].tch) := k1 2 (by omega)
          have p3 : wr.cell? ⟨b1, o1 + k * 7 + 3, none⟩ = some (.int .i64 ps[k].room) := k1 3 (by omega)
          have p4 : wr.cell? ⟨b1, o1 + k * 7 + 4, none⟩ = some (.int .i64 ps[k].day) := k1 4 (by omega)
          have p5 : wr.cell? ⟨b1, o1 + k * 7 + 5, none⟩ = some (.int .i64 ps[k].bgn) := k1 5 (by omega)
          have p6 : wr.cell? ⟨b1, o1 + k * 7 + 6, none⟩ = some (.int .i64 ps[k].mins) := k1 6 (by omega)
          clear hok
          clear hb k1
          generalize ps[k] = q at p0 p1 p2 p3 p4 p5 p6 HG
          go_wp2_with fail
          have hb1 : Below wr.heap.size wr (wr.alloc (.cells #[.int .i64 q.id, .int .i64 q.cls, .int .i64 q.tch, .int .i64 q.room, .int .i64 q.day, .int .i64 q.bgn, .int .i64 q.mins] 31)) := (Below.refl _ _).alloc (Nat.le_refl _) _
          have hk1 : (wr.alloc (.cells #[.int .i64 q.id, .int .i64 q.cls, .int .i64 q.tch, .int .i64 q.room, .int .i64 q.day, .int .i64 q.bgn, .int .i64 q.mins] 31)).heap[wr.heap.size]? = some (.cells #[.int .i64 q.id, .int .i64 q.cls, .int .i64 q.tch, .int .i64 q.room, .int .i64 q.day, .int .i64 q.bgn, .int .i64 q.mins] 31 (0, 0)) := alloc_at rfl
          have hz1 : wr.heap.size < (wr.alloc (.cells #[.int .i64 q.id, .int .i64 q.cls, .int .i64 q.tch, .int .i64 q.room, .int .i64 q.day, .int .i64 q.bgn, .int .i64 q.mins] 31)).heap.size := by simp
          generalize wr.alloc (.cells #[.int .i64 q.id, .int .i64 q.cls, .int .i64 q.tch, .int .i64 q.room, .int .i64 q.day, .int .i64 q.bgn, .int .i64 q.mins] 31) = wx at hb1 hk1 hz1 ⊢
          generalize hBB : wr.heap.size = B at hk1 hz1 ⊢
          obtain ⟨x0, x1, x2, x3, x4, x5, x6, -, -, -, -, -, -, -⟩ := cell7 hk1
          have HB1 : Hid (Below w.heap.size w wx) := Lib.hid (HB.out.trans (hb1.mono HB.out.size))
          have l3 := hz1
          clear p0 p1 p2 p3 p4 p5 p6
          clear hk1 hz1 hb1 hBB
          go_wp2_with fail
          refine wp_region_held_drew (S := (fun w' => w'.cell? ⟨B, 0, none⟩ = some (.int .i64 q.id) ∧ w'.cell? ⟨B, 1, none⟩ = some (.int .i64 q.cls) ∧ w'.cell? ⟨B, 2, none⟩ = some (.int .i64 q.tch) ∧ w'.cell? ⟨B, 3, none⟩ = some (.int .i64 q.room) ∧ w'.cell? ⟨B, 4, none⟩ = some (.int .i64 q.day) ∧ w'.cell? ⟨B, 5, none⟩ = some (.int .i64 q.bgn) ∧ w'.cell? ⟨B, 6, none⟩ = some (.int .i64 q.mins))) (by kernel_rfl) (⟨x0, x1, x2, x3, x4, x5, x6⟩) (fun hHeld => ?_)
          refine take1 (i := 0) (v := ?v52) (some 15) rfl rfl (by kernel_rfl) (by kernel_rfl) (by kernel_rfl) (fun _ _ _ h => h) (Or.inl ⟨by rfl, ?y52⟩) (by assumption) ?r52
          case y52 => (intro w hSw; (try dsimp only at hSw); go_simp; (first | done | with_reducible rfl))
          try simp only [Act.put, List.setIfInBounds_toArray, List.set_cons_zero, List.set_cons_succ]
          refine wpAnyH_ready (rs := [1]) (by kernel_rfl) (by simp) ?_
          refine AllReadyH.cons rfl (fun K hK => ?_) AllReadyH.nil
          go_simp
          go_at_call 21
          refine (implIsLesson_any q _ false ⟨fun e => by simp at e, fun h => absurd h HG.out⟩).mono ?_
          rintro e w2 ⟨rfl, hb'⟩
          have hb2 : Below wx.heap.size wx w2 := Below.trans (Below.drew (Below.refl _ _)) hb'
          clear hb'
          try go_simp
          refine hK.out _ _ (⟨(hb2.cell (p := ⟨B, 0, none⟩) l3).trans x0, (hb2.cell (p := ⟨B, 1, none⟩) l3).trans x1, (hb2.cell (p := ⟨B, 2, none⟩) l3).trans x2, (hb2.cell (p := ⟨B, 3, none⟩) l3).trans x3, (hb2.cell (p := ⟨B, 4, none⟩) l3).trans x4, (hb2.cell (p := ⟨B, 5, none⟩) l3).trans x5, (hb2.cell (p := ⟨B, 6, none⟩) l3).trans x6⟩) (fun hHeld => ?_)
          clear hK K
          try simp only [Act.put, List.setIfInBounds_toArray, List.set_cons_zero, List.set_cons_succ]
          refine take1 (i := 2) (v := ?v53) (some 17) rfl rfl (by kernel_rfl) (by kernel_rfl) (by kernel_rfl) (fun _ _ _ h => h) (Or.inl ⟨by rfl, ?y53⟩) (by assumption) ?r53
          case y53 => (intro w hSw; (try dsimp only at hSw); go_simp; (first | done | with_reducible rfl))
          try simp only [Act.put, List.setIfInBounds_toArray, List.set_cons_zero, List.set_cons_succ]
          refine take1 (i := 3) (v := ?v54) (some 18) rfl rfl (by kernel_rfl) (by kernel_rfl) (by kernel_rfl) (fun _ _ _ h => h) (Or.inl ⟨by rfl, ?y54⟩) (by assumption) ?r54
          case y54 => (intro w hSw; (try dsimp only at hSw); go_simp; (first | done | with_reducible rfl))
          try simp only [Act.put, List.setIfInBounds_toArray, List.set_cons_zero, List.set_cons_succ]
          refine take1 (i := 4) (v := undef) (some 19) rfl rfl (by kernel_rfl) (by kernel_rfl) (by kernel_rfl) (fun _ _ _ h => h) (Or.inr ⟨by rfl, rfl⟩) (by assumption) ?_
          try simp only [Act.put, List.setIfInBounds_toArray, List.set_cons_zero, List.set_cons_succ]
          refine take1 (i := 5) (v := undef) (some 20) rfl rfl (by kernel_rfl) (by kernel_rfl) (by kernel_rfl) (fun _ _ _ h => h) (Or.inr ⟨by rfl, rfl⟩) (by assumption) ?_
          try simp only [Act.put, List.setIfInBounds_toArray, List.set_cons_zero, List.set_cons_succ]
          refine take1 (i := 6) (v := undef) (some 21) rfl rfl (by kernel_rfl) (by kernel_rfl) (by kernel_rfl) (fun _ _ _ h => h) (Or.inr ⟨by rfl, rfl⟩) (by assumption) ?_
          try simp only [Act.put, List.setIfInBounds_toArray, List.set_cons_zero, List.set_cons_succ]
          refine take1 (i := 7) (v := undef) (some 22) rfl rfl (by kernel_rfl) (by kernel_rfl) (by kernel_rfl) (fun _ _ _ h => h) (Or.inr ⟨by rfl, rfl⟩) (by assumption) ?_
          try simp only [Act.put, List.setIfInBounds_toArray, List.set_cons_zero, List.set_cons_succ]
          refine take1 (i := 8) (v := undef) (some 23) rfl rfl (by kernel_rfl) (by kernel_rfl) (by kernel_rfl) (fun _ _ _ h => h) (Or.inr ⟨by rfl, rfl⟩) (by assumption) ?_
          try simp only [Act.put, List.setIfInBounds_toArray, List.set_cons_zero, List.set_cons_succ]
          refine take1 (i := 9) (v := undef) (some 24) rfl rfl (by kernel_rfl) (by kernel_rfl) (by kernel_rfl) (fun _ _ _ h => h) (Or.inr ⟨by rfl, rfl⟩) (by assumption) ?_
          try simp only [Act.put, List.setIfInBounds_toArray, List.set_cons_zero, List.set_cons_succ]
          refine take1 (i := 10) (v := undef) (some 25) rfl rfl (by kernel_rfl) (by kernel_rfl) (by kernel_rfl) (fun _ _ _ h => h) (Or.inr ⟨by rfl, rfl⟩) (by assumption) ?_
          try simp only [Act.put, List.setIfInBounds_toArray, List.set_cons_zero, List.set_cons_succ]
          refine take1 (i := 11) (v := undef) (some 26) rfl rfl (by kernel_rfl) (by kernel_rfl) (by kernel_rfl) (fun _ _ _ h => h) (Or.inr ⟨by rfl, rfl⟩) (by assumption) ?_
          try simp only [Act.put, List.setIfInBounds_toArray, List.set_cons_zero, List.set_cons_succ]
          refine take1 (i := 12) (v := undef) (some 27) rfl rfl (by kernel_rfl) (by kernel_rfl) (by kernel_rfl) (fun _ _ _ h => h) (Or.inr ⟨by rfl, rfl⟩) (by assumption) ?_
          try simp only [Act.put, List.setIfInBounds_toArray, List.set_cons_zero, List.set_cons_succ]
          refine take1 (i := 13) (v := undef) (some 28) rfl rfl (by kernel_rfl) (by kernel_rfl) (by kernel_rfl) (fun _ _ _ h => h) (Or.inr ⟨by rfl, rfl⟩) (by assumption) ?_
          try simp only [Act.put, List.setIfInBounds_toArray, List.set_cons_zero, List.set_cons_succ]
          refine take1 (i := 14) (v := undef) (some 29) rfl rfl (by kernel_rfl) (by kernel_rfl) (by kernel_rfl) (fun _ _ _ h => h) (Or.inr ⟨by rfl, rfl⟩) (by assumption) ?_
          try simp only [Act.put, List.setIfInBounds_toArray, List.set_cons_zero, List.set_cons_succ]
          refine take1 (i := 15) (v := undef) (some 30) rfl rfl (by kernel_rfl) (by kernel_rfl) (by kernel_rfl) (fun _ _ _ h => h) (Or.inr ⟨by rfl, rfl⟩) (by assumption) ?_
          try simp only [Act.put, List.setIfInBounds_toArray, List.set_cons_zero, List.set_cons_succ]
          refine take1 (i := 16) (v := undef) (some 31) rfl rfl (by kernel_rfl) (by kernel_rfl) (by kernel_rfl) (fun _ _ _ h => h) (Or.inr ⟨by rfl, rfl⟩) (by assumption) ?_
          try simp only [Act.put, List.setIfInBounds_toArray, List.set_cons_zero, List.set_cons_succ]
          refine take1 (i := 17) (v := ?v68) (some 32) rfl rfl (by kernel_rfl) (by kernel_rfl) (by kernel_rfl) (fun _ _ _ h => h) (Or.inl ⟨by rfl, ?y68⟩) (by assumption) ?r68
          case y68 => (intro w hSw; (try dsimp only at hSw); go_simp; (first | done | with_reducible rfl))
          try simp only [Act.put, List.setIfInBounds_toArray, List.set_cons_zero, List.set_cons_succ]
          refine wpAnyH_done (by kernel_rfl) ?_ _
          go_wp2_with fail
          go_ret
          exact ⟨ret_bool (HR1.out (by omega)).symm, HB1.out.trans (hb2.mono HB1.out.size)⟩
    · have HE : Hid (r = true) := Lib.hid (HR2.out (by omega))
      clear hb
      go_wp2_with fail
      go_ret
      exact ⟨ret_bool HE.out.symm, HB.out⟩
set_option maxRecDepth 100000 in
set_option maxHeartbeats 400000 in
theorem iGood_long (v : Value) (ps : List Les) (w : World) (h : RowsR 7 lesC w v ps) (hl : ¬ ps.length ≤ 12) :
    Calls Tryd.prog 24 #[v] w fun e w' => e = .returned (.bool false) ∧ Below w.heap.size w w' := by
  have hm : ps.length ≤ 9223372036854775807 := by obtain ⟨_, _, _, ⟨m, _⟩, _⟩ := h; exact m
  obtain ⟨a, cp, rfl⟩ := h.form
  have hx : (12 : Int) < (ps.length : Int) := by omega
  clear h hl
  go_enter Tryd.func24, Tryd.ntmps24
  go_wp2_with fail
  go_ret
  exact ⟨rfl, Below.refl _ _⟩
theorem iGood_any (v : Value) (ps : List Les) (w : World) (h : RowsR 7 lesC w v ps) (r : Bool) (hr : r = true ↔ okLs ps) :
    Calls Tryd.prog 24 #[v] w fun e w' => e = .returned (.bool r) ∧ Below w.heap.size w w' := by
  by_cases h12 : ps.length ≤ 12
  · obtain ⟨p, hp, hpre, hx⟩ := first_bad ps.length (fun i h => okLsAt ps i h)
    exact iGood_scan v ps w h h12 p hp hpre hx r (fun hlt => Bool.eq_false_iff.2 fun e => hx hlt ((hr.1 e).1 p hlt)) (fun he => hr.2 ⟨fun i hi => hpre i hi (by omega), h12⟩)
  · have : r = false := Bool.eq_false_iff.2 fun e => h12 (hr.1 e).2
    subst this
    exact iGood_long v ps w h h12
theorem iGood_yes (v : Value) (ps : List Les) (w : World) (h : RowsR 7 lesC w v ps) (ho : okLs ps) :
    Calls Tryd.prog 24 #[v] w fun e w' => e = .returned (.bool true) ∧ Below w.heap.size w w' := iGood_any v ps w h true ⟨fun _ => ho, fun _ => rfl⟩
theorem iGood_no (v : Value) (ps : List Les) (w : World) (h : RowsR 7 lesC w v ps) (ho : ¬ okLs ps) :
    Calls Tryd.prog 24 #[v] w fun e w' => e = .returned (.bool false) ∧ Below w.heap.size w w' := iGood_any v ps w h false ⟨fun e => by simp at e, fun h => absurd h ho⟩
end Go.Proofs.YtblbeoeklkcamaaDoor
