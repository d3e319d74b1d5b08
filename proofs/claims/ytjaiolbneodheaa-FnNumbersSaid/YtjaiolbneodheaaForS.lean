/- The model's FrameFor, Cleared and MadeStandard. -/
import Derived.Test.YtjaiolbneodheaaFor
import Derived.Test.YtjaiolbneodheaaSf
namespace Go.Proofs.Ytjaiolbneodheaa
set_option linter.unusedVariables false
open Go.RowKit

def okFor (up lo r n : Int) : Prop := (1 ≤ up ∧ up ≤ 2) ∧ (4 ≤ lo ∧ lo ≤ 5) ∧ (1 ≤ r ∧ r ≤ 8) ∧ (0 ≤ n ∧ n ≤ (10 : Int) ^ r.toNat - 1)
theorem rods_nil (w : World) : RodsR w (.slice none 0 0) [] := ⟨none, 0, rfl, ⟨Nat.zero_le _, Nat.le_refl _⟩, fun h => absurd rfl h⟩
theorem own_nil (w : World) (B : Nat) (e : TypeId) (size : Nat) : w.ownsRow B e size (.slice none 0 0) 0 [] := ⟨by simp, .inl ⟨rfl, rfl⟩⟩

set_option maxRecDepth 100000 in
set_option maxHeartbeats 1600000 in
theorem specFrameFor_ok (up lo : Int) (r : Nat) (n : Int) (w : World) (h : okFor up lo r n) :
    Calls Try.prog 11 #[.int .i64 up, .int .i64 lo, .int .i64 r, .int .i64 n] w fun e w' => (∃ v, e = .returned (.tuple #[.agg #[.int .i64 up, .int .i64 lo, v], .bool true]) ∧ RodsR w' v (forR r n)) ∧ Below w.heap.size w w' := by
  obtain ⟨⟨h1, h2⟩, ⟨h3, h4⟩, ⟨h5, h6⟩, h7, h8⟩ := h
  rw [Int.toNat_natCast] at h8
  obtain ⟨p1, p2⟩ := pow_bd r (by omega)
  have HP : Hid (∀ w, Calls Try.prog 94 #[.int .i64 r] w fun e w' => e = .returned (.int .i64 ((10 : Int) ^ r)) ∧ w' = w) := Lib.hid fun w => l2Power_any r w (by omega)
  generalize (10 : Int) ^ r = p at p1 p2 h8 HP
  have HB0 : Hid (Below w.heap.size w w) := Lib.hid (Below.refl _ _)
  go_enter Try.func11, Try.ntmps11
  go_wp2_with fail
  have hb : Below w.heap.size w (w.alloc (.cells #[.int .i64 0, .int .i64 0, .slice none 0 0] 28)) := (Below.refl _ _).alloc (Nat.le_refl _) _
  have hk : (w.alloc (.cells #[.int .i64 0, .int .i64 0, .slice none 0 0] 28)).heap[w.heap.size]? = some (.cells #[.int .i64 0, .int .i64 0, .slice none 0 0] 28 (0, 0)) := alloc_at rfl
  have hz : (w.alloc (.cells #[.int .i64 0, .int .i64 0, .slice none 0 0] 28)).heap.size = w.heap.size + 1 := by simp
  generalize w.alloc (.cells #[.int .i64 0, .int .i64 0, .slice none 0 0] 28) = w1 at hb hk hz ⊢
  have HB1 : Hid (Below w.heap.size w w1) := Lib.hid (HB0.out.trans (hb.mono HB0.out.size))
  have HZ1 : Hid (w.heap.size ≤ w1.heap.size) := Lib.hid hb.size
  have HKz1 := Lib.hid hk
  replace HZ1 : Hid (w.heap.size < w1.heap.size) := Lib.hid (by omega)
  have HE1 := Lib.hid hz
  clear hb hk hz
  have ltz := lt_of_block HKz1.out
  obtain ⟨cz0, cz1, cz2, fz0, fz1, fz2⟩ := cell3 HKz1.out
  refine (l1In_yes _ _ _ _ ⟨h1, h2⟩).mono ?_
  rintro e w' ⟨rfl, hw⟩
  subst w'
  go_wp2_with fail
  refine (l1In_yes _ _ _ _ ⟨h3, h4⟩).mono ?_
  rintro e w' ⟨rfl, hw⟩
  subst w'
  go_wp2_with fail
  refine (l1In_yes _ _ _ _ ⟨h5, h6⟩).mono ?_
  rintro e w' ⟨rfl, hw⟩
  subst w'
  go_wp2_with fail
  refine (HP.out _).mono ?_
  rintro e w' ⟨rfl, hw⟩
  subst w'
  go_wp2_with fail
  refine (l1In_yes _ _ _ _ ⟨h7, h8⟩).mono ?_
  rintro e w' ⟨rfl, hw⟩
  subst w'
  go_wp2_with fail
  refine (l2For_any up lo r n _ (by omega) ⟨h7, by omega⟩).mono ?_
  rintro e w2 ⟨⟨v, rfl, hown⟩, hb⟩
  have HB2 : Hid (Below w.heap.size w w2) := Lib.hid (HB1.out.trans (hb.mono HB1.out.size))
  have HZ2 : Hid (w1.heap.size ≤ w2.heap.size) := Lib.hid hb.size
  have HKz2 := Lib.hid ((hb.block _ (lt_of_block HKz1.out)).trans HKz1.out)
  clear hb
  have HW := Lib.hid (own_mono hown HB1.out.size)
  have HW1 := Lib.hid hown
  have hz1 := HZ1.out
  obtain ⟨av, cv, rfl⟩ := own_form hown
  clear hown
  clear cz0 cz1 cz2 fz0 fz1 fz2 ltz
  have ltz := lt_of_block HKz2.out
  obtain ⟨cz0, cz1, cz2, fz0, fz1, fz2⟩ := cell3 HKz2.out
  go_wp2_with fail
  refine bodyPost_ret (v := .tuple #[.agg #[.int .i64 up, .int .i64 lo, .slice av r cv], .bool true]) (by simp [results, Try.results11, go_sem, cz0, cz1, cz2]) rfl ⟨⟨_, rfl, ?_⟩, ?_⟩
  · have := ownsRow_setCell_below (ownsRow_setCell_below (ownsRow_setCell_below HW1.out (a := ⟨w.heap.size, 0, none⟩) hz1 (.int .i64 up)) (a := ⟨w.heap.size, 1, none⟩) hz1 (.int .i64 lo)) (a := ⟨w.heap.size, 2, none⟩) hz1 (.slice av r cv)
    have h' := RodsR.of_own (rs := forR r n) (by rw [forR_len]; exact this)
    exact h'
  · exact ((HB2.out.setCell (by simp) _).setCell (by simp) _).setCell (by simp) _

set_option maxRecDepth 100000 in
set_option maxHeartbeats 1600000 in
theorem specFrameFor_bad (up lo r n : Int) (w : World) (h : ¬ okFor up lo r n) :
    Calls Try.prog 11 #[.int .i64 up, .int .i64 lo, .int .i64 r, .int .i64 n] w fun e w' => e = .returned (.tuple #[.agg #[.int .i64 0, .int .i64 0, .slice none 0 0], .bool false]) ∧ Below w.heap.size w w' := by
  have HB0 : Hid (Below w.heap.size w w) := Lib.hid (Below.refl _ _)
  go_enter Try.func11, Try.ntmps11
  go_wp2_with fail
  have hb : Below w.heap.size w (w.alloc (.cells #[.int .i64 0, .int .i64 0, .slice none 0 0] 28)) := (Below.refl _ _).alloc (Nat.le_refl _) _
  have hk : (w.alloc (.cells #[.int .i64 0, .int .i64 0, .slice none 0 0] 28)).heap[w.heap.size]? = some (.cells #[.int .i64 0, .int .i64 0, .slice none 0 0] 28 (0, 0)) := alloc_at rfl
  have hz : (w.alloc (.cells #[.int .i64 0, .int .i64 0, .slice none 0 0] 28)).heap.size = w.heap.size + 1 := by simp
  generalize w.alloc (.cells #[.int .i64 0, .int .i64 0, .slice none 0 0] 28) = w1 at hb hk hz ⊢
  have HB1 : Hid (Below w.heap.size w w1) := Lib.hid (HB0.out.trans (hb.mono HB0.out.size))
  have HZ1 : Hid (w.heap.size ≤ w1.heap.size) := Lib.hid hb.size
  have HKz1 := Lib.hid hk
  replace HZ1 : Hid (w.heap.size < w1.heap.size) := Lib.hid (by omega)
  have HE1 := Lib.hid hz
  clear hb hk hz
  have ltz := lt_of_block HKz1.out
  obtain ⟨cz0, cz1, cz2, fz0, fz1, fz2⟩ := cell3 HKz1.out
  by_cases h1 : 1 ≤ up ∧ up ≤ 2
  · refine (l1In_yes _ _ _ _ h1).mono ?_
    rintro e w' ⟨rfl, hw⟩
    subst w'
    go_wp2_with fail
    by_cases h2 : 4 ≤ lo ∧ lo ≤ 5
    · refine (l1In_yes _ _ _ _ h2).mono ?_
      rintro e w' ⟨rfl, hw⟩
      subst w'
      go_wp2_with fail
      by_cases h3 : 1 ≤ r ∧ r ≤ 8
      · obtain ⟨q, rfl⟩ : ∃ q : Nat, r = (q : Int) := ⟨r.toNat, by omega⟩
        have h4 : ¬ (0 ≤ n ∧ n ≤ (10 : Int) ^ q - 1) := fun h' => h ⟨h1, h2, h3, by rw [Int.toNat_natCast]; exact h'⟩
        obtain ⟨p1, p2⟩ := pow_bd q (by omega)
        have HP : Hid (∀ w, Calls Try.prog 94 #[.int .i64 q] w fun e w' => e = .returned (.int .i64 ((10 : Int) ^ q)) ∧ w' = w) := Lib.hid fun w => l2Power_any q w (by omega)
        generalize (10 : Int) ^ q = p at p1 p2 h4 HP
        clear h
        refine (l1In_yes _ _ _ _ h3).mono ?_
        rintro e w' ⟨rfl, hw⟩
        subst w'
        go_wp2_with fail
        refine (HP.out _).mono ?_
        rintro e w' ⟨rfl, hw⟩
        subst w'
        go_wp2_with fail
        refine (l1In_no _ _ _ _ h4).mono ?_
        rintro e w' ⟨rfl, hw⟩
        subst w'
        go_wp2_with fail
        exact bodyPost_ret (v := .tuple #[.agg #[.int .i64 0, .int .i64 0, .slice none 0 0], .bool false]) (by simp [results, Try.results11, go_sem, cz0, cz1, cz2]) rfl ⟨rfl, ((HB1.out.setCell (by simp) _).setCell (by simp) _).setCell (by simp) _⟩
      · refine (l1In_no _ _ _ _ h3).mono ?_
        rintro e w' ⟨rfl, hw⟩
        subst w'
        go_wp2_with fail
        exact bodyPost_ret (v := .tuple #[.agg #[.int .i64 0, .int .i64 0, .slice none 0 0], .bool false]) (by simp [results, Try.results11, go_sem, cz0, cz1, cz2]) rfl ⟨rfl, ((HB1.out.setCell (by simp) _).setCell (by simp) _).setCell (by simp) _⟩
    · refine (l1In_no _ _ _ _ h2).mono ?_
      rintro e w' ⟨rfl, hw⟩
      subst w'
      go_wp2_with fail
      exact bodyPost_ret (v := .tuple #[.agg #[.int .i64 0, .int .i64 0, .slice none 0 0], .bool false]) (by simp [results, Try.results11, go_sem, cz0, cz1, cz2]) rfl ⟨rfl, ((HB1.out.setCell (by simp) _).setCell (by simp) _).setCell (by simp) _⟩
  · refine (l1In_no _ _ _ _ h1).mono ?_
    rintro e w' ⟨rfl, hw⟩
    subst w'
    go_wp2_with fail
    exact bodyPost_ret (v := .tuple #[.agg #[.int .i64 0, .int .i64 0, .slice none 0 0], .bool false]) (by simp [results, Try.results11, go_sem, cz0, cz1, cz2]) rfl ⟨rfl, ((HB1.out.setCell (by simp) _).setCell (by simp) _).setCell (by simp) _⟩
end Go.Proofs.Ytjaiolbneodheaa
