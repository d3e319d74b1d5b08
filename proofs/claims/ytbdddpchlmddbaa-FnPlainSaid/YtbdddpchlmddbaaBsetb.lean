/- The model's SetBoard. -/
import Derived.Test.YtbdddpchlmddbaaBset
namespace Go.Proofs.Ytbdddpchlmddbaa
set_option linter.unusedVariables false
open Go.RowKit

set_option maxRecDepth 100000 in
set_option maxHeartbeats 800000 in
theorem l5Set_no (L n : Int) (w : World) (h0 : n < 0) :
    Calls Try.prog 33 #[.int .i64 L, .int .i64 n] w fun e w' => e = .returned (.tuple #[.agg #[.slice none 0 0, .slice none 0 0], .bool false]) ∧ Below w.heap.size w w' := by
  have HB0 : Hid (Below w.heap.size w w) := Lib.hid (Below.refl _ _)
  go_enter Try.func33, Try.ntmps33
  go_wp2_with fail
  have hb : Below w.heap.size w (w.alloc (.cells #[.slice none 0 0, .slice none 0 0] 26)) := (Below.refl _ _).alloc (Nat.le_refl _) _
  have hk : (w.alloc (.cells #[.slice none 0 0, .slice none 0 0] 26)).heap[w.heap.size]? = some (.cells #[.slice none 0 0, .slice none 0 0] 26 (0, 0)) := alloc_at rfl
  have hz : (w.alloc (.cells #[.slice none 0 0, .slice none 0 0] 26)).heap.size = w.heap.size + 1 := by simp
  generalize w.alloc (.cells #[.slice none 0 0, .slice none 0 0] 26) = w1 at hb hk hz ⊢
  have HB1 : Hid (Below w.heap.size w w1) := Lib.hid (HB0.out.trans (hb.mono HB0.out.size))
  have HZ1 : Hid (w.heap.size ≤ w1.heap.size) := Lib.hid hb.size
  have HKz1 := Lib.hid hk
  replace HZ1 : Hid (w.heap.size < w1.heap.size) := Lib.hid (by omega)
  have HE1 := Lib.hid hz
  clear hb hk hz
  have ltz := lt_of_block HKz1.out
  obtain ⟨cz0, cz1, fz0, fz1⟩ := cell2 HKz1.out
  go_wp2_with fail
  exact bodyPost_ret (v := .tuple #[.agg #[.slice none 0 0, .slice none 0 0], .bool false]) (by simp [results, Try.results33, go_sem, cz0, cz1]) rfl ⟨rfl, by first | exact HB1.out | exact (HB1.out.setCell (p := ⟨w.heap.size, 0, none⟩) (Nat.le_refl _) _).setCell (p := ⟨w.heap.size, 1, none⟩) (Nat.le_refl _) _⟩
theorem l5Set_any (L : Nat) (n : Int) (w : World) (hL : L ≤ 6) (hm : n ≤ 9223372036854775807) (qs qt : List Int) (r : Bool) (hk : SetF L n qs qt r) :
    Calls Try.prog 33 #[.int .i64 L, .int .i64 n] w fun e w' => (∃ s1 t1, e = .returned (.tuple #[.agg #[s1, t1], .bool r]) ∧ OwB w.heap.size w'.heap.size w' s1 t1 qs qt) ∧ Below w.heap.size w w' := by
  by_cases h0 : 0 ≤ n
  · refine l5Set_yes L n w hL h0 hm qs qt r ?_
    rcases hk with ⟨h1, h2⟩ | ⟨h1, h2⟩
    · exact .inl ⟨h1.2, h2⟩
    · exact .inr ⟨by rcases Int.lt_or_le 0 (n / 10 ^ L) with h | h; exact h; exact absurd ⟨h0, h⟩ h1, h2⟩
  · rcases hk with ⟨h1, h2⟩ | ⟨_, rfl, rfl, rfl⟩
    · exact absurd h1.1 h0
    · refine (l5Set_no L n w (by omega)).mono ?_
      rintro e w' ⟨rfl, hb⟩
      exact ⟨⟨_, _, rfl, OwB.nil' _ _ _⟩, hb⟩
theorem setF_or (L : Nat) (n : Int) : ∃ qs qt r, SetF L n qs qt r := by
  by_cases h : 0 ≤ n ∧ n / 10 ^ L ≤ 0
  · exact ⟨_, _, _, .inl ⟨h, rfl, rfl, rfl⟩⟩
  · exact ⟨_, _, _, .inr ⟨h, rfl, rfl, rfl⟩⟩
/-- The answer of SetBoard. -/
def SbF (L n : Int) (qs qt : List Int) (r : Bool) : Prop :=
  ((1 ≤ L ∧ L ≤ 6) ∧ SetF L.toNat n qs qt r) ∨ (¬ (1 ≤ L ∧ L ≤ 6) ∧ qs = [] ∧ qt = [] ∧ r = false)
theorem sbF_or (L n : Int) : ∃ qs qt r, SbF L n qs qt r := by
  by_cases h : 1 ≤ L ∧ L ≤ 6
  · obtain ⟨qs, qt, r, h2⟩ := setF_or L.toNat n
    exact ⟨qs, qt, r, .inl ⟨h, h2⟩⟩
  · exact ⟨_, _, _, .inr ⟨h, rfl, rfl, rfl⟩⟩
set_option maxRecDepth 100000 in
set_option maxHeartbeats 1600000 in
theorem specSetBoard_any (L n : Int) (w : World) (hm : n ≤ 9223372036854775807) (qs qt : List Int) (r : Bool) (hk : SbF L n qs qt r) :
    Calls Try.prog 16 #[.int .i64 L, .int .i64 n] w fun e w' => (∃ s1 t1, e = .returned (.tuple #[.agg #[s1, t1], .bool r]) ∧ OwB w.heap.size w'.heap.size w' s1 t1 qs qt) ∧ Below w.heap.size w w' := by
  rcases hk with ⟨h1, h2⟩ | ⟨h1, rfl, rfl, rfl⟩
  · obtain ⟨m, rfl⟩ : ∃ m : Nat, L = m := ⟨L.toNat, by omega⟩
    have H1 := Lib.hid h1
    have HC := Lib.hid (fun w => l5Set_any m n w (by omega) hm qs qt r (by rw [Int.toNat_natCast] at h2; exact h2))
    clear h1 h2
    have HB0 : Hid (Below w.heap.size w w) := Lib.hid (Below.refl _ _)
    go_enter Try.func16, Try.ntmps16
    go_wp2_with fail
    have hb : Below w.heap.size w (w.alloc (.cells #[.slice none 0 0, .slice none 0 0] 26)) := (Below.refl _ _).alloc (Nat.le_refl _) _
    have hk : (w.alloc (.cells #[.slice none 0 0, .slice none 0 0] 26)).heap[w.heap.size]? = some (.cells #[.slice none 0 0, .slice none 0 0] 26 (0, 0)) := alloc_at rfl
    have hz : (w.alloc (.cells #[.slice none 0 0, .slice none 0 0] 26)).heap.size = w.heap.size + 1 := by simp
    generalize w.alloc (.cells #[.slice none 0 0, .slice none 0 0] 26) = w1 at hb hk hz ⊢
    have HB1 : Hid (Below w.heap.size w w1) := Lib.hid (HB0.out.trans (hb.mono HB0.out.size))
    have HZ1 : Hid (w.heap.size ≤ w1.heap.size) := Lib.hid hb.size
    have HKz1 := Lib.hid hk
    replace HZ1 : Hid (w.heap.size < w1.heap.size) := Lib.hid (by omega)
    have HE1 := Lib.hid hz
    clear hb hk hz
    have ltz := lt_of_block HKz1.out
    obtain ⟨cz0, cz1, fz0, fz1⟩ := cell2 HKz1.out
    have hlz : w.heap.size < w1.heap.size := ltz
    refine (l1In_yesq _ _ _ _ H1.out).mono ?_
    rintro e w' ⟨rfl, hw⟩
    subst w'
    go_wp2_with fail
    refine (HC.out _).mono ?_
    rintro e w2 ⟨⟨s1, s2, rfl, ho⟩, hb⟩
    have HB2 : Hid (Below w.heap.size w w2) := Lib.hid (HB1.out.trans (hb.mono HB1.out.size))
    have HZ2 : Hid (w1.heap.size ≤ w2.heap.size) := Lib.hid hb.size
    have HKz2 := Lib.hid ((hb.block _ (lt_of_block HKz1.out)).trans HKz1.out)
    clear hb
    obtain ⟨p1, k1, p2, k2, rfl, rfl⟩ := ho.form
    have HOv2 := Lib.hid (ho)
    clear ho
    clear cz0 cz1 fz0 fz1 ltz
    have ltz := lt_of_block HKz2.out
    obtain ⟨cz0, cz1, fz0, fz1⟩ := cell2 HKz2.out
    go_wp2_with fail
    have hkz := box2_set HKz2.out (.slice p1 qs.length k1) (.slice p2 qt.length k2)
    have hm : Btw w.heap.size (w.heap.size + 1) w2 ((w2.setCell ⟨w.heap.size, 0, none⟩ (.slice p1 qs.length k1)).setCell ⟨w.heap.size, 1, none⟩ (.slice p2 qt.length k2)) := ((Btw.refl w.heap.size (w.heap.size + 1) w2).setCell (p := ⟨w.heap.size, 0, none⟩) (Nat.le_refl _) (Nat.lt_succ_self _) _).setCell (p := ⟨w.heap.size, 1, none⟩) (Nat.le_refl _) (Nat.lt_succ_self _) _
    generalize (w2.setCell ⟨w.heap.size, 0, none⟩ (.slice p1 qs.length k1)).setCell ⟨w.heap.size, 1, none⟩ (.slice p2 qt.length k2) = w3 at hkz hm ⊢
    have HZ3 : Hid (w2.heap.size ≤ w3.heap.size) := Lib.hid hm.size
    have HB3 : Hid (Below w.heap.size w w3) := Lib.hid (HB2.out.trans (hm.below.mono (by have := HZ1.out; have := HZ2.out; have := HB0.out.size; omega)))
    have HOv3 := Lib.hid (HOv2.out.btw hm (by have := HZ1.out; have := HZ2.out; omega))
    clear hm
    have HKz3 := Lib.hid (hkz)
    clear hkz
    have hb : Below w3.heap.size w3 (w3.alloc (.cells #[.slice p1 qs.length k1, .slice p2 qt.length k2] 26)) := (Below.refl _ _).alloc (Nat.le_refl _) _
    have hk : (w3.alloc (.cells #[.slice p1 qs.length k1, .slice p2 qt.length k2] 26)).heap[w3.heap.size]? = some (.cells #[.slice p1 qs.length k1, .slice p2 qt.length k2] 26 (0, 0)) := alloc_at rfl
    have hz : (w3.alloc (.cells #[.slice p1 qs.length k1, .slice p2 qt.length k2] 26)).heap.size = w3.heap.size + 1 := by simp
    generalize w3.alloc (.cells #[.slice p1 qs.length k1, .slice p2 qt.length k2] 26) = w4 at hb hk hz ⊢
    have HB4 : Hid (Below w.heap.size w w4) := Lib.hid (HB3.out.trans (hb.mono HB3.out.size))
    have HZ4 : Hid (w3.heap.size ≤ w4.heap.size) := Lib.hid hb.size
    have HOv4 := Lib.hid (HOv3.out.next hb)
    have HKz4 := Lib.hid ((hb.block _ (lt_of_block HKz3.out)).trans HKz3.out)
    have HKo4 := Lib.hid hk
    replace HZ4 : Hid (w3.heap.size < w4.heap.size) := Lib.hid (by omega)
    have HE4 := Lib.hid hz
    clear hb hk hz
    clear cz0 cz1 fz0 fz1 ltz
    have ltz := lt_of_block HKz4.out
    obtain ⟨cz0, cz1, fz0, fz1⟩ := cell2 HKz4.out
    have lto := lt_of_block HKo4.out
    obtain ⟨co0, co1, fo0, fo1⟩ := cell2 HKo4.out
    exact bodyPost_ret (v := .tuple #[.agg #[.slice p1 qs.length k1, .slice p2 qt.length k2], .bool r]) (by simp [results, Try.results16, go_sem, cz0, cz1]) rfl ⟨⟨_, _, rfl, HOv4.out.mono (by omega) (by have := HZ1.out; have := HZ2.out; have := HZ3.out; have := HZ4.out;  omega)⟩, HB4.out⟩
  · have H1 := Lib.hid h1
    clear h1
    have HB0 : Hid (Below w.heap.size w w) := Lib.hid (Below.refl _ _)
    go_enter Try.func16, Try.ntmps16
    go_wp2_with fail
    have hb : Below w.heap.size w (w.alloc (.cells #[.slice none 0 0, .slice none 0 0] 26)) := (Below.refl _ _).alloc (Nat.le_refl _) _
    have hk : (w.alloc (.cells #[.slice none 0 0, .slice none 0 0] 26)).heap[w.heap.size]? = some (.cells #[.slice none 0 0, .slice none 0 0] 26 (0, 0)) := alloc_at rfl
    have hz : (w.alloc (.cells #[.slice none 0 0, .slice none 0 0] 26)).heap.size = w.heap.size + 1 := by simp
    generalize w.alloc (.cells #[.slice none 0 0, .slice none 0 0] 26) = w1 at hb hk hz ⊢
    have HB1 : Hid (Below w.heap.size w w1) := Lib.hid (HB0.out.trans (hb.mono HB0.out.size))
    have HZ1 : Hid (w.heap.size ≤ w1.heap.size) := Lib.hid hb.size
    have HKz1 := Lib.hid hk
    replace HZ1 : Hid (w.heap.size < w1.heap.size) := Lib.hid (by omega)
    have HE1 := Lib.hid hz
    clear hb hk hz
    have ltz := lt_of_block HKz1.out
    obtain ⟨cz0, cz1, fz0, fz1⟩ := cell2 HKz1.out
    refine (l1In_noq _ _ _ _ H1.out).mono ?_
    rintro e w' ⟨rfl, hw⟩
    subst w'
    go_wp2_with fail
    exact bodyPost_ret (v := .tuple #[.agg #[.slice none 0 0, .slice none 0 0], .bool false]) (by simp [results, Try.results16, go_sem, cz0, cz1]) rfl ⟨⟨_, _, rfl, OwB.nil' _ _ _⟩, by first | exact HB1.out | exact (HB1.out.setCell (p := ⟨w.heap.size, 0, none⟩) (Nat.le_refl _) _).setCell (p := ⟨w.heap.size, 1, none⟩) (Nat.le_refl _) _⟩
end Go.Proofs.Ytbdddpchlmddbaa
