/- The program's functions for taking away. -/
import Derived.Test.YtjkjaadcdolbhaaKo
namespace Go.Proofs.Ytjkjaadcdolbhaa
set_option linter.unusedVariables false
open Go.RowKit

theorem rods_one {w : World} {b : Nat} {q d : Int} {T : TypeId} (h : w.heap[b]? = some (.cells #[.int .i64 q, .int .i64 d] T (0, 0))) : RodsR w (.slice (some ⟨b, 0, none⟩) 1 1) [(q, d)] := by
  obtain ⟨c0, c1, -, -⟩ := cell2 h
  refine ⟨_, 1, rfl, ⟨by simp [maxLen], Nat.le_refl _⟩, fun _ => ⟨b, 0, rfl, lt_of_block h, fun i hi => ?_⟩⟩
  obtain rfl : i = 0 := by simp at hi; exact hi
  exact ⟨c0, c1⟩
theorem subD_yes (up lo : Int) (sv : Value) (rs : List (Int × Int)) (qn : Nat) (d : Int) (w : World) (h : RodsR w sv rs) (b : Nat) (hb : w.heap[b]? = some (.cells #[.int .i64 qn, .int .i64 d] 87 (0, 0))) (hc : canTD up lo rs qn d) :
    Calls Try.prog 70 #[.agg #[.int .i64 up, .int .i64 lo, sv], .slice (some ⟨b, 0, none⟩) 1 1] w fun e w' => (∃ s1 g1 k1, e = .returned (.tuple #[.agg #[.int .i64 up, .int .i64 lo, s1, .slice (some ⟨g1, 0, none⟩) (brM (qn + 1) d rs).length k1, .int .i64 ((brC (qn + 1) d rs : Nat) : Int)], .bool true]) ∧ w'.ownsRow w.heap.size 83 2 s1 (brR (qn + 1) d rs).length (flat (brR (qn + 1) d rs)) ∧ w'.ownsRow w.heap.size 75 3 (.slice (some ⟨g1, 0, none⟩) (brM (qn + 1) d rs).length k1) (brM (qn + 1) d rs).length (flatC mvC (brM (qn + 1) d rs))) ∧ Below w.heap.size w w' := by
  refine (subOf_x up lo sv rs w h _ _ (rods_one hb) (by simp) _ (Or.inr ⟨hc.1, hc.2.1, (run_one (qn : Int) d).1 hc.2.2⟩)).mono ?_
  rintro e w' ⟨⟨RT, MT, CT, s1, g1, k1, hX, he, or, om⟩ | ⟨hX, he⟩, hb⟩
  · injection hX with hX
    injection hX with h1 hX
    injection hX with h2 h3
    rw [Int.toNat_natCast] at h1 h2 h3
    subst h1 h2 h3
    exact ⟨⟨s1, g1, k1, he, or, om⟩, hb⟩
  · cases hX
theorem subD_no (up lo : Int) (sv : Value) (rs : List (Int × Int)) (q d : Int) (w : World) (h : RodsR w sv rs) (b : Nat) (hb : w.heap[b]? = some (.cells #[.int .i64 q, .int .i64 d] 87 (0, 0))) (hc : ¬ canTD up lo rs q d) :
    Calls Try.prog 70 #[.agg #[.int .i64 up, .int .i64 lo, sv], .slice (some ⟨b, 0, none⟩) 1 1] w fun e w' => e = .returned (.tuple #[.agg #[.int .i64 0, .int .i64 0, .slice none 0 0, .slice none 0 0, .int .i64 0], .bool false]) ∧ Below w.heap.size w w' := by
  obtain ⟨X, hXn⟩ : ∃ X : Option (List (Int × Int) × List Mv × Nat), X = none := ⟨_, rfl⟩
  have hX : (¬ (goodF up lo rs ∧ stdF rs) ∧ X = none) ∨ (goodF up lo rs ∧ stdF rs ∧ runT [(q, d)] rs [] 0 = X) := by
    by_cases hs : goodF up lo rs ∧ stdF rs
    · exact Or.inr ⟨hs.1, hs.2, by rw [hXn]; exact (run_one q d).2 (fun h' => hc ⟨hs.1, hs.2, h'⟩)⟩
    · exact Or.inl ⟨hs, hXn⟩
  refine (subOf_x up lo sv rs w h _ _ (rods_one hb) (by simp) X hX).mono ?_
  rintro e w' ⟨⟨RT, MT, CT, s1, g1, k1, hX, _⟩ | ⟨_, he⟩, hb⟩
  · rw [hXn] at hX; cases hX
  · exact ⟨he, hb⟩

set_option maxRecDepth 100000 in
set_option maxHeartbeats 3200000 in
theorem impTakeDigit_no (up lo : Int) (sv : Value) (rs : List (Int × Int)) (q : Int) (d : Int) (w : World) (h : RodsR w sv rs) (hc : ¬ canTD up lo rs q d) :
    Calls Try.prog 24 #[.agg #[.int .i64 up, .int .i64 lo, sv], .int .i64 q, .int .i64 d] w fun e w' => (∃ sq, e = .returned (.tuple #[.agg #[.int .i64 0, .int .i64 0, sq], .bool false]) ∧ w'.ownsRow w.heap.size 83 2 sq ([] : List (Int × Int)).length (flat ([] : List (Int × Int)))) ∧ Below w.heap.size w w' := by
  obtain ⟨a, cp, rfl⟩ : ∃ a c, sv = .slice a rs.length c := by obtain ⟨a, c, e, _⟩ := h; exact ⟨a, c, e⟩
  have hm : rs.length ≤ 9223372036854775807 := by obtain ⟨_, _, _, ⟨m, _⟩, _⟩ := h; exact m
  have HC := Lib.hid hc
  have HB0 : Hid (Below w.heap.size w w) := Lib.hid (Below.refl _ _)
  have HRf0 := Lib.hid (h)
  clear h hc
  go_enter Try.func24, Try.ntmps24
  go_wp2_with fail
  have hb : Below w.heap.size w (w.alloc (.cells #[.int .i64 up, .int .i64 lo, .slice a rs.length cp] 26)) := (Below.refl _ _).alloc (Nat.le_refl _) _
  have hk : (w.alloc (.cells #[.int .i64 up, .int .i64 lo, .slice a rs.length cp] 26)).heap[w.heap.size]? = some (.cells #[.int .i64 up, .int .i64 lo, .slice a rs.length cp] 26 (0, 0)) := alloc_at rfl
  have hz : (w.alloc (.cells #[.int .i64 up, .int .i64 lo, .slice a rs.length cp] 26)).heap.size = w.heap.size + 1 := by simp
  generalize w.alloc (.cells #[.int .i64 up, .int .i64 lo, .slice a rs.length cp] 26) = w1 at hb hk hz ⊢
  have HB1 : Hid (Below w.heap.size w w1) := Lib.hid (HB0.out.trans (hb.mono HB0.out.size))
  have HZ1 : Hid (w.heap.size ≤ w1.heap.size) := Lib.hid hb.size
  have HRf1 := Lib.hid (HRf0.out.below HB1.out (Nat.le_refl _))
  have HKf1 := Lib.hid hk
  replace HZ1 : Hid (w.heap.size < w1.heap.size) := Lib.hid (by omega)
  have HE1 := Lib.hid hz
  clear hb hk hz
  have hb : Below w1.heap.size w1 (w1.alloc (.cells #[.int .i64 0, .int .i64 0, .slice none 0 0] 26)) := (Below.refl _ _).alloc (Nat.le_refl _) _
  have hk : (w1.alloc (.cells #[.int .i64 0, .int .i64 0, .slice none 0 0] 26)).heap[w.heap.size + 1]? = some (.cells #[.int .i64 0, .int .i64 0, .slice none 0 0] 26 (0, 0)) := alloc_at (by have := HE1.out; omega)
  have hz : (w1.alloc (.cells #[.int .i64 0, .int .i64 0, .slice none 0 0] 26)).heap.size = w1.heap.size + 1 := by simp
  generalize w1.alloc (.cells #[.int .i64 0, .int .i64 0, .slice none 0 0] 26) = w2 at hb hk hz ⊢
  have HB2 : Hid (Below w.heap.size w w2) := Lib.hid (HB1.out.trans (hb.mono HB1.out.size))
  have HZ2 : Hid (w1.heap.size ≤ w2.heap.size) := Lib.hid hb.size
  have HRf2 := Lib.hid (HRf0.out.below HB2.out (Nat.le_refl _))
  have HKf2 := Lib.hid ((hb.block _ (lt_of_block HKf1.out)).trans HKf1.out)
  have HKz2 := Lib.hid hk
  replace HZ2 : Hid (w1.heap.size < w2.heap.size) := Lib.hid (by omega)
  have HE2 := Lib.hid hz
  clear hb hk hz
  have ltf := lt_of_block HKf2.out
  obtain ⟨cf0, cf1, cf2, ff0, ff1, ff2⟩ := cell3 HKf2.out
  have ltz := lt_of_block HKz2.out
  obtain ⟨cz0, cz1, cz2, fz0, fz1, fz2⟩ := cell3 HKz2.out
  go_wp2_with fail
  have hb : Below w2.heap.size w2 (w2.alloc (.cells #[.int .i64 q, .int .i64 d] 87)) := (Below.refl _ _).alloc (Nat.le_refl _) _
  have hk : (w2.alloc (.cells #[.int .i64 q, .int .i64 d] 87)).heap[w.heap.size + 1 + 1]? = some (.cells #[.int .i64 q, .int .i64 d] 87 (0, 0)) := alloc_at (by have := HE1.out; have := HE2.out; omega)
  have hz : (w2.alloc (.cells #[.int .i64 q, .int .i64 d] 87)).heap.size = w2.heap.size + 1 := by simp
  generalize w2.alloc (.cells #[.int .i64 q, .int .i64 d] 87) = w3 at hb hk hz ⊢
  have HB3 : Hid (Below w.heap.size w w3) := Lib.hid (HB2.out.trans (hb.mono HB2.out.size))
  have HZ3 : Hid (w2.heap.size ≤ w3.heap.size) := Lib.hid hb.size
  have HRf3 := Lib.hid (HRf0.out.below HB3.out (Nat.le_refl _))
  have HKf3 := Lib.hid ((hb.block _ (lt_of_block HKf2.out)).trans HKf2.out)
  have HKz3 := Lib.hid ((hb.block _ (lt_of_block HKz2.out)).trans HKz2.out)
  have HKl3 := Lib.hid hk
  replace HZ3 : Hid (w2.heap.size < w3.heap.size) := Lib.hid (by omega)
  have HE3 := Lib.hid hz
  clear hb hk hz
  refine (subD_no up lo _ rs q d _ HRf3.out _ HKl3.out HC.out).mono ?_
  rintro e w4 ⟨rfl, hb⟩
  have HB4 : Hid (Below w.heap.size w w4) := Lib.hid (HB3.out.trans (hb.mono HB3.out.size))
  have HZ4 : Hid (w3.heap.size ≤ w4.heap.size) := Lib.hid hb.size
  have HRf4 := Lib.hid (HRf0.out.below HB4.out (Nat.le_refl _))
  have HKf4 := Lib.hid ((hb.block _ (lt_of_block HKf3.out)).trans HKf3.out)
  have HKz4 := Lib.hid ((hb.block _ (lt_of_block HKz3.out)).trans HKz3.out)
  have HKl4 := Lib.hid ((hb.block _ (lt_of_block HKl3.out)).trans HKl3.out)
  clear hb
  have hzl := lt_of_block HKz4.out
  clear cf0 cf1 cf2 ff0 ff1 ff2 ltf cz0 cz1 cz2 fz0 fz1 fz2 ltz
  have ltf := lt_of_block HKf4.out
  obtain ⟨cf0, cf1, cf2, ff0, ff1, ff2⟩ := cell3 HKf4.out
  have ltz := lt_of_block HKz4.out
  obtain ⟨cz0, cz1, cz2, fz0, fz1, fz2⟩ := cell3 HKz4.out
  have ltl := lt_of_block HKl4.out
  obtain ⟨cl0, cl1, fl0, fl1⟩ := cell2 HKl4.out
  go_wp2_with fail
  have hkz := (alloc_old (w := (((w4.setCell ⟨w.heap.size + 1, 0, none⟩ (.int .i64 0)).setCell ⟨w.heap.size + 1, 1, none⟩ (.int .i64 0)).setCell ⟨w.heap.size + 1, 2, none⟩ (.slice none 0 0))) (o := (.cells #[.int .i64 0, .int .i64 0, .slice none 0 0, .slice none 0 0, .int .i64 0] 67)) (k := w.heap.size + 1) (by simp; exact ltz)).trans (box3_set HKz4.out (.int .i64 0) (.int .i64 0) (.slice none 0 0))
  have hbz : Below w.heap.size w ((((w4.setCell ⟨w.heap.size + 1, 0, none⟩ (.int .i64 0)).setCell ⟨w.heap.size + 1, 1, none⟩ (.int .i64 0)).setCell ⟨w.heap.size + 1, 2, none⟩ (.slice none 0 0)).alloc (.cells #[.int .i64 0, .int .i64 0, .slice none 0 0, .slice none 0 0, .int .i64 0] 67)) := (bl_set3 HB4.out (Nat.le_succ _) _ _ _).alloc (by simp; exact HB4.out.size) _
  generalize (((w4.setCell ⟨w.heap.size + 1, 0, none⟩ (.int .i64 0)).setCell ⟨w.heap.size + 1, 1, none⟩ (.int .i64 0)).setCell ⟨w.heap.size + 1, 2, none⟩ (.slice none 0 0)).alloc (.cells #[.int .i64 0, .int .i64 0, .slice none 0 0, .slice none 0 0, .int .i64 0] 67) = W9 at hkz hbz ⊢
  obtain ⟨y0, y1, y2, _, _, _⟩ := cell3 hkz
  exact bodyPost_ret (v := .tuple #[.agg #[.int .i64 0, .int .i64 0, .slice none 0 0], .bool false]) (by simp [results, Try.results24, go_sem, y0, y1, y2]) rfl ⟨⟨_, rfl, own_nil _ _ _ _⟩, hbz⟩

set_option maxRecDepth 100000 in
set_option maxHeartbeats 3200000 in
theorem impTakeDigit_yes (up lo : Int) (sv : Value) (rs : List (Int × Int)) (qn : Nat) (d : Int) (w : World) (h : RodsR w sv rs) (hc : canTD up lo rs qn d) :
    Calls Try.prog 24 #[.agg #[.int .i64 up, .int .i64 lo, sv], .int .i64 qn, .int .i64 d] w fun e w' => (∃ sq, e = .returned (.tuple #[.agg #[.int .i64 up, .int .i64 lo, sq], .bool true]) ∧ w'.ownsRow w.heap.size 83 2 sq (brR (qn + 1) d rs).length (flat (brR (qn + 1) d rs))) ∧ Below w.heap.size w w' := by
  obtain ⟨a, cp, rfl⟩ : ∃ a c, sv = .slice a rs.length c := by obtain ⟨a, c, e, _⟩ := h; exact ⟨a, c, e⟩
  have hm : rs.length ≤ 9223372036854775807 := by obtain ⟨_, _, _, ⟨m, _⟩, _⟩ := h; exact m
  have HC := Lib.hid hc
  obtain ⟨MT, hMT⟩ : ∃ MT, (brM (qn + 1) d rs) = MT := ⟨_, rfl⟩
  obtain ⟨RT, hRT⟩ : ∃ RT, (brR (qn + 1) d rs) = RT := ⟨_, rfl⟩
  obtain ⟨CN, hCN⟩ : ∃ CN, (brC (qn + 1) d rs) = CN := ⟨_, rfl⟩
  have hCB : CN ≤ 64 := by rw [← hCN]; have := brC_le (qn + 1) d rs; have := hc.1.2.2.2; have := hc.2.2.1; omega
  rw [hRT]
  have GM := Lib.hid hMT
  have GR := Lib.hid hRT
  have GC := Lib.hid hCN
  clear hMT hRT hCN
  have HB0 : Hid (Below w.heap.size w w) := Lib.hid (Below.refl _ _)
  have HRf0 := Lib.hid (h)
  clear h hc
  go_enter Try.func24, Try.ntmps24
  go_wp2_with fail
  have hb : Below w.heap.size w (w.alloc (.cells #[.int .i64 up, .int .i64 lo, .slice a rs.length cp] 26)) := (Below.refl _ _).alloc (Nat.le_refl _) _
  have hk : (w.alloc (.cells #[.int .i64 up, .int .i64 lo, .slice a rs.length cp] 26)).heap[w.heap.size]? = some (.cells #[.int .i64 up, .int .i64 lo, .slice a rs.length cp] 26 (0, 0)) := alloc_at rfl
  have hz : (w.alloc (.cells #[.int .i64 up, .int .i64 lo, .slice a rs.length cp] 26)).heap.size = w.heap.size + 1 := by simp
  generalize w.alloc (.cells #[.int .i64 up, .int .i64 lo, .slice a rs.length cp] 26) = w1 at hb hk hz ⊢
  have HB1 : Hid (Below w.heap.size w w1) := Lib.hid (HB0.out.trans (hb.mono HB0.out.size))
  have HZ1 : Hid (w.heap.size ≤ w1.heap.size) := Lib.hid hb.size
  have HRf1 := Lib.hid (HRf0.out.below HB1.out (Nat.le_refl _))
  have HKf1 := Lib.hid hk
  replace HZ1 : Hid (w.heap.size < w1.heap.size) := Lib.hid (by omega)
  have HE1 := Lib.hid hz
  clear hb hk hz
  have hb : Below w1.heap.size w1 (w1.alloc (.cells #[.int .i64 0, .int .i64 0, .slice none 0 0] 26)) := (Below.refl _ _).alloc (Nat.le_refl _) _
  have hk : (w1.alloc (.cells #[.int .i64 0, .int .i64 0, .slice none 0 0] 26)).heap[w.heap.size + 1]? = some (.cells #[.int .i64 0, .int .i64 0, .slice none 0 0] 26 (0, 0)) := alloc_at (by have := HE1.out; omega)
  have hz : (w1.alloc (.cells #[.int .i64 0, .int .i64 0, .slice none 0 0] 26)).heap.size = w1.heap.size + 1 := by simp
  generalize w1.alloc (.cells #[.int .i64 0, .int .i64 0, .slice none 0 0] 26) = w2 at hb hk hz ⊢
  have HB2 : Hid (Below w.heap.size w w2) := Lib.hid (HB1.out.trans (hb.mono HB1.out.size))
  have HZ2 : Hid (w1.heap.size ≤ w2.heap.size) := Lib.hid hb.size
  have HRf2 := Lib.hid (HRf0.out.below HB2.out (Nat.le_refl _))
  have HKf2 := Lib.hid ((hb.block _ (lt_of_block HKf1.out)).trans HKf1.out)
  have HKz2 := Lib.hid hk
  replace HZ2 : Hid (w1.heap.size < w2.heap.size) := Lib.hid (by omega)
  have HE2 := Lib.hid hz
  clear hb hk hz
  have ltf := lt_of_block HKf2.out
  obtain ⟨cf0, cf1, cf2, ff0, ff1, ff2⟩ := cell3 HKf2.out
  have ltz := lt_of_block HKz2.out
  obtain ⟨cz0, cz1, cz2, fz0, fz1, fz2⟩ := cell3 HKz2.out
  go_wp2_with fail
  have hb : Below w2.heap.size w2 (w2.alloc (.cells #[.int .i64 qn, .int .i64 d] 87)) := (Below.refl _ _).alloc (Nat.le_refl _) _
  have hk : (w2.alloc (.cells #[.int .i64 qn, .int .i64 d] 87)).heap[w.heap.size + 1 + 1]? = some (.cells #[.int .i64 qn, .int .i64 d] 87 (0, 0)) := alloc_at (by have := HE1.out; have := HE2.out; omega)
  have hz : (w2.alloc (.cells #[.int .i64 qn, .int .i64 d] 87)).heap.size = w2.heap.size + 1 := by simp
  generalize w2.alloc (.cells #[.int .i64 qn, .int .i64 d] 87) = w3 at hb hk hz ⊢
  have HB3 : Hid (Below w.heap.size w w3) := Lib.hid (HB2.out.trans (hb.mono HB2.out.size))
  have HZ3 : Hid (w2.heap.size ≤ w3.heap.size) := Lib.hid hb.size
  have HRf3 := Lib.hid (HRf0.out.below HB3.out (Nat.le_refl _))
  have HKf3 := Lib.hid ((hb.block _ (lt_of_block HKf2.out)).trans HKf2.out)
  have HKz3 := Lib.hid ((hb.block _ (lt_of_block HKz2.out)).trans HKz2.out)
  have HKl3 := Lib.hid hk
  replace HZ3 : Hid (w2.heap.size < w3.heap.size) := Lib.hid (by omega)
  have HE3 := Lib.hid hz
  clear hb hk hz
  refine (subD_yes up lo _ rs qn d _ HRf3.out _ HKl3.out HC.out).mono ?_
  rintro e w4 ⟨⟨s1, g1, m1, rfl, or, om⟩, hb⟩
  have HB4 : Hid (Below w.heap.size w w4) := Lib.hid (HB3.out.trans (hb.mono HB3.out.size))
  have HZ4 : Hid (w3.heap.size ≤ w4.heap.size) := Lib.hid hb.size
  have HRf4 := Lib.hid (HRf0.out.below HB4.out (Nat.le_refl _))
  have HKf4 := Lib.hid ((hb.block _ (lt_of_block HKf3.out)).trans HKf3.out)
  have HKz4 := Lib.hid ((hb.block _ (lt_of_block HKz3.out)).trans HKz3.out)
  have HKl4 := Lib.hid ((hb.block _ (lt_of_block HKl3.out)).trans HKl3.out)
  clear hb
  rw [GM.out] at om
  rw [GR.out] at or
  simp only [GM.out, GC.out]
  obtain ⟨pr, kr, rfl⟩ := own_form or
  have HOr4 := Lib.hid (Ow.mk' or)
  have HOm4 := Lib.hid (Ow.mk' om)
  clear or om
  have hzl := lt_of_block HKz4.out
  clear cf0 cf1 cf2 ff0 ff1 ff2 ltf cz0 cz1 cz2 fz0 fz1 fz2 ltz
  have ltf := lt_of_block HKf4.out
  obtain ⟨cf0, cf1, cf2, ff0, ff1, ff2⟩ := cell3 HKf4.out
  have ltz := lt_of_block HKz4.out
  obtain ⟨cz0, cz1, cz2, fz0, fz1, fz2⟩ := cell3 HKz4.out
  have ltl := lt_of_block HKl4.out
  obtain ⟨cl0, cl1, fl0, fl1⟩ := cell2 HKl4.out
  go_wp2_with fail
  have hkz := (alloc_old (w := (((w4.setCell ⟨w.heap.size + 1, 0, none⟩ (.int .i64 up)).setCell ⟨w.heap.size + 1, 1, none⟩ (.int .i64 lo)).setCell ⟨w.heap.size + 1, 2, none⟩ (.slice pr RT.length kr))) (o := (.cells #[.int .i64 up, .int .i64 lo, .slice pr RT.length kr, .slice (some ⟨g1, 0, none⟩) MT.length m1, .int .i64 (CN : Int)] 67)) (k := w.heap.size + 1) (by simp; exact ltz)).trans (box3_set HKz4.out (.int .i64 up) (.int .i64 lo) (.slice pr RT.length kr))
  have hbz : Below w.heap.size w ((((w4.setCell ⟨w.heap.size + 1, 0, none⟩ (.int .i64 up)).setCell ⟨w.heap.size + 1, 1, none⟩ (.int .i64 lo)).setCell ⟨w.heap.size + 1, 2, none⟩ (.slice pr RT.length kr)).alloc (.cells #[.int .i64 up, .int .i64 lo, .slice pr RT.length kr, .slice (some ⟨g1, 0, none⟩) MT.length m1, .int .i64 (CN : Int)] 67)) := (bl_set3 HB4.out (Nat.le_succ _) _ _ _).alloc (by simp; exact HB4.out.size) _
  have hlz : w.heap.size + 1 < w3.heap.size := by have := lt_of_block HKz3.out; omega
  have hoz := (own_set3 HOr4.out.1 hlz (.int .i64 up) (.int .i64 lo) (.slice pr RT.length kr)).alloc (.cells #[.int .i64 up, .int .i64 lo, .slice pr RT.length kr, .slice (some ⟨g1, 0, none⟩) MT.length m1, .int .i64 (CN : Int)] 67)
  have hpz : w.heap.size ≤ w3.heap.size := by omega
  generalize (((w4.setCell ⟨w.heap.size + 1, 0, none⟩ (.int .i64 up)).setCell ⟨w.heap.size + 1, 1, none⟩ (.int .i64 lo)).setCell ⟨w.heap.size + 1, 2, none⟩ (.slice pr RT.length kr)).alloc (.cells #[.int .i64 up, .int .i64 lo, .slice pr RT.length kr, .slice (some ⟨g1, 0, none⟩) MT.length m1, .int .i64 (CN : Int)] 67) = W9 at hkz hbz hoz ⊢
  obtain ⟨y0, y1, y2, _, _, _⟩ := cell3 hkz
  exact bodyPost_ret (v := .tuple #[.agg #[.int .i64 up, .int .i64 lo, .slice pr RT.length kr], .bool true]) (by simp [results, Try.results24, go_sem, y0, y1, y2]) rfl ⟨⟨_, rfl, own_mono hoz hpz⟩, hbz⟩

set_option maxRecDepth 100000 in
set_option maxHeartbeats 3200000 in
theorem impTakeDigitMoves_no (up lo : Int) (sv : Value) (rs : List (Int × Int)) (q : Int) (d : Int) (w : World) (h : RodsR w sv rs) (hc : ¬ canTD up lo rs q d) :
    Calls Try.prog 26 #[.agg #[.int .i64 up, .int .i64 lo, sv], .int .i64 q, .int .i64 d] w fun e w' => (∃ sq, e = .returned (.tuple #[sq, .bool false]) ∧ w'.ownsRow w.heap.size 75 3 sq ([] : List Mv).length (flatC mvC ([] : List Mv))) ∧ Below w.heap.size w w' := by
  obtain ⟨a, cp, rfl⟩ : ∃ a c, sv = .slice a rs.length c := by obtain ⟨a, c, e, _⟩ := h; exact ⟨a, c, e⟩
  have hm : rs.length ≤ 9223372036854775807 := by obtain ⟨_, _, _, ⟨m, _⟩, _⟩ := h; exact m
  have HC := Lib.hid hc
  have HB0 : Hid (Below w.heap.size w w) := Lib.hid (Below.refl _ _)
  have HRf0 := Lib.hid (h)
  clear h hc
  go_enter Try.func26, Try.ntmps26
  go_wp2_with fail
  have hb : Below w.heap.size w (w.alloc (.cells #[.int .i64 up, .int .i64 lo, .slice a rs.length cp] 26)) := (Below.refl _ _).alloc (Nat.le_refl _) _
  have hk : (w.alloc (.cells #[.int .i64 up, .int .i64 lo, .slice a rs.length cp] 26)).heap[w.heap.size]? = some (.cells #[.int .i64 up, .int .i64 lo, .slice a rs.length cp] 26 (0, 0)) := alloc_at rfl
  have hz : (w.alloc (.cells #[.int .i64 up, .int .i64 lo, .slice a rs.length cp] 26)).heap.size = w.heap.size + 1 := by simp
  generalize w.alloc (.cells #[.int .i64 up, .int .i64 lo, .slice a rs.length cp] 26) = w1 at hb hk hz ⊢
  have HB1 : Hid (Below w.heap.size w w1) := Lib.hid (HB0.out.trans (hb.mono HB0.out.size))
  have HZ1 : Hid (w.heap.size ≤ w1.heap.size) := Lib.hid hb.size
  have HRf1 := Lib.hid (HRf0.out.below HB1.out (Nat.le_refl _))
  have HKf1 := Lib.hid hk
  replace HZ1 : Hid (w.heap.size < w1.heap.size) := Lib.hid (by omega)
  have HE1 := Lib.hid hz
  clear hb hk hz
  have ltf := lt_of_block HKf1.out
  obtain ⟨cf0, cf1, cf2, ff0, ff1, ff2⟩ := cell3 HKf1.out
  try go_wp2_with fail
  have hb : Below w1.heap.size w1 (w1.alloc (.cells #[.int .i64 q, .int .i64 d] 87)) := (Below.refl _ _).alloc (Nat.le_refl _) _
  have hk : (w1.alloc (.cells #[.int .i64 q, .int .i64 d] 87)).heap[w.heap.size + 1]? = some (.cells #[.int .i64 q, .int .i64 d] 87 (0, 0)) := alloc_at (by have := HE1.out; omega)
  have hz : (w1.alloc (.cells #[.int .i64 q, .int .i64 d] 87)).heap.size = w1.heap.size + 1 := by simp
  generalize w1.alloc (.cells #[.int .i64 q, .int .i64 d] 87) = w2 at hb hk hz ⊢
  have HB2 : Hid (Below w.heap.size w w2) := Lib.hid (HB1.out.trans (hb.mono HB1.out.size))
  have HZ2 : Hid (w1.heap.size ≤ w2.heap.size) := Lib.hid hb.size
  have HRf2 := Lib.hid (HRf0.out.below HB2.out (Nat.le_refl _))
  have HKf2 := Lib.hid ((hb.block _ (lt_of_block HKf1.out)).trans HKf1.out)
  have HKl2 := Lib.hid hk
  replace HZ2 : Hid (w1.heap.size < w2.heap.size) := Lib.hid (by omega)
  have HE2 := Lib.hid hz
  clear hb hk hz
  refine (subD_no up lo _ rs q d _ HRf2.out _ HKl2.out HC.out).mono ?_
  rintro e w3 ⟨rfl, hb⟩
  have HB3 : Hid (Below w.heap.size w w3) := Lib.hid (HB2.out.trans (hb.mono HB2.out.size))
  have HZ3 : Hid (w2.heap.size ≤ w3.heap.size) := Lib.hid hb.size
  have HRf3 := Lib.hid (HRf0.out.below HB3.out (Nat.le_refl _))
  have HKf3 := Lib.hid ((hb.block _ (lt_of_block HKf2.out)).trans HKf2.out)
  have HKl3 := Lib.hid ((hb.block _ (lt_of_block HKl2.out)).trans HKl2.out)
  clear hb
  clear cf0 cf1 cf2 ff0 ff1 ff2 ltf
  have ltf := lt_of_block HKf3.out
  obtain ⟨cf0, cf1, cf2, ff0, ff1, ff2⟩ := cell3 HKf3.out
  have ltl := lt_of_block HKl3.out
  obtain ⟨cl0, cl1, fl0, fl1⟩ := cell2 HKl3.out
  go_wp2_with fail
  go_ret2
  exact ⟨⟨_, rfl, own_nil _ _ _ _⟩, HB3.out.alloc HB3.out.size _⟩

set_option maxRecDepth 100000 in
set_option maxHeartbeats 3200000 in
theorem impTakeDigitMoves_yes (up lo : Int) (sv : Value) (rs : List (Int × Int)) (qn : Nat) (d : Int) (w : World) (h : RodsR w sv rs) (hc : canTD up lo rs qn d) :
    Calls Try.prog 26 #[.agg #[.int .i64 up, .int .i64 lo, sv], .int .i64 qn, .int .i64 d] w fun e w' => (∃ sq, e = .returned (.tuple #[sq, .bool true]) ∧ w'.ownsRow w.heap.size 75 3 sq (brM (qn + 1) d rs).length (flatC mvC (brM (qn + 1) d rs))) ∧ Below w.heap.size w w' := by
  obtain ⟨a, cp, rfl⟩ : ∃ a c, sv = .slice a rs.length c := by obtain ⟨a, c, e, _⟩ := h; exact ⟨a, c, e⟩
  have hm : rs.length ≤ 9223372036854775807 := by obtain ⟨_, _, _, ⟨m, _⟩, _⟩ := h; exact m
  have HC := Lib.hid hc
  obtain ⟨MT, hMT⟩ : ∃ MT, (brM (qn + 1) d rs) = MT := ⟨_, rfl⟩
  obtain ⟨RT, hRT⟩ : ∃ RT, (brR (qn + 1) d rs) = RT := ⟨_, rfl⟩
  obtain ⟨CN, hCN⟩ : ∃ CN, (brC (qn + 1) d rs) = CN := ⟨_, rfl⟩
  have hCB : CN ≤ 64 := by rw [← hCN]; have := brC_le (qn + 1) d rs; have := hc.1.2.2.2; have := hc.2.2.1; omega
  rw [hMT]
  have GM := Lib.hid hMT
  have GR := Lib.hid hRT
  have GC := Lib.hid hCN
  clear hMT hRT hCN
  have HB0 : Hid (Below w.heap.size w w) := Lib.hid (Below.refl _ _)
  have HRf0 := Lib.hid (h)
  clear h hc
  go_enter Try.func26, Try.ntmps26
  go_wp2_with fail
  have hb : Below w.heap.size w (w.alloc (.cells #[.int .i64 up, .int .i64 lo, .slice a rs.length cp] 26)) := (Below.refl _ _).alloc (Nat.le_refl _) _
  have hk : (w.alloc (.cells #[.int .i64 up, .int .i64 lo, .slice a rs.length cp] 26)).heap[w.heap.size]? = some (.cells #[.int .i64 up, .int .i64 lo, .slice a rs.length cp] 26 (0, 0)) := alloc_at rfl
  have hz : (w.alloc (.cells #[.int .i64 up, .int .i64 lo, .slice a rs.length cp] 26)).heap.size = w.heap.size + 1 := by simp
  generalize w.alloc (.cells #[.int .i64 up, .int .i64 lo, .slice a rs.length cp] 26) = w1 at hb hk hz ⊢
  have HB1 : Hid (Below w.heap.size w w1) := Lib.hid (HB0.out.trans (hb.mono HB0.out.size))
  have HZ1 : Hid (w.heap.size ≤ w1.heap.size) := Lib.hid hb.size
  have HRf1 := Lib.hid (HRf0.out.below HB1.out (Nat.le_refl _))
  have HKf1 := Lib.hid hk
  replace HZ1 : Hid (w.heap.size < w1.heap.size) := Lib.hid (by omega)
  have HE1 := Lib.hid hz
  clear hb hk hz
  have ltf := lt_of_block HKf1.out
  obtain ⟨cf0, cf1, cf2, ff0, ff1, ff2⟩ := cell3 HKf1.out
  try go_wp2_with fail
  have hb : Below w1.heap.size w1 (w1.alloc (.cells #[.int .i64 qn, .int .i64 d] 87)) := (Below.refl _ _).alloc (Nat.le_refl _) _
  have hk : (w1.alloc (.cells #[.int .i64 qn, .int .i64 d] 87)).heap[w.heap.size + 1]? = some (.cells #[.int .i64 qn, .int .i64 d] 87 (0, 0)) := alloc_at (by have := HE1.out; omega)
  have hz : (w1.alloc (.cells #[.int .i64 qn, .int .i64 d] 87)).heap.size = w1.heap.size + 1 := by simp
  generalize w1.alloc (.cells #[.int .i64 qn, .int .i64 d] 87) = w2 at hb hk hz ⊢
  have HB2 : Hid (Below w.heap.size w w2) := Lib.hid (HB1.out.trans (hb.mono HB1.out.size))
  have HZ2 : Hid (w1.heap.size ≤ w2.heap.size) := Lib.hid hb.size
  have HRf2 := Lib.hid (HRf0.out.below HB2.out (Nat.le_refl _))
  have HKf2 := Lib.hid ((hb.block _ (lt_of_block HKf1.out)).trans HKf1.out)
  have HKl2 := Lib.hid hk
  replace HZ2 : Hid (w1.heap.size < w2.heap.size) := Lib.hid (by omega)
  have HE2 := Lib.hid hz
  clear hb hk hz
  refine (subD_yes up lo _ rs qn d _ HRf2.out _ HKl2.out HC.out).mono ?_
  rintro e w3 ⟨⟨s1, g1, m1, rfl, or, om⟩, hb⟩
  have HB3 : Hid (Below w.heap.size w w3) := Lib.hid (HB2.out.trans (hb.mono HB2.out.size))
  have HZ3 : Hid (w2.heap.size ≤ w3.heap.size) := Lib.hid hb.size
  have HRf3 := Lib.hid (HRf0.out.below HB3.out (Nat.le_refl _))
  have HKf3 := Lib.hid ((hb.block _ (lt_of_block HKf2.out)).trans HKf2.out)
  have HKl3 := Lib.hid ((hb.block _ (lt_of_block HKl2.out)).trans HKl2.out)
  clear hb
  rw [GM.out] at om
  rw [GR.out] at or
  simp only [GM.out, GC.out]
  obtain ⟨pr, kr, rfl⟩ := own_form or
  have HOr3 := Lib.hid (Ow.mk' or)
  have HOm3 := Lib.hid (Ow.mk' om)
  clear or om
  clear cf0 cf1 cf2 ff0 ff1 ff2 ltf
  have ltf := lt_of_block HKf3.out
  obtain ⟨cf0, cf1, cf2, ff0, ff1, ff2⟩ := cell3 HKf3.out
  have ltl := lt_of_block HKl3.out
  obtain ⟨cl0, cl1, fl0, fl1⟩ := cell2 HKl3.out
  go_wp2_with fail
  go_ret2
  exact ⟨⟨_, rfl, own_mono (HOm3.out.1.alloc _) HB2.out.size⟩, HB3.out.alloc HB3.out.size _⟩

set_option maxRecDepth 100000 in
set_option maxHeartbeats 3200000 in
theorem impTakeNumber_no (up lo : Int) (sv : Value) (rs : List (Int × Int)) (q : Int) (w : World) (h : RodsR w sv rs) (hb : q ≤ 9223372036854775807) (hc : ¬ canT up lo rs q) :
    Calls Try.prog 11 #[.agg #[.int .i64 up, .int .i64 lo, sv], .int .i64 q] w fun e w' => (∃ sq, e = .returned (.tuple #[.agg #[.int .i64 0, .int .i64 0, sq], .bool false]) ∧ w'.ownsRow w.heap.size 83 2 sq ([] : List (Int × Int)).length (flat ([] : List (Int × Int)))) ∧ Below w.heap.size w w' := by
  obtain ⟨a, cp, rfl⟩ : ∃ a c, sv = .slice a rs.length c := by obtain ⟨a, c, e, _⟩ := h; exact ⟨a, c, e⟩
  have hm : rs.length ≤ 9223372036854775807 := by obtain ⟨_, _, _, ⟨m, _⟩, _⟩ := h; exact m
  have HC := Lib.hid hc
  have HQ := Lib.hid hb
  have HB0 : Hid (Below w.heap.size w w) := Lib.hid (Below.refl _ _)
  have HRf0 := Lib.hid (h)
  clear h hc hb
  go_enter Try.func11, Try.ntmps11
  go_wp2_with fail
  have hb : Below w.heap.size w (w.alloc (.cells #[.int .i64 up, .int .i64 lo, .slice a rs.length cp] 26)) := (Below.refl _ _).alloc (Nat.le_refl _) _
  have hk : (w.alloc (.cells #[.int .i64 up, .int .i64 lo, .slice a rs.length cp] 26)).heap[w.heap.size]? = some (.cells #[.int .i64 up, .int .i64 lo, .slice a rs.length cp] 26 (0, 0)) := alloc_at rfl
  have hz : (w.alloc (.cells #[.int .i64 up, .int .i64 lo, .slice a rs.length cp] 26)).heap.size = w.heap.size + 1 := by simp
  generalize w.alloc (.cells #[.int .i64 up, .int .i64 lo, .slice a rs.length cp] 26) = w1 at hb hk hz ⊢
  have HB1 : Hid (Below w.heap.size w w1) := Lib.hid (HB0.out.trans (hb.mono HB0.out.size))
  have HZ1 : Hid (w.heap.size ≤ w1.heap.size) := Lib.hid hb.size
  have HRf1 := Lib.hid (HRf0.out.below HB1.out (Nat.le_refl _))
  have HKf1 := Lib.hid hk
  replace HZ1 : Hid (w.heap.size < w1.heap.size) := Lib.hid (by omega)
  have HE1 := Lib.hid hz
  clear hb hk hz
  have hb : Below w1.heap.size w1 (w1.alloc (.cells #[.int .i64 0, .int .i64 0, .slice none 0 0] 26)) := (Below.refl _ _).alloc (Nat.le_refl _) _
  have hk : (w1.alloc (.cells #[.int .i64 0, .int .i64 0, .slice none 0 0] 26)).heap[w.heap.size + 1]? = some (.cells #[.int .i64 0, .int .i64 0, .slice none 0 0] 26 (0, 0)) := alloc_at (by have := HE1.out; omega)
  have hz : (w1.alloc (.cells #[.int .i64 0, .int .i64 0, .slice none 0 0] 26)).heap.size = w1.heap.size + 1 := by simp
  generalize w1.alloc (.cells #[.int .i64 0, .int .i64 0, .slice none 0 0] 26) = w2 at hb hk hz ⊢
  have HB2 : Hid (Below w.heap.size w w2) := Lib.hid (HB1.out.trans (hb.mono HB1.out.size))
  have HZ2 : Hid (w1.heap.size ≤ w2.heap.size) := Lib.hid hb.size
  have HRf2 := Lib.hid (HRf0.out.below HB2.out (Nat.le_refl _))
  have HKf2 := Lib.hid ((hb.block _ (lt_of_block HKf1.out)).trans HKf1.out)
  have HKz2 := Lib.hid hk
  replace HZ2 : Hid (w1.heap.size < w2.heap.size) := Lib.hid (by omega)
  have HE2 := Lib.hid hz
  clear hb hk hz
  have ltf := lt_of_block HKf2.out
  obtain ⟨cf0, cf1, cf2, ff0, ff1, ff2⟩ := cell3 HKf2.out
  have ltz := lt_of_block HKz2.out
  obtain ⟨cz0, cz1, cz2, fz0, fz1, fz2⟩ := cell3 HKz2.out
  go_wp2_with fail
  refine (subN_no up lo _ rs q _ HRf2.out HQ.out HC.out).mono ?_
  rintro e w3 ⟨rfl, hb⟩
  have HB3 : Hid (Below w.heap.size w w3) := Lib.hid (HB2.out.trans (hb.mono HB2.out.size))
  have HZ3 : Hid (w2.heap.size ≤ w3.heap.size) := Lib.hid hb.size
  have HRf3 := Lib.hid (HRf0.out.below HB3.out (Nat.le_refl _))
  have HKf3 := Lib.hid ((hb.block _ (lt_of_block HKf2.out)).trans HKf2.out)
  have HKz3 := Lib.hid ((hb.block _ (lt_of_block HKz2.out)).trans HKz2.out)
  clear hb
  have hzl := lt_of_block HKz3.out
  clear cf0 cf1 cf2 ff0 ff1 ff2 ltf cz0 cz1 cz2 fz0 fz1 fz2 ltz
  have ltf := lt_of_block HKf3.out
  obtain ⟨cf0, cf1, cf2, ff0, ff1, ff2⟩ := cell3 HKf3.out
  have ltz := lt_of_block HKz3.out
  obtain ⟨cz0, cz1, cz2, fz0, fz1, fz2⟩ := cell3 HKz3.out
  go_wp2_with fail
  have hkz := (alloc_old (w := (((w3.setCell ⟨w.heap.size + 1, 0, none⟩ (.int .i64 0)).setCell ⟨w.heap.size + 1, 1, none⟩ (.int .i64 0)).setCell ⟨w.heap.size + 1, 2, none⟩ (.slice none 0 0))) (o := (.cells #[.int .i64 0, .int .i64 0, .slice none 0 0, .slice none 0 0, .int .i64 0] 67)) (k := w.heap.size + 1) (by simp; exact ltz)).trans (box3_set HKz3.out (.int .i64 0) (.int .i64 0) (.slice none 0 0))
  have hbz : Below w.heap.size w ((((w3.setCell ⟨w.heap.size + 1, 0, none⟩ (.int .i64 0)).setCell ⟨w.heap.size + 1, 1, none⟩ (.int .i64 0)).setCell ⟨w.heap.size + 1, 2, none⟩ (.slice none 0 0)).alloc (.cells #[.int .i64 0, .int .i64 0, .slice none 0 0, .slice none 0 0, .int .i64 0] 67)) := (bl_set3 HB3.out (Nat.le_succ _) _ _ _).alloc (by simp; exact HB3.out.size) _
  generalize (((w3.setCell ⟨w.heap.size + 1, 0, none⟩ (.int .i64 0)).setCell ⟨w.heap.size + 1, 1, none⟩ (.int .i64 0)).setCell ⟨w.heap.size + 1, 2, none⟩ (.slice none 0 0)).alloc (.cells #[.int .i64 0, .int .i64 0, .slice none 0 0, .slice none 0 0, .int .i64 0] 67) = W9 at hkz hbz ⊢
  obtain ⟨y0, y1, y2, _, _, _⟩ := cell3 hkz
  exact bodyPost_ret (v := .tuple #[.agg #[.int .i64 0, .int .i64 0, .slice none 0 0], .bool false]) (by simp [results, Try.results11, go_sem, y0, y1, y2]) rfl ⟨⟨_, rfl, own_nil _ _ _ _⟩, hbz⟩

set_option maxRecDepth 100000 in
set_option maxHeartbeats 3200000 in
theorem impTakeNumber_yes (up lo : Int) (sv : Value) (rs : List (Int × Int)) (q : Int) (w : World) (h : RodsR w sv rs) (hc : canT up lo rs q) :
    Calls Try.prog 11 #[.agg #[.int .i64 up, .int .i64 lo, sv], .int .i64 q] w fun e w' => (∃ sq, e = .returned (.tuple #[.agg #[.int .i64 up, .int .i64 lo, sq], .bool true]) ∧ w'.ownsRow w.heap.size 83 2 sq (tkR 0 (digs rs.length q) rs).length (flat (tkR 0 (digs rs.length q) rs))) ∧ Below w.heap.size w w' := by
  obtain ⟨a, cp, rfl⟩ : ∃ a c, sv = .slice a rs.length c := by obtain ⟨a, c, e, _⟩ := h; exact ⟨a, c, e⟩
  have hm : rs.length ≤ 9223372036854775807 := by obtain ⟨_, _, _, ⟨m, _⟩, _⟩ := h; exact m
  have HC := Lib.hid hc
  obtain ⟨MT, hMT⟩ : ∃ MT, (tkM 0 (digs rs.length q) rs) = MT := ⟨_, rfl⟩
  obtain ⟨RT, hRT⟩ : ∃ RT, (tkR 0 (digs rs.length q) rs) = RT := ⟨_, rfl⟩
  obtain ⟨CN, hCN⟩ : ∃ CN, (tkC 0 (digs rs.length q) rs) = CN := ⟨_, rfl⟩
  have hCB : CN ≤ 64 := by rw [← hCN]; exact tkC_small rs.length q rs hc.1.2.2.2.2
  rw [hRT]
  have GM := Lib.hid hMT
  have GR := Lib.hid hRT
  have GC := Lib.hid hCN
  clear hMT hRT hCN
  have HB0 : Hid (Below w.heap.size w w) := Lib.hid (Below.refl _ _)
  have HRf0 := Lib.hid (h)
  clear h hc
  go_enter Try.func11, Try.ntmps11
  go_wp2_with fail
  have hb : Below w.heap.size w (w.alloc (.cells #[.int .i64 up, .int .i64 lo, .slice a rs.length cp] 26)) := (Below.refl _ _).alloc (Nat.le_refl _) _
  have hk : (w.alloc (.cells #[.int .i64 up, .int .i64 lo, .slice a rs.length cp] 26)).heap[w.heap.size]? = some (.cells #[.int .i64 up, .int .i64 lo, .slice a rs.length cp] 26 (0, 0)) := alloc_at rfl
  have hz : (w.alloc (.cells #[.int .i64 up, .int .i64 lo, .slice a rs.length cp] 26)).heap.size = w.heap.size + 1 := by simp
  generalize w.alloc (.cells #[.int .i64 up, .int .i64 lo, .slice a rs.length cp] 26) = w1 at hb hk hz ⊢
  have HB1 : Hid (Below w.heap.size w w1) := Lib.hid (HB0.out.trans (hb.mono HB0.out.size))
  have HZ1 : Hid (w.heap.size ≤ w1.heap.size) := Lib.hid hb.size
  have HRf1 := Lib.hid (HRf0.out.below HB1.out (Nat.le_refl _))
  have HKf1 := Lib.hid hk
  replace HZ1 : Hid (w.heap.size < w1.heap.size) := Lib.hid (by omega)
  have HE1 := Lib.hid hz
  clear hb hk hz
  have hb : Below w1.heap.size w1 (w1.alloc (.cells #[.int .i64 0, .int .i64 0, .slice none 0 0] 26)) := (Below.refl _ _).alloc (Nat.le_refl _) _
  have hk : (w1.alloc (.cells #[.int .i64 0, .int .i64 0, .slice none 0 0] 26)).heap[w.heap.size + 1]? = some (.cells #[.int .i64 0, .int .i64 0, .slice none 0 0] 26 (0, 0)) := alloc_at (by have := HE1.out; omega)
  have hz : (w1.alloc (.cells #[.int .i64 0, .int .i64 0, .slice none 0 0] 26)).heap.size = w1.heap.size + 1 := by simp
  generalize w1.alloc (.cells #[.int .i64 0, .int .i64 0, .slice none 0 0] 26) = w2 at hb hk hz ⊢
  have HB2 : Hid (Below w.heap.size w w2) := Lib.hid (HB1.out.trans (hb.mono HB1.out.size))
  have HZ2 : Hid (w1.heap.size ≤ w2.heap.size) := Lib.hid hb.size
  have HRf2 := Lib.hid (HRf0.out.below HB2.out (Nat.le_refl _))
  have HKf2 := Lib.hid ((hb.block _ (lt_of_block HKf1.out)).trans HKf1.out)
  have HKz2 := Lib.hid hk
  replace HZ2 : Hid (w1.heap.size < w2.heap.size) := Lib.hid (by omega)
  have HE2 := Lib.hid hz
  clear hb hk hz
  have ltf := lt_of_block HKf2.out
  obtain ⟨cf0, cf1, cf2, ff0, ff1, ff2⟩ := cell3 HKf2.out
  have ltz := lt_of_block HKz2.out
  obtain ⟨cz0, cz1, cz2, fz0, fz1, fz2⟩ := cell3 HKz2.out
  go_wp2_with fail
  refine (subN_yes up lo _ rs q _ HRf2.out HC.out).mono ?_
  rintro e w3 ⟨⟨s1, g1, m1, rfl, or, om⟩, hb⟩
  have HB3 : Hid (Below w.heap.size w w3) := Lib.hid (HB2.out.trans (hb.mono HB2.out.size))
  have HZ3 : Hid (w2.heap.size ≤ w3.heap.size) := Lib.hid hb.size
  have HRf3 := Lib.hid (HRf0.out.below HB3.out (Nat.le_refl _))
  have HKf3 := Lib.hid ((hb.block _ (lt_of_block HKf2.out)).trans HKf2.out)
  have HKz3 := Lib.hid ((hb.block _ (lt_of_block HKz2.out)).trans HKz2.out)
  clear hb
  rw [GM.out] at om
  rw [GR.out] at or
  simp only [GM.out, GC.out]
  obtain ⟨pr, kr, rfl⟩ := own_form or
  have HOr3 := Lib.hid (Ow.mk' or)
  have HOm3 := Lib.hid (Ow.mk' om)
  clear or om
  have hzl := lt_of_block HKz3.out
  clear cf0 cf1 cf2 ff0 ff1 ff2 ltf cz0 cz1 cz2 fz0 fz1 fz2 ltz
  have ltf := lt_of_block HKf3.out
  obtain ⟨cf0, cf1, cf2, ff0, ff1, ff2⟩ := cell3 HKf3.out
  have ltz := lt_of_block HKz3.out
  obtain ⟨cz0, cz1, cz2, fz0, fz1, fz2⟩ := cell3 HKz3.out
  go_wp2_with fail
  have hkz := (alloc_old (w := (((w3.setCell ⟨w.heap.size + 1, 0, none⟩ (.int .i64 up)).setCell ⟨w.heap.size + 1, 1, none⟩ (.int .i64 lo)).setCell ⟨w.heap.size + 1, 2, none⟩ (.slice pr RT.length kr))) (o := (.cells #[.int .i64 up, .int .i64 lo, .slice pr RT.length kr, .slice (some ⟨g1, 0, none⟩) MT.length m1, .int .i64 (CN : Int)] 67)) (k := w.heap.size + 1) (by simp; exact ltz)).trans (box3_set HKz3.out (.int .i64 up) (.int .i64 lo) (.slice pr RT.length kr))
  have hbz : Below w.heap.size w ((((w3.setCell ⟨w.heap.size + 1, 0, none⟩ (.int .i64 up)).setCell ⟨w.heap.size + 1, 1, none⟩ (.int .i64 lo)).setCell ⟨w.heap.size + 1, 2, none⟩ (.slice pr RT.length kr)).alloc (.cells #[.int .i64 up, .int .i64 lo, .slice pr RT.length kr, .slice (some ⟨g1, 0, none⟩) MT.length m1, .int .i64 (CN : Int)] 67)) := (bl_set3 HB3.out (Nat.le_succ _) _ _ _).alloc (by simp; exact HB3.out.size) _
  have hlz : w.heap.size + 1 < w2.heap.size := by have := lt_of_block HKz2.out; omega
  have hoz := (own_set3 HOr3.out.1 hlz (.int .i64 up) (.int .i64 lo) (.slice pr RT.length kr)).alloc (.cells #[.int .i64 up, .int .i64 lo, .slice pr RT.length kr, .slice (some ⟨g1, 0, none⟩) MT.length m1, .int .i64 (CN : Int)] 67)
  have hpz : w.heap.size ≤ w2.heap.size := by omega
  generalize (((w3.setCell ⟨w.heap.size + 1, 0, none⟩ (.int .i64 up)).setCell ⟨w.heap.size + 1, 1, none⟩ (.int .i64 lo)).setCell ⟨w.heap.size + 1, 2, none⟩ (.slice pr RT.length kr)).alloc (.cells #[.int .i64 up, .int .i64 lo, .slice pr RT.length kr, .slice (some ⟨g1, 0, none⟩) MT.length m1, .int .i64 (CN : Int)] 67) = W9 at hkz hbz hoz ⊢
  obtain ⟨y0, y1, y2, _, _, _⟩ := cell3 hkz
  exact bodyPost_ret (v := .tuple #[.agg #[.int .i64 up, .int .i64 lo, .slice pr RT.length kr], .bool true]) (by simp [results, Try.results11, go_sem, y0, y1, y2]) rfl ⟨⟨_, rfl, own_mono hoz hpz⟩, hbz⟩

set_option maxRecDepth 100000 in
set_option maxHeartbeats 3200000 in
theorem impTakeNumberMoves_no (up lo : Int) (sv : Value) (rs : List (Int × Int)) (q : Int) (w : World) (h : RodsR w sv rs) (hb : q ≤ 9223372036854775807) (hc : ¬ canT up lo rs q) :
    Calls Try.prog 14 #[.agg #[.int .i64 up, .int .i64 lo, sv], .int .i64 q] w fun e w' => (∃ sq, e = .returned (.tuple #[sq, .bool false]) ∧ w'.ownsRow w.heap.size 75 3 sq ([] : List Mv).length (flatC mvC ([] : List Mv))) ∧ Below w.heap.size w w' := by
  obtain ⟨a, cp, rfl⟩ : ∃ a c, sv = .slice a rs.length c := by obtain ⟨a, c, e, _⟩ := h; exact ⟨a, c, e⟩
  have hm : rs.length ≤ 9223372036854775807 := by obtain ⟨_, _, _, ⟨m, _⟩, _⟩ := h; exact m
  have HC := Lib.hid hc
  have HQ := Lib.hid hb
  have HB0 : Hid (Below w.heap.size w w) := Lib.hid (Below.refl _ _)
  have HRf0 := Lib.hid (h)
  clear h hc hb
  go_enter Try.func14, Try.ntmps14
  go_wp2_with fail
  have hb : Below w.heap.size w (w.alloc (.cells #[.int .i64 up, .int .i64 lo, .slice a rs.length cp] 26)) := (Below.refl _ _).alloc (Nat.le_refl _) _
  have hk : (w.alloc (.cells #[.int .i64 up, .int .i64 lo, .slice a rs.length cp] 26)).heap[w.heap.size]? = some (.cells #[.int .i64 up, .int .i64 lo, .slice a rs.length cp] 26 (0, 0)) := alloc_at rfl
  have hz : (w.alloc (.cells #[.int .i64 up, .int .i64 lo, .slice a rs.length cp] 26)).heap.size = w.heap.size + 1 := by simp
  generalize w.alloc (.cells #[.int .i64 up, .int .i64 lo, .slice a rs.length cp] 26) = w1 at hb hk hz ⊢
  have HB1 : Hid (Below w.heap.size w w1) := Lib.hid (HB0.out.trans (hb.mono HB0.out.size))
  have HZ1 : Hid (w.heap.size ≤ w1.heap.size) := Lib.hid hb.size
  have HRf1 := Lib.hid (HRf0.out.below HB1.out (Nat.le_refl _))
  have HKf1 := Lib.hid hk
  replace HZ1 : Hid (w.heap.size < w1.heap.size) := Lib.hid (by omega)
  have HE1 := Lib.hid hz
  clear hb hk hz
  refine (subN_no up lo _ rs q _ HRf1.out HQ.out HC.out).mono ?_
  rintro e w2 ⟨rfl, hb⟩
  have HB2 : Hid (Below w.heap.size w w2) := Lib.hid (HB1.out.trans (hb.mono HB1.out.size))
  have HZ2 : Hid (w1.heap.size ≤ w2.heap.size) := Lib.hid hb.size
  have HRf2 := Lib.hid (HRf0.out.below HB2.out (Nat.le_refl _))
  have HKf2 := Lib.hid ((hb.block _ (lt_of_block HKf1.out)).trans HKf1.out)
  clear hb
  have ltf := lt_of_block HKf2.out
  obtain ⟨cf0, cf1, cf2, ff0, ff1, ff2⟩ := cell3 HKf2.out
  go_wp2_with fail
  go_ret2
  exact ⟨⟨_, rfl, (by have := World.ownsRow_made (base := w.heap.size) (e := 75) (size := 3) (w2.alloc (.cells #[.int .i64 0, .int .i64 0, .slice none 0 0, .slice none 0 0, .int .i64 0] 67)) #[] 0 (by have := HB2.out.size; simp; omega) (Nat.zero_le _) (by simp); rw [show (w2.alloc (.cells #[.int .i64 0, .int .i64 0, .slice none 0 0, .slice none 0 0, .int .i64 0] 67)).heap.size = w2.heap.size + 1 by simp] at this; exact this)⟩, (HB2.out.alloc HB2.out.size _).alloc (by have := HB2.out.size; simp; omega) _⟩

set_option maxRecDepth 100000 in
set_option maxHeartbeats 3200000 in
theorem impTakeNumberMoves_yes (up lo : Int) (sv : Value) (rs : List (Int × Int)) (q : Int) (w : World) (h : RodsR w sv rs) (hc : canT up lo rs q) (hM : (tkM 0 (digs rs.length q) rs).length ≤ 60) :
    Calls Try.prog 14 #[.agg #[.int .i64 up, .int .i64 lo, sv], .int .i64 q] w fun e w' => (∃ sq, e = .returned (.tuple #[sq, .bool true]) ∧ w'.ownsRow w.heap.size 75 3 sq (tkM 0 (digs rs.length q) rs).length (flatC mvC (tkM 0 (digs rs.length q) rs))) ∧ Below w.heap.size w w' := by
  obtain ⟨a, cp, rfl⟩ : ∃ a c, sv = .slice a rs.length c := by obtain ⟨a, c, e, _⟩ := h; exact ⟨a, c, e⟩
  have hm : rs.length ≤ 9223372036854775807 := by obtain ⟨_, _, _, ⟨m, _⟩, _⟩ := h; exact m
  have HC := Lib.hid hc
  obtain ⟨MT, hMT⟩ : ∃ MT, (tkM 0 (digs rs.length q) rs) = MT := ⟨_, rfl⟩
  obtain ⟨RT, hRT⟩ : ∃ RT, (tkR 0 (digs rs.length q) rs) = RT := ⟨_, rfl⟩
  obtain ⟨CN, hCN⟩ : ∃ CN, (tkC 0 (digs rs.length q) rs) = CN := ⟨_, rfl⟩
  have hCB : CN ≤ 64 := by rw [← hCN]; exact tkC_small rs.length q rs hc.1.2.2.2.2
  rw [hMT] at hM
  rw [hMT]
  have GM := Lib.hid hMT
  have GR := Lib.hid hRT
  have GC := Lib.hid hCN
  clear hMT hRT hCN
  have HB0 : Hid (Below w.heap.size w w) := Lib.hid (Below.refl _ _)
  have HRf0 := Lib.hid (h)
  clear h hc
  go_enter Try.func14, Try.ntmps14
  go_wp2_with fail
  have hb : Below w.heap.size w (w.alloc (.cells #[.int .i64 up, .int .i64 lo, .slice a rs.length cp] 26)) := (Below.refl _ _).alloc (Nat.le_refl _) _
  have hk : (w.alloc (.cells #[.int .i64 up, .int .i64 lo, .slice a rs.length cp] 26)).heap[w.heap.size]? = some (.cells #[.int .i64 up, .int .i64 lo, .slice a rs.length cp] 26 (0, 0)) := alloc_at rfl
  have hz : (w.alloc (.cells #[.int .i64 up, .int .i64 lo, .slice a rs.length cp] 26)).heap.size = w.heap.size + 1 := by simp
  generalize w.alloc (.cells #[.int .i64 up, .int .i64 lo, .slice a rs.length cp] 26) = w1 at hb hk hz ⊢
  have HB1 : Hid (Below w.heap.size w w1) := Lib.hid (HB0.out.trans (hb.mono HB0.out.size))
  have HZ1 : Hid (w.heap.size ≤ w1.heap.size) := Lib.hid hb.size
  have HRf1 := Lib.hid (HRf0.out.below HB1.out (Nat.le_refl _))
  have HKf1 := Lib.hid hk
  replace HZ1 : Hid (w.heap.size < w1.heap.size) := Lib.hid (by omega)
  have HE1 := Lib.hid hz
  clear hb hk hz
  refine (subN_yes up lo _ rs q _ HRf1.out HC.out).mono ?_
  rintro e w2 ⟨⟨s1, g1, m1, rfl, or, om⟩, hb⟩
  have HB2 : Hid (Below w.heap.size w w2) := Lib.hid (HB1.out.trans (hb.mono HB1.out.size))
  have HZ2 : Hid (w1.heap.size ≤ w2.heap.size) := Lib.hid hb.size
  have HRf2 := Lib.hid (HRf0.out.below HB2.out (Nat.le_refl _))
  have HKf2 := Lib.hid ((hb.block _ (lt_of_block HKf1.out)).trans HKf1.out)
  clear hb
  rw [GM.out] at om
  rw [GR.out] at or
  simp only [GM.out, GC.out]
  obtain ⟨pr, kr, rfl⟩ := own_form or
  have HOr2 := Lib.hid (Ow.mk' or)
  have HOm2 := Lib.hid (Ow.mk' om)
  clear or om
  have ltf := lt_of_block HKf2.out
  obtain ⟨cf0, cf1, cf2, ff0, ff1, ff2⟩ := cell3 HKf2.out
  have hml : ¬ (60 : Int) < (MT.length : Int) := by omega
  clear hM
  go_wp2_with fail
  go_ret2
  exact ⟨⟨_, rfl, own_mono (HOm2.out.1.alloc _) HB1.out.size⟩, HB2.out.alloc HB2.out.size _⟩

set_option maxRecDepth 100000 in
set_option maxHeartbeats 3200000 in
theorem impTakeNumberMoves_long (up lo : Int) (sv : Value) (rs : List (Int × Int)) (q : Int) (w : World) (h : RodsR w sv rs) (hc : canT up lo rs q) (hM : ¬ (tkM 0 (digs rs.length q) rs).length ≤ 60) :
    Calls Try.prog 14 #[.agg #[.int .i64 up, .int .i64 lo, sv], .int .i64 q] w fun e w' => (∃ sq, e = .returned (.tuple #[sq, .bool false]) ∧ w'.ownsRow w.heap.size 75 3 sq ([] : List Mv).length (flatC mvC ([] : List Mv))) ∧ Below w.heap.size w w' := by
  obtain ⟨a, cp, rfl⟩ : ∃ a c, sv = .slice a rs.length c := by obtain ⟨a, c, e, _⟩ := h; exact ⟨a, c, e⟩
  have hm : rs.length ≤ 9223372036854775807 := by obtain ⟨_, _, _, ⟨m, _⟩, _⟩ := h; exact m
  have HC := Lib.hid hc
  obtain ⟨MT, hMT⟩ : ∃ MT, (tkM 0 (digs rs.length q) rs) = MT := ⟨_, rfl⟩
  obtain ⟨RT, hRT⟩ : ∃ RT, (tkR 0 (digs rs.length q) rs) = RT := ⟨_, rfl⟩
  obtain ⟨CN, hCN⟩ : ∃ CN, (tkC 0 (digs rs.length q) rs) = CN := ⟨_, rfl⟩
  have hCB : CN ≤ 64 := by rw [← hCN]; exact tkC_small rs.length q rs hc.1.2.2.2.2
  rw [hMT] at hM
  have GM := Lib.hid hMT
  have GR := Lib.hid hRT
  have GC := Lib.hid hCN
  clear hMT hRT hCN
  have HB0 : Hid (Below w.heap.size w w) := Lib.hid (Below.refl _ _)
  have HRf0 := Lib.hid (h)
  clear h hc
  go_enter Try.func14, Try.ntmps14
  go_wp2_with fail
  have hb : Below w.heap.size w (w.alloc (.cells #[.int .i64 up, .int .i64 lo, .slice a rs.length cp] 26)) := (Below.refl _ _).alloc (Nat.le_refl _) _
  have hk : (w.alloc (.cells #[.int .i64 up, .int .i64 lo, .slice a rs.length cp] 26)).heap[w.heap.size]? = some (.cells #[.int .i64 up, .int .i64 lo, .slice a rs.length cp] 26 (0, 0)) := alloc_at rfl
  have hz : (w.alloc (.cells #[.int .i64 up, .int .i64 lo, .slice a rs.length cp] 26)).heap.size = w.heap.size + 1 := by simp
  generalize w.alloc (.cells #[.int .i64 up, .int .i64 lo, .slice a rs.length cp] 26) = w1 at hb hk hz ⊢
  have HB1 : Hid (Below w.heap.size w w1) := Lib.hid (HB0.out.trans (hb.mono HB0.out.size))
  have HZ1 : Hid (w.heap.size ≤ w1.heap.size) := Lib.hid hb.size
  have HRf1 := Lib.hid (HRf0.out.below HB1.out (Nat.le_refl _))
  have HKf1 := Lib.hid hk
  replace HZ1 : Hid (w.heap.size < w1.heap.size) := Lib.hid (by omega)
  have HE1 := Lib.hid hz
  clear hb hk hz
  refine (subN_yes up lo _ rs q _ HRf1.out HC.out).mono ?_
  rintro e w2 ⟨⟨s1, g1, m1, rfl, or, om⟩, hb⟩
  have HB2 : Hid (Below w.heap.size w w2) := Lib.hid (HB1.out.trans (hb.mono HB1.out.size))
  have HZ2 : Hid (w1.heap.size ≤ w2.heap.size) := Lib.hid hb.size
  have HRf2 := Lib.hid (HRf0.out.below HB2.out (Nat.le_refl _))
  have HKf2 := Lib.hid ((hb.block _ (lt_of_block HKf1.out)).trans HKf1.out)
  clear hb
  rw [GM.out] at om
  rw [GR.out] at or
  simp only [GM.out, GC.out]
  obtain ⟨pr, kr, rfl⟩ := own_form or
  have HOr2 := Lib.hid (Ow.mk' or)
  have HOm2 := Lib.hid (Ow.mk' om)
  clear or om
  have ltf := lt_of_block HKf2.out
  obtain ⟨cf0, cf1, cf2, ff0, ff1, ff2⟩ := cell3 HKf2.out
  have hml : (60 : Int) < (MT.length : Int) := by omega
  clear hM
  go_wp2_with fail
  go_ret2
  exact ⟨⟨_, rfl, (by have := World.ownsRow_made (base := w.heap.size) (e := 75) (size := 3) (w2.alloc (.cells #[.int .i64 up, .int .i64 lo, .slice pr RT.length kr, .slice (some ⟨g1, 0, none⟩) MT.length m1, .int .i64 (CN : Int)] 67)) #[] 0 (by have := HB2.out.size; simp; omega) (Nat.zero_le _) (by simp); rw [show (w2.alloc (.cells #[.int .i64 up, .int .i64 lo, .slice pr RT.length kr, .slice (some ⟨g1, 0, none⟩) MT.length m1, .int .i64 (CN : Int)] 67)).heap.size = w2.heap.size + 1 by simp] at this; exact this)⟩, (HB2.out.alloc HB2.out.size _).alloc (by have := HB2.out.size; simp; omega) _⟩

set_option maxRecDepth 100000 in
set_option maxHeartbeats 3200000 in
theorem impBorrowsOf_no (up lo : Int) (sv : Value) (rs : List (Int × Int)) (q : Int) (w : World) (h : RodsR w sv rs) (hb : q ≤ 9223372036854775807) (hc : ¬ canT up lo rs q) :
    Calls Try.prog 17 #[.agg #[.int .i64 up, .int .i64 lo, sv], .int .i64 q] w fun e w' => e = .returned (.tuple #[.int .i64 0, .bool false]) ∧ Below w.heap.size w w' := by
  obtain ⟨a, cp, rfl⟩ : ∃ a c, sv = .slice a rs.length c := by obtain ⟨a, c, e, _⟩ := h; exact ⟨a, c, e⟩
  have hm : rs.length ≤ 9223372036854775807 := by obtain ⟨_, _, _, ⟨m, _⟩, _⟩ := h; exact m
  have HC := Lib.hid hc
  have HQ := Lib.hid hb
  have HB0 : Hid (Below w.heap.size w w) := Lib.hid (Below.refl _ _)
  have HRf0 := Lib.hid (h)
  clear h hc hb
  go_enter Try.func17, Try.ntmps17
  go_wp2_with fail
  have hb : Below w.heap.size w (w.alloc (.cells #[.int .i64 up, .int .i64 lo, .slice a rs.length cp] 26)) := (Below.refl _ _).alloc (Nat.le_refl _) _
  have hk : (w.alloc (.cells #[.int .i64 up, .int .i64 lo, .slice a rs.length cp] 26)).heap[w.heap.size]? = some (.cells #[.int .i64 up, .int .i64 lo, .slice a rs.length cp] 26 (0, 0)) := alloc_at rfl
  have hz : (w.alloc (.cells #[.int .i64 up, .int .i64 lo, .slice a rs.length cp] 26)).heap.size = w.heap.size + 1 := by simp
  generalize w.alloc (.cells #[.int .i64 up, .int .i64 lo, .slice a rs.length cp] 26) = w1 at hb hk hz ⊢
  have HB1 : Hid (Below w.heap.size w w1) := Lib.hid (HB0.out.trans (hb.mono HB0.out.size))
  have HZ1 : Hid (w.heap.size ≤ w1.heap.size) := Lib.hid hb.size
  have HRf1 := Lib.hid (HRf0.out.below HB1.out (Nat.le_refl _))
  have HKf1 := Lib.hid hk
  replace HZ1 : Hid (w.heap.size < w1.heap.size) := Lib.hid (by omega)
  have HE1 := Lib.hid hz
  clear hb hk hz
  refine (subN_no up lo _ rs q _ HRf1.out HQ.out HC.out).mono ?_
  rintro e w2 ⟨rfl, hb⟩
  have HB2 : Hid (Below w.heap.size w w2) := Lib.hid (HB1.out.trans (hb.mono HB1.out.size))
  have HZ2 : Hid (w1.heap.size ≤ w2.heap.size) := Lib.hid hb.size
  have HRf2 := Lib.hid (HRf0.out.below HB2.out (Nat.le_refl _))
  have HKf2 := Lib.hid ((hb.block _ (lt_of_block HKf1.out)).trans HKf1.out)
  clear hb
  have ltf := lt_of_block HKf2.out
  obtain ⟨cf0, cf1, cf2, ff0, ff1, ff2⟩ := cell3 HKf2.out
  go_wp2_with fail
  go_ret2
  exact ⟨rfl, HB2.out.alloc HB2.out.size _⟩

set_option maxRecDepth 100000 in
set_option maxHeartbeats 3200000 in
theorem impBorrowsOf_yes (up lo : Int) (sv : Value) (rs : List (Int × Int)) (q : Int) (w : World) (h : RodsR w sv rs) (hc : canT up lo rs q) :
    Calls Try.prog 17 #[.agg #[.int .i64 up, .int .i64 lo, sv], .int .i64 q] w fun e w' => e = .returned (.tuple #[.int .i64 ((tkC 0 (digs rs.length q) rs : Nat) : Int), .bool true]) ∧ Below w.heap.size w w' := by
  obtain ⟨a, cp, rfl⟩ : ∃ a c, sv = .slice a rs.length c := by obtain ⟨a, c, e, _⟩ := h; exact ⟨a, c, e⟩
  have hm : rs.length ≤ 9223372036854775807 := by obtain ⟨_, _, _, ⟨m, _⟩, _⟩ := h; exact m
  have HC := Lib.hid hc
  obtain ⟨MT, hMT⟩ : ∃ MT, (tkM 0 (digs rs.length q) rs) = MT := ⟨_, rfl⟩
  obtain ⟨RT, hRT⟩ : ∃ RT, (tkR 0 (digs rs.length q) rs) = RT := ⟨_, rfl⟩
  obtain ⟨CN, hCN⟩ : ∃ CN, (tkC 0 (digs rs.length q) rs) = CN := ⟨_, rfl⟩
  have hCB : CN ≤ 64 := by rw [← hCN]; exact tkC_small rs.length q rs hc.1.2.2.2.2
  rw [hCN]
  have GM := Lib.hid hMT
  have GR := Lib.hid hRT
  have GC := Lib.hid hCN
  clear hMT hRT hCN
  have HB0 : Hid (Below w.heap.size w w) := Lib.hid (Below.refl _ _)
  have HRf0 := Lib.hid (h)
  clear h hc
  go_enter Try.func17, Try.ntmps17
  go_wp2_with fail
  have hb : Below w.heap.size w (w.alloc (.cells #[.int .i64 up, .int .i64 lo, .slice a rs.length cp] 26)) := (Below.refl _ _).alloc (Nat.le_refl _) _
  have hk : (w.alloc (.cells #[.int .i64 up, .int .i64 lo, .slice a rs.length cp] 26)).heap[w.heap.size]? = some (.cells #[.int .i64 up, .int .i64 lo, .slice a rs.length cp] 26 (0, 0)) := alloc_at rfl
  have hz : (w.alloc (.cells #[.int .i64 up, .int .i64 lo, .slice a rs.length cp] 26)).heap.size = w.heap.size + 1 := by simp
  generalize w.alloc (.cells #[.int .i64 up, .int .i64 lo, .slice a rs.length cp] 26) = w1 at hb hk hz ⊢
  have HB1 : Hid (Below w.heap.size w w1) := Lib.hid (HB0.out.trans (hb.mono HB0.out.size))
  have HZ1 : Hid (w.heap.size ≤ w1.heap.size) := Lib.hid hb.size
  have HRf1 := Lib.hid (HRf0.out.below HB1.out (Nat.le_refl _))
  have HKf1 := Lib.hid hk
  replace HZ1 : Hid (w.heap.size < w1.heap.size) := Lib.hid (by omega)
  have HE1 := Lib.hid hz
  clear hb hk hz
  refine (subN_yes up lo _ rs q _ HRf1.out HC.out).mono ?_
  rintro e w2 ⟨⟨s1, g1, m1, rfl, or, om⟩, hb⟩
  have HB2 : Hid (Below w.heap.size w w2) := Lib.hid (HB1.out.trans (hb.mono HB1.out.size))
  have HZ2 : Hid (w1.heap.size ≤ w2.heap.size) := Lib.hid hb.size
  have HRf2 := Lib.hid (HRf0.out.below HB2.out (Nat.le_refl _))
  have HKf2 := Lib.hid ((hb.block _ (lt_of_block HKf1.out)).trans HKf1.out)
  clear hb
  rw [GM.out] at om
  rw [GR.out] at or
  simp only [GM.out, GC.out]
  obtain ⟨pr, kr, rfl⟩ := own_form or
  have HOr2 := Lib.hid (Ow.mk' or)
  have HOm2 := Lib.hid (Ow.mk' om)
  clear or om
  have ltf := lt_of_block HKf2.out
  obtain ⟨cf0, cf1, cf2, ff0, ff1, ff2⟩ := cell3 HKf2.out
  go_wp2_with fail
  go_ret2
  exact ⟨rfl, HB2.out.alloc HB2.out.size _⟩

end Go.Proofs.Ytjkjaadcdolbhaa
