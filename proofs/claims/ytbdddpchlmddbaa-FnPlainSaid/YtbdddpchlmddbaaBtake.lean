/- The model's TakeAway. -/
import Derived.Test.YtbdddpchlmddbaaBsetb
import Derived.Test.YtbdddpchlmddbaaBval
import Derived.Deep.Cut
namespace Go.Proofs.Ytbdddpchlmddbaa
set_option linter.unusedVariables false
open Go.RowKit

/-- The answer of TakeAway. -/
def TkF (ls ss ms ts qs qt : List Int) (r : Bool) : Prop :=
  ((okB ls ss ∧ okB ms ts) ∧ SetF ls.length (valB ls ss - valB ms ts) qs qt r) ∨ (¬ (okB ls ss ∧ okB ms ts) ∧ qs = [] ∧ qt = [] ∧ r = false)
theorem tkF_or (ls ss ms ts : List Int) : ∃ qs qt r, TkF ls ss ms ts qs qt r := by
  by_cases h : okB ls ss ∧ okB ms ts
  · obtain ⟨qs, qt, r, h2⟩ := setF_or ls.length (valB ls ss - valB ms ts)
    exact ⟨qs, qt, r, .inl ⟨h, h2⟩⟩
  · exact ⟨_, _, _, .inr ⟨h, rfl, rfl, rfl⟩⟩
set_option maxRecDepth 100000 in
set_option maxHeartbeats 1600000 in
theorem specTake_no (v1 v2 u1 u2 : Value) (ls ss ms ts : List Int) (w : World) (h : BrdR w v1 v2 ls ss) (h' : BrdR w u1 u2 ms ts) (hg : ¬ (okB ls ss ∧ okB ms ts)) (qs qt : List Int) (r : Bool) (hk : qs = [] ∧ qt = [] ∧ r = false) :
    Calls Try.prog 14 #[.agg #[v1, v2], .agg #[u1, u2]] w fun e w' => (∃ s1 t1, e = .returned (.tuple #[.agg #[s1, t1], .bool r]) ∧ OwB w.heap.size w'.heap.size w' s1 t1 qs qt) ∧ Below w.heap.size w w' := by
  obtain ⟨a1, c1, a2, c2, rfl, rfl⟩ := h.form
  obtain ⟨b1, d1, b2, d2, rfl, rfl⟩ := h'.form
  obtain ⟨rfl, rfl, rfl⟩ := hk
  have HB0 : Hid (Below w.heap.size w w) := Lib.hid (Below.refl _ _)
  have HRf0 := Lib.hid (h)
  have HRg0 := Lib.hid (h')
  clear h h'
  by_cases h1 : okB ls ss
  · have H2 : Hid (¬ okB ms ts) := Lib.hid (fun h2 => hg ⟨h1, h2⟩)
    have H1 := Lib.hid h1
    clear h1 hg
    go_enter Try.func14, Try.ntmps14
    go_wp2_with fail
    have hb : Below w.heap.size w (w.alloc (.cells #[.slice a1 ls.length c1, .slice a2 ss.length c2] 26)) := (Below.refl _ _).alloc (Nat.le_refl _) _
    have hk : (w.alloc (.cells #[.slice a1 ls.length c1, .slice a2 ss.length c2] 26)).heap[w.heap.size]? = some (.cells #[.slice a1 ls.length c1, .slice a2 ss.length c2] 26 (0, 0)) := alloc_at rfl
    have hz : (w.alloc (.cells #[.slice a1 ls.length c1, .slice a2 ss.length c2] 26)).heap.size = w.heap.size + 1 := by simp
    generalize w.alloc (.cells #[.slice a1 ls.length c1, .slice a2 ss.length c2] 26) = w1 at hb hk hz ⊢
    have HB1 : Hid (Below w.heap.size w w1) := Lib.hid (HB0.out.trans (hb.mono HB0.out.size))
    have HZ1 : Hid (w.heap.size ≤ w1.heap.size) := Lib.hid hb.size
    have HRf1 := Lib.hid (HRf0.out.below HB1.out (Nat.le_refl _))
    have HRg1 := Lib.hid (HRg0.out.below HB1.out (Nat.le_refl _))
    have HKa1 := Lib.hid hk
    replace HZ1 : Hid (w.heap.size < w1.heap.size) := Lib.hid (by omega)
    have HE1 := Lib.hid hz
    clear hb hk hz
    have hb : Below w1.heap.size w1 (w1.alloc (.cells #[.slice b1 ms.length d1, .slice b2 ts.length d2] 26)) := (Below.refl _ _).alloc (Nat.le_refl _) _
    have hk : (w1.alloc (.cells #[.slice b1 ms.length d1, .slice b2 ts.length d2] 26)).heap[w.heap.size + 1]? = some (.cells #[.slice b1 ms.length d1, .slice b2 ts.length d2] 26 (0, 0)) := alloc_at (by have := HE1.out; omega)
    have hz : (w1.alloc (.cells #[.slice b1 ms.length d1, .slice b2 ts.length d2] 26)).heap.size = w1.heap.size + 1 := by simp
    generalize w1.alloc (.cells #[.slice b1 ms.length d1, .slice b2 ts.length d2] 26) = w2 at hb hk hz ⊢
    have HB2 : Hid (Below w.heap.size w w2) := Lib.hid (HB1.out.trans (hb.mono HB1.out.size))
    have HZ2 : Hid (w1.heap.size ≤ w2.heap.size) := Lib.hid hb.size
    have HRf2 := Lib.hid (HRf0.out.below HB2.out (Nat.le_refl _))
    have HRg2 := Lib.hid (HRg0.out.below HB2.out (Nat.le_refl _))
    have HKa2 := Lib.hid ((hb.block _ (lt_of_block HKa1.out)).trans HKa1.out)
    have HKc2 := Lib.hid hk
    replace HZ2 : Hid (w1.heap.size < w2.heap.size) := Lib.hid (by omega)
    have HE2 := Lib.hid hz
    clear hb hk hz
    have hb : Below w2.heap.size w2 (w2.alloc (.cells #[.slice none 0 0, .slice none 0 0] 26)) := (Below.refl _ _).alloc (Nat.le_refl _) _
    have hk : (w2.alloc (.cells #[.slice none 0 0, .slice none 0 0] 26)).heap[w.heap.size + 2]? = some (.cells #[.slice none 0 0, .slice none 0 0] 26 (0, 0)) := alloc_at (by have := HE1.out; have := HE2.out; omega)
    have hz : (w2.alloc (.cells #[.slice none 0 0, .slice none 0 0] 26)).heap.size = w2.heap.size + 1 := by simp
    generalize w2.alloc (.cells #[.slice none 0 0, .slice none 0 0] 26) = w3 at hb hk hz ⊢
    have HB3 : Hid (Below w.heap.size w w3) := Lib.hid (HB2.out.trans (hb.mono HB2.out.size))
    have HZ3 : Hid (w2.heap.size ≤ w3.heap.size) := Lib.hid hb.size
    have HRf3 := Lib.hid (HRf0.out.below HB3.out (Nat.le_refl _))
    have HRg3 := Lib.hid (HRg0.out.below HB3.out (Nat.le_refl _))
    have HKa3 := Lib.hid ((hb.block _ (lt_of_block HKa2.out)).trans HKa2.out)
    have HKc3 := Lib.hid ((hb.block _ (lt_of_block HKc2.out)).trans HKc2.out)
    have HKz3 := Lib.hid hk
    replace HZ3 : Hid (w2.heap.size < w3.heap.size) := Lib.hid (by omega)
    have HE3 := Lib.hid hz
    clear hb hk hz
    have lta := lt_of_block HKa3.out
    obtain ⟨ca0, ca1, fa0, fa1⟩ := cell2 HKa3.out
    have ltc := lt_of_block HKc3.out
    obtain ⟨cc0, cc1, fc0, fc1⟩ := cell2 HKc3.out
    have ltz := lt_of_block HKz3.out
    obtain ⟨cz0, cz1, fz0, fz1⟩ := cell2 HKz3.out
    refine (l5Good_any _ _ ls ss _ HRf3.out true ⟨fun _ => H1.out, fun _ => rfl⟩).mono ?_
    rintro e w4 ⟨rfl, hb⟩
    have HB4 : Hid (Below w.heap.size w w4) := Lib.hid (HB3.out.trans (hb.mono HB3.out.size))
    have HZ4 : Hid (w3.heap.size ≤ w4.heap.size) := Lib.hid hb.size
    have HRf4 := Lib.hid (HRf0.out.below HB4.out (Nat.le_refl _))
    have HRg4 := Lib.hid (HRg0.out.below HB4.out (Nat.le_refl _))
    have HKa4 := Lib.hid ((hb.block _ (lt_of_block HKa3.out)).trans HKa3.out)
    have HKc4 := Lib.hid ((hb.block _ (lt_of_block HKc3.out)).trans HKc3.out)
    have HKz4 := Lib.hid ((hb.block _ (lt_of_block HKz3.out)).trans HKz3.out)
    clear hb
    clear ca0 ca1 fa0 fa1 lta cc0 cc1 fc0 fc1 ltc cz0 cz1 fz0 fz1 ltz
    have lta := lt_of_block HKa4.out
    obtain ⟨ca0, ca1, fa0, fa1⟩ := cell2 HKa4.out
    have ltc := lt_of_block HKc4.out
    obtain ⟨cc0, cc1, fc0, fc1⟩ := cell2 HKc4.out
    have ltz := lt_of_block HKz4.out
    obtain ⟨cz0, cz1, fz0, fz1⟩ := cell2 HKz4.out
    go_wp2_with fail
    refine (l5Good_any _ _ ms ts _ HRg4.out false ⟨fun e => by simp at e, fun e => absurd e H2.out⟩).mono ?_
    rintro e w5 ⟨rfl, hb⟩
    have HB5 : Hid (Below w.heap.size w w5) := Lib.hid (HB4.out.trans (hb.mono HB4.out.size))
    have HZ5 : Hid (w4.heap.size ≤ w5.heap.size) := Lib.hid hb.size
    have HRf5 := Lib.hid (HRf0.out.below HB5.out (Nat.le_refl _))
    have HRg5 := Lib.hid (HRg0.out.below HB5.out (Nat.le_refl _))
    have HKa5 := Lib.hid ((hb.block _ (lt_of_block HKa4.out)).trans HKa4.out)
    have HKc5 := Lib.hid ((hb.block _ (lt_of_block HKc4.out)).trans HKc4.out)
    have HKz5 := Lib.hid ((hb.block _ (lt_of_block HKz4.out)).trans HKz4.out)
    clear hb
    clear ca0 ca1 fa0 fa1 lta cc0 cc1 fc0 fc1 ltc cz0 cz1 fz0 fz1 ltz
    have lta := lt_of_block HKa5.out
    obtain ⟨ca0, ca1, fa0, fa1⟩ := cell2 HKa5.out
    have ltc := lt_of_block HKc5.out
    obtain ⟨cc0, cc1, fc0, fc1⟩ := cell2 HKc5.out
    have ltz := lt_of_block HKz5.out
    obtain ⟨cz0, cz1, fz0, fz1⟩ := cell2 HKz5.out
    go_wp2_with fail
    exact bodyPost_ret (v := .tuple #[.agg #[(.slice none 0 0), (.slice none 0 0)], .bool false]) (by simp [results, Try.results14, go_sem, cz0, cz1]) rfl ⟨⟨_, _, rfl, OwB.nil' _ _ _⟩, by first | exact HB5.out | exact (HB5.out.setCell (p := ⟨w.heap.size + 2, 0, none⟩) (by show w.heap.size ≤ w.heap.size + 2; omega) _).setCell (p := ⟨w.heap.size + 2, 1, none⟩) (by show w.heap.size ≤ w.heap.size + 2; omega) _⟩
  · have H1 := Lib.hid h1
    clear h1 hg
    go_enter Try.func14, Try.ntmps14
    go_wp2_with fail
    have hb : Below w.heap.size w (w.alloc (.cells #[.slice a1 ls.length c1, .slice a2 ss.length c2] 26)) := (Below.refl _ _).alloc (Nat.le_refl _) _
    have hk : (w.alloc (.cells #[.slice a1 ls.length c1, .slice a2 ss.length c2] 26)).heap[w.heap.size]? = some (.cells #[.slice a1 ls.length c1, .slice a2 ss.length c2] 26 (0, 0)) := alloc_at rfl
    have hz : (w.alloc (.cells #[.slice a1 ls.length c1, .slice a2 ss.length c2] 26)).heap.size = w.heap.size + 1 := by simp
    generalize w.alloc (.cells #[.slice a1 ls.length c1, .slice a2 ss.length c2] 26) = w1 at hb hk hz ⊢
    have HB1 : Hid (Below w.heap.size w w1) := Lib.hid (HB0.out.trans (hb.mono HB0.out.size))
    have HZ1 : Hid (w.heap.size ≤ w1.heap.size) := Lib.hid hb.size
    have HRf1 := Lib.hid (HRf0.out.below HB1.out (Nat.le_refl _))
    have HRg1 := Lib.hid (HRg0.out.below HB1.out (Nat.le_refl _))
    have HKa1 := Lib.hid hk
    replace HZ1 : Hid (w.heap.size < w1.heap.size) := Lib.hid (by omega)
    have HE1 := Lib.hid hz
    clear hb hk hz
    have hb : Below w1.heap.size w1 (w1.alloc (.cells #[.slice b1 ms.length d1, .slice b2 ts.length d2] 26)) := (Below.refl _ _).alloc (Nat.le_refl _) _
    have hk : (w1.alloc (.cells #[.slice b1 ms.length d1, .slice b2 ts.length d2] 26)).heap[w.heap.size + 1]? = some (.cells #[.slice b1 ms.length d1, .slice b2 ts.length d2] 26 (0, 0)) := alloc_at (by have := HE1.out; omega)
    have hz : (w1.alloc (.cells #[.slice b1 ms.length d1, .slice b2 ts.length d2] 26)).heap.size = w1.heap.size + 1 := by simp
    generalize w1.alloc (.cells #[.slice b1 ms.length d1, .slice b2 ts.length d2] 26) = w2 at hb hk hz ⊢
    have HB2 : Hid (Below w.heap.size w w2) := Lib.hid (HB1.out.trans (hb.mono HB1.out.size))
    have HZ2 : Hid (w1.heap.size ≤ w2.heap.size) := Lib.hid hb.size
    have HRf2 := Lib.hid (HRf0.out.below HB2.out (Nat.le_refl _))
    have HRg2 := Lib.hid (HRg0.out.below HB2.out (Nat.le_refl _))
    have HKa2 := Lib.hid ((hb.block _ (lt_of_block HKa1.out)).trans HKa1.out)
    have HKc2 := Lib.hid hk
    replace HZ2 : Hid (w1.heap.size < w2.heap.size) := Lib.hid (by omega)
    have HE2 := Lib.hid hz
    clear hb hk hz
    have hb : Below w2.heap.size w2 (w2.alloc (.cells #[.slice none 0 0, .slice none 0 0] 26)) := (Below.refl _ _).alloc (Nat.le_refl _) _
    have hk : (w2.alloc (.cells #[.slice none 0 0, .slice none 0 0] 26)).heap[w.heap.size + 2]? = some (.cells #[.slice none 0 0, .slice none 0 0] 26 (0, 0)) := alloc_at (by have := HE1.out; have := HE2.out; omega)
    have hz : (w2.alloc (.cells #[.slice none 0 0, .slice none 0 0] 26)).heap.size = w2.heap.size + 1 := by simp
    generalize w2.alloc (.cells #[.slice none 0 0, .slice none 0 0] 26) = w3 at hb hk hz ⊢
    have HB3 : Hid (Below w.heap.size w w3) := Lib.hid (HB2.out.trans (hb.mono HB2.out.size))
    have HZ3 : Hid (w2.heap.size ≤ w3.heap.size) := Lib.hid hb.size
    have HRf3 := Lib.hid (HRf0.out.below HB3.out (Nat.le_refl _))
    have HRg3 := Lib.hid (HRg0.out.below HB3.out (Nat.le_refl _))
    have HKa3 := Lib.hid ((hb.block _ (lt_of_block HKa2.out)).trans HKa2.out)
    have HKc3 := Lib.hid ((hb.block _ (lt_of_block HKc2.out)).trans HKc2.out)
    have HKz3 := Lib.hid hk
    replace HZ3 : Hid (w2.heap.size < w3.heap.size) := Lib.hid (by omega)
    have HE3 := Lib.hid hz
    clear hb hk hz
    have lta := lt_of_block HKa3.out
    obtain ⟨ca0, ca1, fa0, fa1⟩ := cell2 HKa3.out
    have ltc := lt_of_block HKc3.out
    obtain ⟨cc0, cc1, fc0, fc1⟩ := cell2 HKc3.out
    have ltz := lt_of_block HKz3.out
    obtain ⟨cz0, cz1, fz0, fz1⟩ := cell2 HKz3.out
    refine (l5Good_any _ _ ls ss _ HRf3.out false ⟨fun e => by simp at e, fun e => absurd e H1.out⟩).mono ?_
    rintro e w4 ⟨rfl, hb⟩
    have HB4 : Hid (Below w.heap.size w w4) := Lib.hid (HB3.out.trans (hb.mono HB3.out.size))
    have HZ4 : Hid (w3.heap.size ≤ w4.heap.size) := Lib.hid hb.size
    have HRf4 := Lib.hid (HRf0.out.below HB4.out (Nat.le_refl _))
    have HRg4 := Lib.hid (HRg0.out.below HB4.out (Nat.le_refl _))
    have HKa4 := Lib.hid ((hb.block _ (lt_of_block HKa3.out)).trans HKa3.out)
    have HKc4 := Lib.hid ((hb.block _ (lt_of_block HKc3.out)).trans HKc3.out)
    have HKz4 := Lib.hid ((hb.block _ (lt_of_block HKz3.out)).trans HKz3.out)
    clear hb
    clear ca0 ca1 fa0 fa1 lta cc0 cc1 fc0 fc1 ltc cz0 cz1 fz0 fz1 ltz
    have lta := lt_of_block HKa4.out
    obtain ⟨ca0, ca1, fa0, fa1⟩ := cell2 HKa4.out
    have ltc := lt_of_block HKc4.out
    obtain ⟨cc0, cc1, fc0, fc1⟩ := cell2 HKc4.out
    have ltz := lt_of_block HKz4.out
    obtain ⟨cz0, cz1, fz0, fz1⟩ := cell2 HKz4.out
    go_wp2_with fail
    exact bodyPost_ret (v := .tuple #[.agg #[(.slice none 0 0), (.slice none 0 0)], .bool false]) (by simp [results, Try.results14, go_sem, cz0, cz1]) rfl ⟨⟨_, _, rfl, OwB.nil' _ _ _⟩, by first | exact HB4.out | exact (HB4.out.setCell (p := ⟨w.heap.size + 2, 0, none⟩) (by show w.heap.size ≤ w.heap.size + 2; omega) _).setCell (p := ⟨w.heap.size + 2, 1, none⟩) (by show w.heap.size ≤ w.heap.size + 2; omega) _⟩
set_option maxRecDepth 100000 in
set_option maxHeartbeats 6400000 in
theorem specTake_yes (v1 v2 u1 u2 : Value) (ls ss ms ts : List Int) (w : World) (h : BrdR w v1 v2 ls ss) (h' : BrdR w u1 u2 ms ts) (hg1 : okB ls ss) (hg2 : okB ms ts) (qs qt : List Int) (r : Bool) (hk : SetF ls.length (valB ls ss - valB ms ts) qs qt r) :
    Calls Try.prog 14 #[.agg #[v1, v2], .agg #[u1, u2]] w fun e w' => (∃ s1 t1, e = .returned (.tuple #[.agg #[s1, t1], .bool r]) ∧ OwB w.heap.size w'.heap.size w' s1 t1 qs qt) ∧ Below w.heap.size w w' := by
  obtain ⟨a1, c1, a2, c2, rfl, rfl⟩ := h.form
  obtain ⟨b1, d1, b2, d2, rfl, rfl⟩ := h'.form
  have H1 := Lib.hid hg1
  have H2 := Lib.hid hg2
  have hva := valB_max hg1 0 (Nat.zero_le _)
  have hvb := valB_max hg2 0 (Nat.zero_le _)
  rw [List.drop_zero, List.drop_zero] at hva hvb
  have HVA := Lib.hid (fun w v1 v2 (h : BrdR w v1 v2 ls ss) => l5Value_any v1 v2 ls ss w h hg1)
  have HVB := Lib.hid (fun w v1 v2 (h : BrdR w v1 v2 ms ts) => l5Value_any v1 v2 ms ts w h hg2)
  generalize valB ls ss = va at hk hva HVA
  generalize valB ms ts = vb at hk hvb HVB
  have HC := Lib.hid (fun w => l5Set_any ls.length (va - vb) w hg1.1.2 (by omega) qs qt r hk)
  have wn : IntKind.i64.wrap (va - vb) = va - vb := by rw [IntKind.wrap_i64]; omega
  have HB0 : Hid (Below w.heap.size w w) := Lib.hid (Below.refl _ _)
  have HRf0 := Lib.hid (h)
  have HRg0 := Lib.hid (h')
  clear h h' hg1 hg2 hk hva hvb
  go_enter Try.func14, Try.ntmps14
  go_wp2_with fail
  have hb : Below w.heap.size w (w.alloc (.cells #[.slice a1 ls.length c1, .slice a2 ss.length c2] 26)) := (Below.refl _ _).alloc (Nat.le_refl _) _
  have hk : (w.alloc (.cells #[.slice a1 ls.length c1, .slice a2 ss.length c2] 26)).heap[w.heap.size]? = some (.cells #[.slice a1 ls.length c1, .slice a2 ss.length c2] 26 (0, 0)) := alloc_at rfl
  have hz : (w.alloc (.cells #[.slice a1 ls.length c1, .slice a2 ss.length c2] 26)).heap.size = w.heap.size + 1 := by simp
  generalize w.alloc (.cells #[.slice a1 ls.length c1, .slice a2 ss.length c2] 26) = w1 at hb hk hz ⊢
  have HB1 : Hid (Below w.heap.size w w1) := Lib.hid (HB0.out.trans (hb.mono HB0.out.size))
  have HZ1 : Hid (w.heap.size ≤ w1.heap.size) := Lib.hid hb.size
  have HRf1 := Lib.hid (HRf0.out.below HB1.out (Nat.le_refl _))
  have HRg1 := Lib.hid (HRg0.out.below HB1.out (Nat.le_refl _))
  have HKa1 := Lib.hid hk
  replace HZ1 : Hid (w.heap.size < w1.heap.size) := Lib.hid (by omega)
  have HE1 := Lib.hid hz
  clear hb hk hz
  have hb : Below w1.heap.size w1 (w1.alloc (.cells #[.slice b1 ms.length d1, .slice b2 ts.length d2] 26)) := (Below.refl _ _).alloc (Nat.le_refl _) _
  have hk : (w1.alloc (.cells #[.slice b1 ms.length d1, .slice b2 ts.length d2] 26)).heap[w.heap.size + 1]? = some (.cells #[.slice b1 ms.length d1, .slice b2 ts.length d2] 26 (0, 0)) := alloc_at (by have := HE1.out; omega)
  have hz : (w1.alloc (.cells #[.slice b1 ms.length d1, .slice b2 ts.length d2] 26)).heap.size = w1.heap.size + 1 := by simp
  generalize w1.alloc (.cells #[.slice b1 ms.length d1, .slice b2 ts.length d2] 26) = w2 at hb hk hz ⊢
  have HB2 : Hid (Below w.heap.size w w2) := Lib.hid (HB1.out.trans (hb.mono HB1.out.size))
  have HZ2 : Hid (w1.heap.size ≤ w2.heap.size) := Lib.hid hb.size
  have HRf2 := Lib.hid (HRf0.out.below HB2.out (Nat.le_refl _))
  have HRg2 := Lib.hid (HRg0.out.below HB2.out (Nat.le_refl _))
  have HKa2 := Lib.hid ((hb.block _ (lt_of_block HKa1.out)).trans HKa1.out)
  have HKc2 := Lib.hid hk
  replace HZ2 : Hid (w1.heap.size < w2.heap.size) := Lib.hid (by omega)
  have HE2 := Lib.hid hz
  clear hb hk hz
  have hb : Below w2.heap.size w2 (w2.alloc (.cells #[.slice none 0 0, .slice none 0 0] 26)) := (Below.refl _ _).alloc (Nat.le_refl _) _
  have hk : (w2.alloc (.cells #[.slice none 0 0, .slice none 0 0] 26)).heap[w.heap.size + 2]? = some (.cells #[.slice none 0 0, .slice none 0 0] 26 (0, 0)) := alloc_at (by have := HE1.out; have := HE2.out; omega)
  have hz : (w2.alloc (.cells #[.slice none 0 0, .slice none 0 0] 26)).heap.size = w2.heap.size + 1 := by simp
  generalize w2.alloc (.cells #[.slice none 0 0, .slice none 0 0] 26) = w3 at hb hk hz ⊢
  have HB3 : Hid (Below w.heap.size w w3) := Lib.hid (HB2.out.trans (hb.mono HB2.out.size))
  have HZ3 : Hid (w2.heap.size ≤ w3.heap.size) := Lib.hid hb.size
  have HRf3 := Lib.hid (HRf0.out.below HB3.out (Nat.le_refl _))
  have HRg3 := Lib.hid (HRg0.out.below HB3.out (Nat.le_refl _))
  have HKa3 := Lib.hid ((hb.block _ (lt_of_block HKa2.out)).trans HKa2.out)
  have HKc3 := Lib.hid ((hb.block _ (lt_of_block HKc2.out)).trans HKc2.out)
  have HKz3 := Lib.hid hk
  replace HZ3 : Hid (w2.heap.size < w3.heap.size) := Lib.hid (by omega)
  have HE3 := Lib.hid hz
  clear hb hk hz
  have lta := lt_of_block HKa3.out
  obtain ⟨ca0, ca1, fa0, fa1⟩ := cell2 HKa3.out
  have ltc := lt_of_block HKc3.out
  obtain ⟨cc0, cc1, fc0, fc1⟩ := cell2 HKc3.out
  have ltz := lt_of_block HKz3.out
  obtain ⟨cz0, cz1, fz0, fz1⟩ := cell2 HKz3.out
  have hl2' : w.heap.size + 2 < w3.heap.size := ltz
  refine (l5Good_any _ _ ls ss _ HRf3.out true ⟨fun _ => H1.out, fun _ => rfl⟩).mono ?_
  rintro e w4 ⟨rfl, hb⟩
  have HB4 : Hid (Below w.heap.size w w4) := Lib.hid (HB3.out.trans (hb.mono HB3.out.size))
  have HZ4 : Hid (w3.heap.size ≤ w4.heap.size) := Lib.hid hb.size
  have HRf4 := Lib.hid (HRf0.out.below HB4.out (Nat.le_refl _))
  have HRg4 := Lib.hid (HRg0.out.below HB4.out (Nat.le_refl _))
  have HKa4 := Lib.hid ((hb.block _ (lt_of_block HKa3.out)).trans HKa3.out)
  have HKc4 := Lib.hid ((hb.block _ (lt_of_block HKc3.out)).trans HKc3.out)
  have HKz4 := Lib.hid ((hb.block _ (lt_of_block HKz3.out)).trans HKz3.out)
  clear hb
  clear ca0 ca1 fa0 fa1 lta cc0 cc1 fc0 fc1 ltc cz0 cz1 fz0 fz1 ltz
  have lta := lt_of_block HKa4.out
  obtain ⟨ca0, ca1, fa0, fa1⟩ := cell2 HKa4.out
  have ltc := lt_of_block HKc4.out
  obtain ⟨cc0, cc1, fc0, fc1⟩ := cell2 HKc4.out
  have ltz := lt_of_block HKz4.out
  obtain ⟨cz0, cz1, fz0, fz1⟩ := cell2 HKz4.out
  go_wp2_with fail
  refine (l5Good_any _ _ ms ts _ HRg4.out true ⟨fun _ => H2.out, fun _ => rfl⟩).mono ?_
  rintro e w5 ⟨rfl, hb⟩
  have HB5 : Hid (Below w.heap.size w w5) := Lib.hid (HB4.out.trans (hb.mono HB4.out.size))
  have HZ5 : Hid (w4.heap.size ≤ w5.heap.size) := Lib.hid hb.size
  have HRf5 := Lib.hid (HRf0.out.below HB5.out (Nat.le_refl _))
  have HRg5 := Lib.hid (HRg0.out.below HB5.out (Nat.le_refl _))
  have HKa5 := Lib.hid ((hb.block _ (lt_of_block HKa4.out)).trans HKa4.out)
  have HKc5 := Lib.hid ((hb.block _ (lt_of_block HKc4.out)).trans HKc4.out)
  have HKz5 := Lib.hid ((hb.block _ (lt_of_block HKz4.out)).trans HKz4.out)
  clear hb
  have hl2 : w.heap.size + 2 < w5.heap.size := by have := HZ4.out; have := HZ5.out; omega
  clear ca0 ca1 fa0 fa1 lta cc0 cc1 fc0 fc1 ltc cz0 cz1 fz0 fz1 ltz
  have lta := lt_of_block HKa5.out
  obtain ⟨ca0, ca1, fa0, fa1⟩ := cell2 HKa5.out
  have ltc := lt_of_block HKc5.out
  obtain ⟨cc0, cc1, fc0, fc1⟩ := cell2 HKc5.out
  have ltz := lt_of_block HKz5.out
  obtain ⟨cz0, cz1, fz0, fz1⟩ := cell2 HKz5.out
  go_wp2_with fail
  clear ca0 ca1 fa0 fa1 lta cc0 cc1 fc0 fc1 ltc cz0 cz1 fz0 fz1 ltz
  have lta := lt_of_block HKa5.out
  obtain ⟨ca0, ca1, fa0, fa1⟩ := cell2 HKa5.out
  have ltc := lt_of_block HKc5.out
  obtain ⟨cc0, cc1, fc0, fc1⟩ := cell2 HKc5.out
  have ltz := lt_of_block HKz5.out
  obtain ⟨cz0, cz1, fz0, fz1⟩ := cell2 HKz5.out
  go_cut [6, 7] from 17 (fun p q wc => ∃ (b : Nat) (pa : Option Addr) (ka : Nat) (pb : Option Addr) (kb lo hi : Nat), p = .pointer (some ⟨b, 0, none⟩) ∧ q = .bool r ∧ wc.heap[b]? = some (.cells #[.slice pa qs.length ka, .slice pb qt.length kb] 26 (0, 0)) ∧ OwB lo hi wc (.slice pa qs.length ka) (.slice pb qt.length kb) qs qt ∧ w5.heap.size ≤ lo ∧ lo ≤ wc.heap.size ∧ lo ≤ hi ∧ hi ≤ wc.heap.size ∧ (b < lo ∨ hi ≤ b) ∧ w5.heap.size ≤ b ∧ Below w5.heap.size w5 wc)
  case first =>
    have HBs5_5 : Hid (Below w5.heap.size w5 w5) := Lib.hid (Below.refl _ _)
    refine wp_region_held_drew (S := (fun w' => w'.cell? ⟨w.heap.size, 0, none⟩ = some (.slice a1 ls.length c1) ∧ w'.cell? ⟨w.heap.size, 1, none⟩ = some (.slice a2 ss.length c2) ∧ w'.cell? ⟨w.heap.size + 1, 0, none⟩ = some (.slice b1 ms.length d1) ∧ w'.cell? ⟨w.heap.size + 1, 1, none⟩ = some (.slice b2 ts.length d2))) (by kernel_rfl) (⟨ca0, ca1, cc0, cc1⟩) (fun hHeld => ?_)
    have hb : Below w5.heap.size w5 w5.drew := (Below.refl _ _).drew
    generalize w5.drew = w6 at hb hHeld ⊢
    have HB6 : Hid (Below w.heap.size w w6) := Lib.hid (HB5.out.trans (hb.mono HB5.out.size))
    have HZ6 : Hid (w5.heap.size ≤ w6.heap.size) := Lib.hid hb.size
    have HRf6 := Lib.hid (HRf0.out.below HB6.out (Nat.le_refl _))
    have HRg6 := Lib.hid (HRg0.out.below HB6.out (Nat.le_refl _))
    have HKa6 := Lib.hid ((hb.block _ (lt_of_block HKa5.out)).trans HKa5.out)
    have HKc6 := Lib.hid ((hb.block _ (lt_of_block HKc5.out)).trans HKc5.out)
    have HKz6 := Lib.hid ((hb.block _ (lt_of_block HKz5.out)).trans HKz5.out)
    have HBs5_6 : Hid (Below w5.heap.size w5 w6) := Lib.hid (HBs5_5.out.trans (hb.mono HBs5_5.out.size))
    clear hb
    clear ca0 ca1 fa0 fa1 lta cc0 cc1 fc0 fc1 ltc cz0 cz1 fz0 fz1 ltz
    have lta := lt_of_block HKa6.out
    obtain ⟨ca0, ca1, fa0, fa1⟩ := cell2 HKa6.out
    have ltc := lt_of_block HKc6.out
    obtain ⟨cc0, cc1, fc0, fc1⟩ := cell2 HKc6.out
    have ltz := lt_of_block HKz6.out
    obtain ⟨cz0, cz1, fz0, fz1⟩ := cell2 HKz6.out
    refine take1 (i := 0) (v := ?v1) (some 18) rfl rfl (by kernel_rfl) (by kernel_rfl) (by kernel_rfl) (fun _ _ _ h => h) (Or.inl ⟨by rfl, ?y1⟩) (by assumption) ?r1
    case y1 => (intro w hSw; (try dsimp only at hSw); go_simp; (first | done | with_reducible rfl))
    try simp only [Act.put, List.setIfInBounds_toArray, List.set_cons_zero, List.set_cons_succ]
    refine take1 (i := 1) (v := ?v2) (some 19) rfl rfl (by kernel_rfl) (by kernel_rfl) (by kernel_rfl) (fun _ _ _ h => h) (Or.inl ⟨by rfl, ?y2⟩) (by assumption) ?r2
    case y2 => (intro w hSw; (try dsimp only at hSw); go_simp; (first | done | with_reducible rfl))
    try simp only [Act.put, List.setIfInBounds_toArray, List.set_cons_zero, List.set_cons_succ]
    refine take1 (i := 2) (v := ?v3) (some 20) rfl rfl (by kernel_rfl) (by kernel_rfl) (by kernel_rfl) (fun _ _ _ h => h) (Or.inl ⟨by rfl, ?y3⟩) (by assumption) ?r3
    case y3 => (intro w hSw; (try dsimp only at hSw); go_simp; (first | done | with_reducible rfl))
    try simp only [Act.put, List.setIfInBounds_toArray, List.set_cons_zero, List.set_cons_succ]
    refine take1 (i := 3) (v := ?v4) (some 21) rfl rfl (by kernel_rfl) (by kernel_rfl) (by kernel_rfl) (fun _ _ _ h => h) (Or.inl ⟨by rfl, ?y4⟩) (by assumption) ?r4
    case y4 => (intro w hSw; (try dsimp only at hSw); go_simp; (first | done | with_reducible rfl))
    try simp only [Act.put, List.setIfInBounds_toArray, List.set_cons_zero, List.set_cons_succ]
    refine take1 (i := 5) (v := ?v5) (some 23) rfl rfl (by kernel_rfl) (by kernel_rfl) (by kernel_rfl) (fun _ _ _ h => h) (Or.inl ⟨by rfl, ?y5⟩) (by assumption) ?r5
    case y5 => (intro w hSw; (try dsimp only at hSw); go_simp; (first | done | with_reducible rfl))
    try simp only [Act.put, List.setIfInBounds_toArray, List.set_cons_zero, List.set_cons_succ]
    refine wpAnyH_ready (rs := [4, 12]) (by kernel_rfl) (by simp) ?_
    refine AllReadyH.cons rfl (fun K hK => ?_) (AllReadyH.cons rfl (fun K hK => ?_) AllReadyH.nil)
    · go_simp
      go_at_call 34
      refine (HVA.out _ _ _ HRf6.out).mono ?_
      rintro e w7 ⟨rfl, hb⟩
      have HB7 : Hid (Below w.heap.size w w7) := Lib.hid (HB6.out.trans (hb.mono HB6.out.size))
      have HZ7 : Hid (w6.heap.size ≤ w7.heap.size) := Lib.hid hb.size
      have HRf7 := Lib.hid (HRf0.out.below HB7.out (Nat.le_refl _))
      have HRg7 := Lib.hid (HRg0.out.below HB7.out (Nat.le_refl _))
      have HKa7 := Lib.hid ((hb.block _ (lt_of_block HKa6.out)).trans HKa6.out)
      have HKc7 := Lib.hid ((hb.block _ (lt_of_block HKc6.out)).trans HKc6.out)
      have HKz7 := Lib.hid ((hb.block _ (lt_of_block HKz6.out)).trans HKz6.out)
      have HBs5_7 : Hid (Below w5.heap.size w5 w7) := Lib.hid (HBs5_6.out.trans (hb.mono HBs5_6.out.size))
      clear hb
      clear ca0 ca1 fa0 fa1 lta cc0 cc1 fc0 fc1 ltc cz0 cz1 fz0 fz1 ltz
      have lta := lt_of_block HKa7.out
      obtain ⟨ca0, ca1, fa0, fa1⟩ := cell2 HKa7.out
      have ltc := lt_of_block HKc7.out
      obtain ⟨cc0, cc1, fc0, fc1⟩ := cell2 HKc7.out
      have ltz := lt_of_block HKz7.out
      obtain ⟨cz0, cz1, fz0, fz1⟩ := cell2 HKz7.out
      try go_simp
      refine hK.out _ _ (⟨ca0, ca1, cc0, cc1⟩) (fun hHeld => ?_)
      clear hK K
      try simp only [Act.put, List.setIfInBounds_toArray, List.set_cons_zero, List.set_cons_succ]
      refine wpAnyH_ready (rs := [6, 12]) (by kernel_rfl) (by simp) ?_
      refine AllReadyH.cons rfl (fun K hK => ?_) (AllReadyH.cons rfl (fun K hK => ?_) AllReadyH.nil)
      · go_simp
        go_at_call 34
        refine (HVB.out _ _ _ HRg7.out).mono ?_
        rintro e w8 ⟨rfl, hb⟩
        have HB8 : Hid (Below w.heap.size w w8) := Lib.hid (HB7.out.trans (hb.mono HB7.out.size))
        have HZ8 : Hid (w7.heap.size ≤ w8.heap.size) := Lib.hid hb.size
        have HRf8 := Lib.hid (HRf0.out.below HB8.out (Nat.le_refl _))
        have HRg8 := Lib.hid (HRg0.out.below HB8.out (Nat.le_refl _))
        have HKa8 := Lib.hid ((hb.block _ (lt_of_block HKa7.out)).trans HKa7.out)
        have HKc8 := Lib.hid ((hb.block _ (lt_of_block HKc7.out)).trans HKc7.out)
        have HKz8 := Lib.hid ((hb.block _ (lt_of_block HKz7.out)).trans HKz7.out)
        have HBs5_8 : Hid (Below w5.heap.size w5 w8) := Lib.hid (HBs5_7.out.trans (hb.mono HBs5_7.out.size))
        clear hb
        clear ca0 ca1 fa0 fa1 lta cc0 cc1 fc0 fc1 ltc cz0 cz1 fz0 fz1 ltz
        have lta := lt_of_block HKa8.out
        obtain ⟨ca0, ca1, fa0, fa1⟩ := cell2 HKa8.out
        have ltc := lt_of_block HKc8.out
        obtain ⟨cc0, cc1, fc0, fc1⟩ := cell2 HKc8.out
        have ltz := lt_of_block HKz8.out
        obtain ⟨cz0, cz1, fz0, fz1⟩ := cell2 HKz8.out
        try go_simp
        refine hK.out _ _ (⟨ca0, ca1, cc0, cc1⟩) (fun hHeld => ?_)
        clear hK K
        try simp only [Act.put, List.setIfInBounds_toArray, List.set_cons_zero, List.set_cons_succ]
        refine take1 (i := 7) (v := ?v6) (some 25) rfl rfl (by kernel_rfl) (by kernel_rfl) (by kernel_rfl) (fun _ _ _ h => h) (Or.inl ⟨by rfl, ?y6⟩) (by assumption) ?r6
        case y6 => (intro w hSw; (try dsimp only at hSw); go_simp; (first | done | with_reducible rfl))
        try simp only [Act.put, List.setIfInBounds_toArray, List.set_cons_zero, List.set_cons_succ]
        refine wpAnyH_ready (rs := [8, 12]) (by kernel_rfl) (by simp) ?_
        refine AllReadyH.cons rfl (fun K hK => ?_) (AllReadyH.cons rfl (fun K hK => ?_) AllReadyH.nil)
        · go_simp
          go_at_call 33
          refine (HC.out _).mono ?_
          rintro e w9 ⟨⟨sv, su, rfl, ho⟩, hb⟩
          have HB9 : Hid (Below w.heap.size w w9) := Lib.hid (HB8.out.trans (hb.mono HB8.out.size))
          have HZ9 : Hid (w8.heap.size ≤ w9.heap.size) := Lib.hid hb.size
          have HRf9 := Lib.hid (HRf0.out.below HB9.out (Nat.le_refl _))
          have HRg9 := Lib.hid (HRg0.out.below HB9.out (Nat.le_refl _))
          have HKa9 := Lib.hid ((hb.block _ (lt_of_block HKa8.out)).trans HKa8.out)
          have HKc9 := Lib.hid ((hb.block _ (lt_of_block HKc8.out)).trans HKc8.out)
          have HKz9 := Lib.hid ((hb.block _ (lt_of_block HKz8.out)).trans HKz8.out)
          have HBs5_9 : Hid (Below w5.heap.size w5 w9) := Lib.hid (HBs5_8.out.trans (hb.mono HBs5_8.out.size))
          clear hb
          obtain ⟨pv, kv, pu, ku, rfl, rfl⟩ := ho.form
          have HOv9 := Lib.hid (ho)
          clear ho
          clear ca0 ca1 fa0 fa1 lta cc0 cc1 fc0 fc1 ltc cz0 cz1 fz0 fz1 ltz
          have lta := lt_of_block HKa9.out
          obtain ⟨ca0, ca1, fa0, fa1⟩ := cell2 HKa9.out
          have ltc := lt_of_block HKc9.out
          obtain ⟨cc0, cc1, fc0, fc1⟩ := cell2 HKc9.out
          have ltz := lt_of_block HKz9.out
          obtain ⟨cz0, cz1, fz0, fz1⟩ := cell2 HKz9.out
          try go_simp
          refine hK.out _ _ (⟨ca0, ca1, cc0, cc1⟩) (fun hHeld => ?_)
          clear hK K
          try simp only [Act.put, List.setIfInBounds_toArray, List.set_cons_zero, List.set_cons_succ]
          refine take1 (i := 9) (v := ?v7) (some 17) rfl rfl (by kernel_rfl) (by kernel_rfl) (by kernel_rfl) (fun _ _ _ h => h) (Or.inl ⟨by rfl, ?y7⟩) (by assumption) ?r7
          case y7 => (intro w hSw; (try dsimp only at hSw); go_simp; (first | done | with_reducible rfl))
          try simp only [Act.put, List.setIfInBounds_toArray, List.set_cons_zero, List.set_cons_succ]
          refine take1 (i := 10) (v := ?v8) (some 27) rfl rfl (by kernel_rfl) (by kernel_rfl) (by kernel_rfl) (fun _ _ _ h => h) (Or.inl ⟨by rfl, ?y8⟩) (by assumption) ?r8
          case y8 => (intro w hSw; (try dsimp only at hSw); go_simp; (first | done | with_reducible rfl))
          try simp only [Act.put, List.setIfInBounds_toArray, List.set_cons_zero, List.set_cons_succ]
          refine take1 (i := 11) (v := ?v9) (some 28) rfl rfl (by kernel_rfl) (by kernel_rfl) (by kernel_rfl) (fun _ _ _ h => h) (Or.inl ⟨by rfl, ?y9⟩) (by assumption) ?r9
          case y9 => (intro w hSw; (try dsimp only at hSw); go_simp; (first | done | with_reducible rfl))
          try simp only [Act.put, List.setIfInBounds_toArray, List.set_cons_zero, List.set_cons_succ]
          refine wpAnyH_ready (rs := [12]) (by kernel_rfl) (by simp) ?_
          refine AllReadyH.cons rfl (fun K hK => ?_) AllReadyH.nil
          go_simp
          have hb : Below w9.heap.size w9 (w9.alloc (.cells #[.slice none 0 0, .slice none 0 0] 26)) := (Below.refl _ _).alloc (Nat.le_refl _) _
          have hk : (w9.alloc (.cells #[.slice none 0 0, .slice none 0 0] 26)).heap[w9.heap.size]? = some (.cells #[.slice none 0 0, .slice none 0 0] 26 (0, 0)) := alloc_at rfl
          have hz : (w9.alloc (.cells #[.slice none 0 0, .slice none 0 0] 26)).heap.size = w9.heap.size + 1 := by simp
          generalize w9.alloc (.cells #[.slice none 0 0, .slice none 0 0] 26) = w10 at hb hk hz ⊢
          have HB10 : Hid (Below w.heap.size w w10) := Lib.hid (HB9.out.trans (hb.mono HB9.out.size))
          have HZ10 : Hid (w9.heap.size ≤ w10.heap.size) := Lib.hid hb.size
          have HRf10 := Lib.hid (HRf0.out.below HB10.out (Nat.le_refl _))
          have HRg10 := Lib.hid (HRg0.out.below HB10.out (Nat.le_refl _))
          have HKa10 := Lib.hid ((hb.block _ (lt_of_block HKa9.out)).trans HKa9.out)
          have HKc10 := Lib.hid ((hb.block _ (lt_of_block HKc9.out)).trans HKc9.out)
          have HKz10 := Lib.hid ((hb.block _ (lt_of_block HKz9.out)).trans HKz9.out)
          have HOv10 := Lib.hid (HOv9.out.next hb)
          have HBs5_10 : Hid (Below w5.heap.size w5 w10) := Lib.hid (HBs5_9.out.trans (hb.mono HBs5_9.out.size))
          have HKo10 := Lib.hid hk
          replace HZ10 : Hid (w9.heap.size < w10.heap.size) := Lib.hid (by omega)
          have HE10 := Lib.hid hz
          clear hb hk hz
          clear ca0 ca1 fa0 fa1 lta cc0 cc1 fc0 fc1 ltc cz0 cz1 fz0 fz1 ltz
          have lta := lt_of_block HKa10.out
          obtain ⟨ca0, ca1, fa0, fa1⟩ := cell2 HKa10.out
          have ltc := lt_of_block HKc10.out
          obtain ⟨cc0, cc1, fc0, fc1⟩ := cell2 HKc10.out
          have ltz := lt_of_block HKz10.out
          obtain ⟨cz0, cz1, fz0, fz1⟩ := cell2 HKz10.out
          have lto := lt_of_block HKo10.out
          obtain ⟨co0, co1, fo0, fo1⟩ := cell2 HKo10.out
          refine hK.out _ _ (⟨ca0, ca1, cc0, cc1⟩) (fun hHeld => ?_)
          clear hK K
          try simp only [Act.put, List.setIfInBounds_toArray, List.set_cons_zero, List.set_cons_succ]
          refine wpAnyH_ready (rs := [13]) (by kernel_rfl) (by simp) ?_
          refine AllReadyH.cons rfl (fun K hK => ?_) AllReadyH.nil
          go_simp
          have hkb := box2_set HKo10.out (.slice pv qs.length kv) (.slice pu qt.length ku)
          have hm : Btw w9.heap.size (w9.heap.size + 1) w10 ((w10.setCell ⟨w9.heap.size, 0, none⟩ (.slice pv qs.length kv)).setCell ⟨w9.heap.size, 1, none⟩ (.slice pu qt.length ku)) := ((Btw.refl w9.heap.size (w9.heap.size + 1) w10).setCell (p := ⟨w9.heap.size, 0, none⟩) (Nat.le_refl _) (Nat.lt_succ_self _) _).setCell (p := ⟨w9.heap.size, 1, none⟩) (Nat.le_refl _) (Nat.lt_succ_self _) _
          generalize (w10.setCell ⟨w9.heap.size, 0, none⟩ (.slice pv qs.length kv)).setCell ⟨w9.heap.size, 1, none⟩ (.slice pu qt.length ku) = w11 at hkb hm ⊢
          have HZ11 : Hid (w10.heap.size ≤ w11.heap.size) := Lib.hid hm.size
          have HB11 : Hid (Below w.heap.size w w11) := Lib.hid (HB10.out.trans (hm.below.mono (by have := HZ1.out; have := HZ2.out; have := HZ3.out; have := HZ4.out; have := HZ5.out; have := HZ6.out; have := HZ7.out; have := HZ8.out; have := HZ9.out; have := HZ10.out; have := HB0.out.size; omega)))
          have HRf11 := Lib.hid (HRf0.out.below HB11.out (Nat.le_refl _))
          have HRg11 := Lib.hid (HRg0.out.below HB11.out (Nat.le_refl _))
          have HKa11 := Lib.hid ((hm.block _ (by have := lt_of_block HKa10.out; have := HZ1.out; have := HZ2.out; have := HZ3.out; have := HZ4.out; have := HZ5.out; have := HZ6.out; have := HZ7.out; have := HZ8.out; have := HZ9.out; have := HZ10.out; omega)).trans HKa10.out)
          have HKc11 := Lib.hid ((hm.block _ (by have := lt_of_block HKc10.out; have := HZ1.out; have := HZ2.out; have := HZ3.out; have := HZ4.out; have := HZ5.out; have := HZ6.out; have := HZ7.out; have := HZ8.out; have := HZ9.out; have := HZ10.out; omega)).trans HKc10.out)
          have HKz11 := Lib.hid ((hm.block _ (by have := lt_of_block HKz10.out; have := HZ1.out; have := HZ2.out; have := HZ3.out; have := HZ4.out; have := HZ5.out; have := HZ6.out; have := HZ7.out; have := HZ8.out; have := HZ9.out; have := HZ10.out; omega)).trans HKz10.out)
          have HOv11 := Lib.hid (HOv10.out.btw hm (by have := HZ1.out; have := HZ2.out; have := HZ3.out; have := HZ4.out; have := HZ5.out; have := HZ6.out; have := HZ7.out; have := HZ8.out; have := HZ9.out; have := HZ10.out; omega))
          have HBs5_11 : Hid (Below w5.heap.size w5 w11) := Lib.hid (HBs5_10.out.trans (hm.below.mono (by have := HZ1.out; have := HZ2.out; have := HZ3.out; have := HZ4.out; have := HZ5.out; have := HZ6.out; have := HZ7.out; have := HZ8.out; have := HZ9.out; have := HZ10.out; omega)))
          clear hm
          have HKo11 := Lib.hid (hkb)
          clear hkb
          clear ca0 ca1 fa0 fa1 lta cc0 cc1 fc0 fc1 ltc cz0 cz1 fz0 fz1 ltz co0 co1 fo0 fo1 lto
          have lta := lt_of_block HKa11.out
          obtain ⟨ca0, ca1, fa0, fa1⟩ := cell2 HKa11.out
          have ltc := lt_of_block HKc11.out
          obtain ⟨cc0, cc1, fc0, fc1⟩ := cell2 HKc11.out
          have ltz := lt_of_block HKz11.out
          obtain ⟨cz0, cz1, fz0, fz1⟩ := cell2 HKz11.out
          have lto := lt_of_block HKo11.out
          obtain ⟨co0, co1, fo0, fo1⟩ := cell2 HKo11.out
          refine hK.out _ _ (⟨ca0, ca1, cc0, cc1⟩) (fun hHeld => ?_)
          clear hK K
          try simp only [Act.put]
          refine take1 (i := 14) (v := ?v10) (some 7) rfl rfl (by kernel_rfl) (by kernel_rfl) (by kernel_rfl) (fun _ _ _ h => h) (Or.inl ⟨by rfl, ?y10⟩) (by assumption) ?r10
          case y10 => (intro w hSw; (try dsimp only at hSw); go_simp; (first | done | with_reducible rfl))
          try simp only [Act.put, List.setIfInBounds_toArray, List.set_cons_zero, List.set_cons_succ]
          refine wpAnyH_done (by kernel_rfl) ?_ _
          go_wp2_with fail
          go_meet
          exact ⟨w9.heap.size, pv, kv, pu, ku, _, _, rfl, rfl, HKo11.out, HOv11.out, by have := HZ1.out; have := HZ2.out; have := HZ3.out; have := HZ4.out; have := HZ5.out; have := HZ6.out; have := HZ7.out; have := HZ8.out; have := HZ9.out; have := HZ10.out; have := HZ11.out;  omega, by have := HZ1.out; have := HZ2.out; have := HZ3.out; have := HZ4.out; have := HZ5.out; have := HZ6.out; have := HZ7.out; have := HZ8.out; have := HZ9.out; have := HZ10.out; have := HZ11.out;  omega, by have := HZ1.out; have := HZ2.out; have := HZ3.out; have := HZ4.out; have := HZ5.out; have := HZ6.out; have := HZ7.out; have := HZ8.out; have := HZ9.out; have := HZ10.out; have := HZ11.out;  omega, by have := HZ1.out; have := HZ2.out; have := HZ3.out; have := HZ4.out; have := HZ5.out; have := HZ6.out; have := HZ7.out; have := HZ8.out; have := HZ9.out; have := HZ10.out; have := HZ11.out;  omega, by have := HZ1.out; have := HZ2.out; have := HZ3.out; have := HZ4.out; have := HZ5.out; have := HZ6.out; have := HZ7.out; have := HZ8.out; have := HZ9.out; have := HZ10.out; have := HZ11.out;  omega, by have := HZ1.out; have := HZ2.out; have := HZ3.out; have := HZ4.out; have := HZ5.out; have := HZ6.out; have := HZ7.out; have := HZ8.out; have := HZ9.out; have := HZ10.out; have := HZ11.out;  omega, HBs5_11.out⟩
        · go_simp
          have hb : Below w8.heap.size w8 (w8.alloc (.cells #[.slice none 0 0, .slice none 0 0] 26)) := (Below.refl _ _).alloc (Nat.le_refl _) _
          have hk : (w8.alloc (.cells #[.slice none 0 0, .slice none 0 0] 26)).heap[w8.heap.size]? = some (.cells #[.slice none 0 0, .slice none 0 0] 26 (0, 0)) := alloc_at rfl
          have hz : (w8.alloc (.cells #[.slice none 0 0, .slice none 0 0] 26)).heap.size = w8.heap.size + 1 := by simp
          generalize w8.alloc (.cells #[.slice none 0 0, .slice none 0 0] 26) = w9 at hb hk hz ⊢
          have HB9 : Hid (Below w.heap.size w w9) := Lib.hid (HB8.out.trans (hb.mono HB8.out.size))
          have HZ9 : Hid (w8.heap.size ≤ w9.heap.size) := Lib.hid hb.size
          have HRf9 := Lib.hid (HRf0.out.below HB9.out (Nat.le_refl _))
          have HRg9 := Lib.hid (HRg0.out.below HB9.out (Nat.le_refl _))
          have HKa9 := Lib.hid ((hb.block _ (lt_of_block HKa8.out)).trans HKa8.out)
          have HKc9 := Lib.hid ((hb.block _ (lt_of_block HKc8.out)).trans HKc8.out)
          have HKz9 := Lib.hid ((hb.block _ (lt_of_block HKz8.out)).trans HKz8.out)
          have HBs5_9 : Hid (Below w5.heap.size w5 w9) := Lib.hid (HBs5_8.out.trans (hb.mono HBs5_8.out.size))
          have HKo9 := Lib.hid hk
          replace HZ9 : Hid (w8.heap.size < w9.heap.size) := Lib.hid (by omega)
          have HE9 := Lib.hid hz
          clear hb hk hz
          clear ca0 ca1 fa0 fa1 lta cc0 cc1 fc0 fc1 ltc cz0 cz1 fz0 fz1 ltz
          have lta := lt_of_block HKa9.out
          obtain ⟨ca0, ca1, fa0, fa1⟩ := cell2 HKa9.out
          have ltc := lt_of_block HKc9.out
          obtain ⟨cc0, cc1, fc0, fc1⟩ := cell2 HKc9.out
          have ltz := lt_of_block HKz9.out
          obtain ⟨cz0, cz1, fz0, fz1⟩ := cell2 HKz9.out
          have lto := lt_of_block HKo9.out
          obtain ⟨co0, co1, fo0, fo1⟩ := cell2 HKo9.out
          refine hK.out _ _ (⟨ca0, ca1, cc0, cc1⟩) (fun hHeld => ?_)
          clear hK K
          try simp only [Act.put, List.setIfInBounds_toArray, List.set_cons_zero, List.set_cons_succ]
          refine wpAnyH_ready (rs := [8]) (by kernel_rfl) (by simp) ?_
          refine AllReadyH.cons rfl (fun K hK => ?_) AllReadyH.nil
          go_simp
          go_at_call 33
          refine (HC.out _).mono ?_
          rintro e w10 ⟨⟨sv, su, rfl, ho⟩, hb⟩
          have HB10 : Hid (Below w.heap.size w w10) := Lib.hid (HB9.out.trans (hb.mono HB9.out.size))
          have HZ10 : Hid (w9.heap.size ≤ w10.heap.size) := Lib.hid hb.size
          have HRf10 := Lib.hid (HRf0.out.below HB10.out (Nat.le_refl _))
          have HRg10 := Lib.hid (HRg0.out.below HB10.out (Nat.le_refl _))
          have HKa10 := Lib.hid ((hb.block _ (lt_of_block HKa9.out)).trans HKa9.out)
          have HKc10 := Lib.hid ((hb.block _ (lt_of_block HKc9.out)).trans HKc9.out)
          have HKz10 := Lib.hid ((hb.block _ (lt_of_block HKz9.out)).trans HKz9.out)
          have HKo10 := Lib.hid ((hb.block _ (lt_of_block HKo9.out)).trans HKo9.out)
          have HBs5_10 : Hid (Below w5.heap.size w5 w10) := Lib.hid (HBs5_9.out.trans (hb.mono HBs5_9.out.size))
          clear hb
          obtain ⟨pv, kv, pu, ku, rfl, rfl⟩ := ho.form
          have HOv10 := Lib.hid (ho)
          clear ho
          clear ca0 ca1 fa0 fa1 lta cc0 cc1 fc0 fc1 ltc cz0 cz1 fz0 fz1 ltz co0 co1 fo0 fo1 lto
          have lta := lt_of_block HKa10.out
          obtain ⟨ca0, ca1, fa0, fa1⟩ := cell2 HKa10.out
          have ltc := lt_of_block HKc10.out
          obtain ⟨cc0, cc1, fc0, fc1⟩ := cell2 HKc10.out
          have ltz := lt_of_block HKz10.out
          obtain ⟨cz0, cz1, fz0, fz1⟩ := cell2 HKz10.out
          have lto := lt_of_block HKo10.out
          obtain ⟨co0, co1, fo0, fo1⟩ := cell2 HKo10.out
          try go_simp
          refine hK.out _ _ (⟨ca0, ca1, cc0, cc1⟩) (fun hHeld => ?_)
          clear hK K
          try simp only [Act.put, List.setIfInBounds_toArray, List.set_cons_zero, List.set_cons_succ]
          refine take1 (i := 9) (v := ?v11) (some 17) rfl rfl (by kernel_rfl) (by kernel_rfl) (by kernel_rfl) (fun _ _ _ h => h) (Or.inl ⟨by rfl, ?y11⟩) (by assumption) ?r11
          case y11 => (intro w hSw; (try dsimp only at hSw); go_simp; (first | done | with_reducible rfl))
          try simp only [Act.put, List.setIfInBounds_toArray, List.set_cons_zero, List.set_cons_succ]
          refine take1 (i := 10) (v := ?v12) (some 27) rfl rfl (by kernel_rfl) (by kernel_rfl) (by kernel_rfl) (fun _ _ _ h => h) (Or.inl ⟨by rfl, ?y12⟩) (by assumption) ?r12
          case y12 => (intro w hSw; (try dsimp only at hSw); go_simp; (first | done | with_reducible rfl))
          try simp only [Act.put, List.setIfInBounds_toArray, List.set_cons_zero, List.set_cons_succ]
          refine take1 (i := 11) (v := ?v13) (some 28) rfl rfl (by kernel_rfl) (by kernel_rfl) (by kernel_rfl) (fun _ _ _ h => h) (Or.inl ⟨by rfl, ?y13⟩) (by assumption) ?r13
          case y13 => (intro w hSw; (try dsimp only at hSw); go_simp; (first | done | with_reducible rfl))
          try simp only [Act.put, List.setIfInBounds_toArray, List.set_cons_zero, List.set_cons_succ]
          refine wpAnyH_ready (rs := [13]) (by kernel_rfl) (by simp) ?_
          refine AllReadyH.cons rfl (fun K hK => ?_) AllReadyH.nil
          go_simp
          have hkb := box2_set HKo10.out (.slice pv qs.length kv) (.slice pu qt.length ku)
          have hm : Btw w8.heap.size (w8.heap.size + 1) w10 ((w10.setCell ⟨w8.heap.size, 0, none⟩ (.slice pv qs.length kv)).setCell ⟨w8.heap.size, 1, none⟩ (.slice pu qt.length ku)) := ((Btw.refl w8.heap.size (w8.heap.size + 1) w10).setCell (p := ⟨w8.heap.size, 0, none⟩) (Nat.le_refl _) (Nat.lt_succ_self _) _).setCell (p := ⟨w8.heap.size, 1, none⟩) (Nat.le_refl _) (Nat.lt_succ_self _) _
          generalize (w10.setCell ⟨w8.heap.size, 0, none⟩ (.slice pv qs.length kv)).setCell ⟨w8.heap.size, 1, none⟩ (.slice pu qt.length ku) = w11 at hkb hm ⊢
          have HZ11 : Hid (w10.heap.size ≤ w11.heap.size) := Lib.hid hm.size
          have HB11 : Hid (Below w.heap.size w w11) := Lib.hid (HB10.out.trans (hm.below.mono (by have := HZ1.out; have := HZ2.out; have := HZ3.out; have := HZ4.out; have := HZ5.out; have := HZ6.out; have := HZ7.out; have := HZ8.out; have := HZ9.out; have := HZ10.out; have := HB0.out.size; omega)))
          have HRf11 := Lib.hid (HRf0.out.below HB11.out (Nat.le_refl _))
          have HRg11 := Lib.hid (HRg0.out.below HB11.out (Nat.le_refl _))
          have HKa11 := Lib.hid ((hm.block _ (by have := lt_of_block HKa10.out; have := HZ1.out; have := HZ2.out; have := HZ3.out; have := HZ4.out; have := HZ5.out; have := HZ6.out; have := HZ7.out; have := HZ8.out; have := HZ9.out; have := HZ10.out; omega)).trans HKa10.out)
          have HKc11 := Lib.hid ((hm.block _ (by have := lt_of_block HKc10.out; have := HZ1.out; have := HZ2.out; have := HZ3.out; have := HZ4.out; have := HZ5.out; have := HZ6.out; have := HZ7.out; have := HZ8.out; have := HZ9.out; have := HZ10.out; omega)).trans HKc10.out)
          have HKz11 := Lib.hid ((hm.block _ (by have := lt_of_block HKz10.out; have := HZ1.out; have := HZ2.out; have := HZ3.out; have := HZ4.out; have := HZ5.out; have := HZ6.out; have := HZ7.out; have := HZ8.out; have := HZ9.out; have := HZ10.out; omega)).trans HKz10.out)
          have HOv11 := Lib.hid (HOv10.out.btw hm (by have := HZ1.out; have := HZ2.out; have := HZ3.out; have := HZ4.out; have := HZ5.out; have := HZ6.out; have := HZ7.out; have := HZ8.out; have := HZ9.out; have := HZ10.out; omega))
          have HBs5_11 : Hid (Below w5.heap.size w5 w11) := Lib.hid (HBs5_10.out.trans (hm.below.mono (by have := HZ1.out; have := HZ2.out; have := HZ3.out; have := HZ4.out; have := HZ5.out; have := HZ6.out; have := HZ7.out; have := HZ8.out; have := HZ9.out; have := HZ10.out; omega)))
          clear hm
          have HKo11 := Lib.hid (hkb)
          clear hkb
          clear ca0 ca1 fa0 fa1 lta cc0 cc1 fc0 fc1 ltc cz0 cz1 fz0 fz1 ltz co0 co1 fo0 fo1 lto
          have lta := lt_of_block HKa11.out
          obtain ⟨ca0, ca1, fa0, fa1⟩ := cell2 HKa11.out
          have ltc := lt_of_block HKc11.out
          obtain ⟨cc0, cc1, fc0, fc1⟩ := cell2 HKc11.out
          have ltz := lt_of_block HKz11.out
          obtain ⟨cz0, cz1, fz0, fz1⟩ := cell2 HKz11.out
          have lto := lt_of_block HKo11.out
          obtain ⟨co0, co1, fo0, fo1⟩ := cell2 HKo11.out
          refine hK.out _ _ (⟨ca0, ca1, cc0, cc1⟩) (fun hHeld => ?_)
          clear hK K
          try simp only [Act.put]
          refine take1 (i := 14) (v := ?v14) (some 7) rfl rfl (by kernel_rfl) (by kernel_rfl) (by kernel_rfl) (fun _ _ _ h => h) (Or.inl ⟨by rfl, ?y14⟩) (by assumption) ?r14
          case y14 => (intro w hSw; (try dsimp only at hSw); go_simp; (first | done | with_reducible rfl))
          try simp only [Act.put, List.setIfInBounds_toArray, List.set_cons_zero, List.set_cons_succ]
          refine wpAnyH_done (by kernel_rfl) ?_ _
          go_wp2_with fail
          go_meet
          exact ⟨w8.heap.size, pv, kv, pu, ku, _, _, rfl, rfl, HKo11.out, HOv11.out, by have := HZ1.out; have := HZ2.out; have := HZ3.out; have := HZ4.out; have := HZ5.out; have := HZ6.out; have := HZ7.out; have := HZ8.out; have := HZ9.out; have := HZ10.out; have := HZ11.out;  omega, by have := HZ1.out; have := HZ2.out; have := HZ3.out; have := HZ4.out; have := HZ5.out; have := HZ6.out; have := HZ7.out; have := HZ8.out; have := HZ9.out; have := HZ10.out; have := HZ11.out;  omega, by have := HZ1.out; have := HZ2.out; have := HZ3.out; have := HZ4.out; have := HZ5.out; have := HZ6.out; have := HZ7.out; have := HZ8.out; have := HZ9.out; have := HZ10.out; have := HZ11.out;  omega, by have := HZ1.out; have := HZ2.out; have := HZ3.out; have := HZ4.out; have := HZ5.out; have := HZ6.out; have := HZ7.out; have := HZ8.out; have := HZ9.out; have := HZ10.out; have := HZ11.out;  omega, by have := HZ1.out; have := HZ2.out; have := HZ3.out; have := HZ4.out; have := HZ5.out; have := HZ6.out; have := HZ7.out; have := HZ8.out; have := HZ9.out; have := HZ10.out; have := HZ11.out;  omega, by have := HZ1.out; have := HZ2.out; have := HZ3.out; have := HZ4.out; have := HZ5.out; have := HZ6.out; have := HZ7.out; have := HZ8.out; have := HZ9.out; have := HZ10.out; have := HZ11.out;  omega, HBs5_11.out⟩
      · go_simp
        have hb : Below w7.heap.size w7 (w7.alloc (.cells #[.slice none 0 0, .slice none 0 0] 26)) := (Below.refl _ _).alloc (Nat.le_refl _) _
        have hk : (w7.alloc (.cells #[.slice none 0 0, .slice none 0 0] 26)).heap[w7.heap.size]? = some (.cells #[.slice none 0 0, .slice none 0 0] 26 (0, 0)) := alloc_at rfl
        have hz : (w7.alloc (.cells #[.slice none 0 0, .slice none 0 0] 26)).heap.size = w7.heap.size + 1 := by simp
        generalize w7.alloc (.cells #[.slice none 0 0, .slice none 0 0] 26) = w8 at hb hk hz ⊢
        have HB8 : Hid (Below w.heap.size w w8) := Lib.hid (HB7.out.trans (hb.mono HB7.out.size))
        have HZ8 : Hid (w7.heap.size ≤ w8.heap.size) := Lib.hid hb.size
        have HRf8 := Lib.hid (HRf0.out.below HB8.out (Nat.le_refl _))
        have HRg8 := Lib.hid (HRg0.out.below HB8.out (Nat.le_refl _))
        have HKa8 := Lib.hid ((hb.block _ (lt_of_block HKa7.out)).trans HKa7.out)
        have HKc8 := Lib.hid ((hb.block _ (lt_of_block HKc7.out)).trans HKc7.out)
        have HKz8 := Lib.hid ((hb.block _ (lt_of_block HKz7.out)).trans HKz7.out)
        have HBs5_8 : Hid (Below w5.heap.size w5 w8) := Lib.hid (HBs5_7.out.trans (hb.mono HBs5_7.out.size))
        have HKo8 := Lib.hid hk
        replace HZ8 : Hid (w7.heap.size < w8.heap.size) := Lib.hid (by omega)
        have HE8 := Lib.hid hz
        clear hb hk hz
        clear ca0 ca1 fa0 fa1 lta cc0 cc1 fc0 fc1 ltc cz0 cz1 fz0 fz1 ltz
        have lta := lt_of_block HKa8.out
        obtain ⟨ca0, ca1, fa0, fa1⟩ := cell2 HKa8.out
        have ltc := lt_of_block HKc8.out
        obtain ⟨cc0, cc1, fc0, fc1⟩ := cell2 HKc8.out
        have ltz := lt_of_block HKz8.out
        obtain ⟨cz0, cz1, fz0, fz1⟩ := cell2 HKz8.out
        have lto := lt_of_block HKo8.out
        obtain ⟨co0, co1, fo0, fo1⟩ := cell2 HKo8.out
        refine hK.out _ _ (⟨ca0, ca1, cc0, cc1⟩) (fun hHeld => ?_)
        clear hK K
        try simp only [Act.put, List.setIfInBounds_toArray, List.set_cons_zero, List.set_cons_succ]
        refine wpAnyH_ready (rs := [6]) (by kernel_rfl) (by simp) ?_
        refine AllReadyH.cons rfl (fun K hK => ?_) AllReadyH.nil
        go_simp
        go_at_call 34
        refine (HVB.out _ _ _ HRg8.out).mono ?_
        rintro e w9 ⟨rfl, hb⟩
        have HB9 : Hid (Below w.heap.size w w9) := Lib.hid (HB8.out.trans (hb.mono HB8.out.size))
        have HZ9 : Hid (w8.heap.size ≤ w9.heap.size) := Lib.hid hb.size
        have HRf9 := Lib.hid (HRf0.out.below HB9.out (Nat.le_refl _))
        have HRg9 := Lib.hid (HRg0.out.below HB9.out (Nat.le_refl _))
        have HKa9 := Lib.hid ((hb.block _ (lt_of_block HKa8.out)).trans HKa8.out)
        have HKc9 := Lib.hid ((hb.block _ (lt_of_block HKc8.out)).trans HKc8.out)
        have HKz9 := Lib.hid ((hb.block _ (lt_of_block HKz8.out)).trans HKz8.out)
        have HKo9 := Lib.hid ((hb.block _ (lt_of_block HKo8.out)).trans HKo8.out)
        have HBs5_9 : Hid (Below w5.heap.size w5 w9) := Lib.hid (HBs5_8.out.trans (hb.mono HBs5_8.out.size))
        clear hb
        clear ca0 ca1 fa0 fa1 lta cc0 cc1 fc0 fc1 ltc cz0 cz1 fz0 fz1 ltz co0 co1 fo0 fo1 lto
        have lta := lt_of_block HKa9.out
        obtain ⟨ca0, ca1, fa0, fa1⟩ := cell2 HKa9.out
        have ltc := lt_of_block HKc9.out
        obtain ⟨cc0, cc1, fc0, fc1⟩ := cell2 HKc9.out
        have ltz := lt_of_block HKz9.out
        obtain ⟨cz0, cz1, fz0, fz1⟩ := cell2 HKz9.out
        have lto := lt_of_block HKo9.out
        obtain ⟨co0, co1, fo0, fo1⟩ := cell2 HKo9.out
        try go_simp
        refine hK.out _ _ (⟨ca0, ca1, cc0, cc1⟩) (fun hHeld => ?_)
        clear hK K
        try simp only [Act.put, List.setIfInBounds_toArray, List.set_cons_zero, List.set_cons_succ]
        refine take1 (i := 7) (v := ?v15) (some 25) rfl rfl (by kernel_rfl) (by kernel_rfl) (by kernel_rfl) (fun _ _ _ h => h) (Or.inl ⟨by rfl, ?y15⟩) (by assumption) ?r15
        case y15 => (intro w hSw; (try dsimp only at hSw); go_simp; (first | done | with_reducible rfl))
        try simp only [Act.put, List.setIfInBounds_toArray, List.set_cons_zero, List.set_cons_succ]
        refine wpAnyH_ready (rs := [8]) (by kernel_rfl) (by simp) ?_
        refine AllReadyH.cons rfl (fun K hK => ?_) AllReadyH.nil
        go_simp
        go_at_call 33
        refine (HC.out _).mono ?_
        rintro e w10 ⟨⟨sv, su, rfl, ho⟩, hb⟩
        have HB10 : Hid (Below w.heap.size w w10) := Lib.hid (HB9.out.trans (hb.mono HB9.out.size))
        have HZ10 : Hid (w9.heap.size ≤ w10.heap.size) := Lib.hid hb.size
        have HRf10 := Lib.hid (HRf0.out.below HB10.out (Nat.le_refl _))
        have HRg10 := Lib.hid (HRg0.out.below HB10.out (Nat.le_refl _))
        have HKa10 := Lib.hid ((hb.block _ (lt_of_block HKa9.out)).trans HKa9.out)
        have HKc10 := Lib.hid ((hb.block _ (lt_of_block HKc9.out)).trans HKc9.out)
        have HKz10 := Lib.hid ((hb.block _ (lt_of_block HKz9.out)).trans HKz9.out)
        have HKo10 := Lib.hid ((hb.block _ (lt_of_block HKo9.out)).trans HKo9.out)
        have HBs5_10 : Hid (Below w5.heap.size w5 w10) := Lib.hid (HBs5_9.out.trans (hb.mono HBs5_9.out.size))
        clear hb
        obtain ⟨pv, kv, pu, ku, rfl, rfl⟩ := ho.form
        have HOv10 := Lib.hid (ho)
        clear ho
        clear ca0 ca1 fa0 fa1 lta cc0 cc1 fc0 fc1 ltc cz0 cz1 fz0 fz1 ltz co0 co1 fo0 fo1 lto
        have lta := lt_of_block HKa10.out
        obtain ⟨ca0, ca1, fa0, fa1⟩ := cell2 HKa10.out
        have ltc := lt_of_block HKc10.out
        obtain ⟨cc0, cc1, fc0, fc1⟩ := cell2 HKc10.out
        have ltz := lt_of_block HKz10.out
        obtain ⟨cz0, cz1, fz0, fz1⟩ := cell2 HKz10.out
        have lto := lt_of_block HKo10.out
        obtain ⟨co0, co1, fo0, fo1⟩ := cell2 HKo10.out
        try go_simp
        refine hK.out _ _ (⟨ca0, ca1, cc0, cc1⟩) (fun hHeld => ?_)
        clear hK K
        try simp only [Act.put, List.setIfInBounds_toArray, List.set_cons_zero, List.set_cons_succ]
        refine take1 (i := 9) (v := ?v16) (some 17) rfl rfl (by kernel_rfl) (by kernel_rfl) (by kernel_rfl) (fun _ _ _ h => h) (Or.inl ⟨by rfl, ?y16⟩) (by assumption) ?r16
        case y16 => (intro w hSw; (try dsimp only at hSw); go_simp; (first | done | with_reducible rfl))
        try simp only [Act.put, List.setIfInBounds_toArray, List.set_cons_zero, List.set_cons_succ]
        refine take1 (i := 10) (v := ?v17) (some 27) rfl rfl (by kernel_rfl) (by kernel_rfl) (by kernel_rfl) (fun _ _ _ h => h) (Or.inl ⟨by rfl, ?y17⟩) (by assumption) ?r17
        case y17 => (intro w hSw; (try dsimp only at hSw); go_simp; (first | done | with_reducible rfl))
        try simp only [Act.put, List.setIfInBounds_toArray, List.set_cons_zero, List.set_cons_succ]
        refine take1 (i := 11) (v := ?v18) (some 28) rfl rfl (by kernel_rfl) (by kernel_rfl) (by kernel_rfl) (fun _ _ _ h => h) (Or.inl ⟨by rfl, ?y18⟩) (by assumption) ?r18
        case y18 => (intro w hSw; (try dsimp only at hSw); go_simp; (first | done | with_reducible rfl))
        try simp only [Act.put, List.setIfInBounds_toArray, List.set_cons_zero, List.set_cons_succ]
        refine wpAnyH_ready (rs := [13]) (by kernel_rfl) (by simp) ?_
        refine AllReadyH.cons rfl (fun K hK => ?_) AllReadyH.nil
        go_simp
        have hkb := box2_set HKo10.out (.slice pv qs.length kv) (.slice pu qt.length ku)
        have hm : Btw w7.heap.size (w7.heap.size + 1) w10 ((w10.setCell ⟨w7.heap.size, 0, none⟩ (.slice pv qs.length kv)).setCell ⟨w7.heap.size, 1, none⟩ (.slice pu qt.length ku)) := ((Btw.refl w7.heap.size (w7.heap.size + 1) w10).setCell (p := ⟨w7.heap.size, 0, none⟩) (Nat.le_refl _) (Nat.lt_succ_self _) _).setCell (p := ⟨w7.heap.size, 1, none⟩) (Nat.le_refl _) (Nat.lt_succ_self _) _
        generalize (w10.setCell ⟨w7.heap.size, 0, none⟩ (.slice pv qs.length kv)).setCell ⟨w7.heap.size, 1, none⟩ (.slice pu qt.length ku) = w11 at hkb hm ⊢
        have HZ11 : Hid (w10.heap.size ≤ w11.heap.size) := Lib.hid hm.size
        have HB11 : Hid (Below w.heap.size w w11) := Lib.hid (HB10.out.trans (hm.below.mono (by have := HZ1.out; have := HZ2.out; have := HZ3.out; have := HZ4.out; have := HZ5.out; have := HZ6.out; have := HZ7.out; have := HZ8.out; have := HZ9.out; have := HZ10.out; have := HB0.out.size; omega)))
        have HRf11 := Lib.hid (HRf0.out.below HB11.out (Nat.le_refl _))
        have HRg11 := Lib.hid (HRg0.out.below HB11.out (Nat.le_refl _))
        have HKa11 := Lib.hid ((hm.block _ (by have := lt_of_block HKa10.out; have := HZ1.out; have := HZ2.out; have := HZ3.out; have := HZ4.out; have := HZ5.out; have := HZ6.out; have := HZ7.out; have := HZ8.out; have := HZ9.out; have := HZ10.out; omega)).trans HKa10.out)
        have HKc11 := Lib.hid ((hm.block _ (by have := lt_of_block HKc10.out; have := HZ1.out; have := HZ2.out; have := HZ3.out; have := HZ4.out; have := HZ5.out; have := HZ6.out; have := HZ7.out; have := HZ8.out; have := HZ9.out; have := HZ10.out; omega)).trans HKc10.out)
        have HKz11 := Lib.hid ((hm.block _ (by have := lt_of_block HKz10.out; have := HZ1.out; have := HZ2.out; have := HZ3.out; have := HZ4.out; have := HZ5.out; have := HZ6.out; have := HZ7.out; have := HZ8.out; have := HZ9.out; have := HZ10.out; omega)).trans HKz10.out)
        have HOv11 := Lib.hid (HOv10.out.btw hm (by have := HZ1.out; have := HZ2.out; have := HZ3.out; have := HZ4.out; have := HZ5.out; have := HZ6.out; have := HZ7.out; have := HZ8.out; have := HZ9.out; have := HZ10.out; omega))
        have HBs5_11 : Hid (Below w5.heap.size w5 w11) := Lib.hid (HBs5_10.out.trans (hm.below.mono (by have := HZ1.out; have := HZ2.out; have := HZ3.out; have := HZ4.out; have := HZ5.out; have := HZ6.out; have := HZ7.out; have := HZ8.out; have := HZ9.out; have := HZ10.out; omega)))
        clear hm
        have HKo11 := Lib.hid (hkb)
        clear hkb
        clear ca0 ca1 fa0 fa1 lta cc0 cc1 fc0 fc1 ltc cz0 cz1 fz0 fz1 ltz co0 co1 fo0 fo1 lto
        have lta := lt_of_block HKa11.out
        obtain ⟨ca0, ca1, fa0, fa1⟩ := cell2 HKa11.out
        have ltc := lt_of_block HKc11.out
        obtain ⟨cc0, cc1, fc0, fc1⟩ := cell2 HKc11.out
        have ltz := lt_of_block HKz11.out
        obtain ⟨cz0, cz1, fz0, fz1⟩ := cell2 HKz11.out
        have lto := lt_of_block HKo11.out
        obtain ⟨co0, co1, fo0, fo1⟩ := cell2 HKo11.out
        refine hK.out _ _ (⟨ca0, ca1, cc0, cc1⟩) (fun hHeld => ?_)
        clear hK K
        try simp only [Act.put]
        refine take1 (i := 14) (v := ?v19) (some 7) rfl rfl (by kernel_rfl) (by kernel_rfl) (by kernel_rfl) (fun _ _ _ h => h) (Or.inl ⟨by rfl, ?y19⟩) (by assumption) ?r19
        case y19 => (intro w hSw; (try dsimp only at hSw); go_simp; (first | done | with_reducible rfl))
        try simp only [Act.put, List.setIfInBounds_toArray, List.set_cons_zero, List.set_cons_succ]
        refine wpAnyH_done (by kernel_rfl) ?_ _
        go_wp2_with fail
        go_meet
        exact ⟨w7.heap.size, pv, kv, pu, ku, _, _, rfl, rfl, HKo11.out, HOv11.out, by have := HZ1.out; have := HZ2.out; have := HZ3.out; have := HZ4.out; have := HZ5.out; have := HZ6.out; have := HZ7.out; have := HZ8.out; have := HZ9.out; have := HZ10.out; have := HZ11.out;  omega, by have := HZ1.out; have := HZ2.out; have := HZ3.out; have := HZ4.out; have := HZ5.out; have := HZ6.out; have := HZ7.out; have := HZ8.out; have := HZ9.out; have := HZ10.out; have := HZ11.out;  omega, by have := HZ1.out; have := HZ2.out; have := HZ3.out; have := HZ4.out; have := HZ5.out; have := HZ6.out; have := HZ7.out; have := HZ8.out; have := HZ9.out; have := HZ10.out; have := HZ11.out;  omega, by have := HZ1.out; have := HZ2.out; have := HZ3.out; have := HZ4.out; have := HZ5.out; have := HZ6.out; have := HZ7.out; have := HZ8.out; have := HZ9.out; have := HZ10.out; have := HZ11.out;  omega, by have := HZ1.out; have := HZ2.out; have := HZ3.out; have := HZ4.out; have := HZ5.out; have := HZ6.out; have := HZ7.out; have := HZ8.out; have := HZ9.out; have := HZ10.out; have := HZ11.out;  omega, by have := HZ1.out; have := HZ2.out; have := HZ3.out; have := HZ4.out; have := HZ5.out; have := HZ6.out; have := HZ7.out; have := HZ8.out; have := HZ9.out; have := HZ10.out; have := HZ11.out;  omega, HBs5_11.out⟩
    · go_simp
      have hb : Below w6.heap.size w6 (w6.alloc (.cells #[.slice none 0 0, .slice none 0 0] 26)) := (Below.refl _ _).alloc (Nat.le_refl _) _
      have hk : (w6.alloc (.cells #[.slice none 0 0, .slice none 0 0] 26)).heap[w6.heap.size]? = some (.cells #[.slice none 0 0, .slice none 0 0] 26 (0, 0)) := alloc_at rfl
      have hz : (w6.alloc (.cells #[.slice none 0 0, .slice none 0 0] 26)).heap.size = w6.heap.size + 1 := by simp
      generalize w6.alloc (.cells #[.slice none 0 0, .slice none 0 0] 26) = w7 at hb hk hz ⊢
      have HB7 : Hid (Below w.heap.size w w7) := Lib.hid (HB6.out.trans (hb.mono HB6.out.size))
      have HZ7 : Hid (w6.heap.size ≤ w7.heap.size) := Lib.hid hb.size
      have HRf7 := Lib.hid (HRf0.out.below HB7.out (Nat.le_refl _))
      have HRg7 := Lib.hid (HRg0.out.below HB7.out (Nat.le_refl _))
      have HKa7 := Lib.hid ((hb.block _ (lt_of_block HKa6.out)).trans HKa6.out)
      have HKc7 := Lib.hid ((hb.block _ (lt_of_block HKc6.out)).trans HKc6.out)
      have HKz7 := Lib.hid ((hb.block _ (lt_of_block HKz6.out)).trans HKz6.out)
      have HBs5_7 : Hid (Below w5.heap.size w5 w7) := Lib.hid (HBs5_6.out.trans (hb.mono HBs5_6.out.size))
      have HKo7 := Lib.hid hk
      replace HZ7 : Hid (w6.heap.size < w7.heap.size) := Lib.hid (by omega)
      have HE7 := Lib.hid hz
      clear hb hk hz
      clear ca0 ca1 fa0 fa1 lta cc0 cc1 fc0 fc1 ltc cz0 cz1 fz0 fz1 ltz
      have lta := lt_of_block HKa7.out
      obtain ⟨ca0, ca1, fa0, fa1⟩ := cell2 HKa7.out
      have ltc := lt_of_block HKc7.out
      obtain ⟨cc0, cc1, fc0, fc1⟩ := cell2 HKc7.out
      have ltz := lt_of_block HKz7.out
      obtain ⟨cz0, cz1, fz0, fz1⟩ := cell2 HKz7.out
      have lto := lt_of_block HKo7.out
      obtain ⟨co0, co1, fo0, fo1⟩ := cell2 HKo7.out
      refine hK.out _ _ (⟨ca0, ca1, cc0, cc1⟩) (fun hHeld => ?_)
      clear hK K
      try simp only [Act.put, List.setIfInBounds_toArray, List.set_cons_zero, List.set_cons_succ]
      refine wpAnyH_ready (rs := [4]) (by kernel_rfl) (by simp) ?_
      refine AllReadyH.cons rfl (fun K hK => ?_) AllReadyH.nil
      go_simp
      go_at_call 34
      refine (HVA.out _ _ _ HRf7.out).mono ?_
      rintro e w8 ⟨rfl, hb⟩
      have HB8 : Hid (Below w.heap.size w w8) := Lib.hid (HB7.out.trans (hb.mono HB7.out.size))
      have HZ8 : Hid (w7.heap.size ≤ w8.heap.size) := Lib.hid hb.size
      have HRf8 := Lib.hid (HRf0.out.below HB8.out (Nat.le_refl _))
      have HRg8 := Lib.hid (HRg0.out.below HB8.out (Nat.le_refl _))
      have HKa8 := Lib.hid ((hb.block _ (lt_of_block HKa7.out)).trans HKa7.out)
      have HKc8 := Lib.hid ((hb.block _ (lt_of_block HKc7.out)).trans HKc7.out)
      have HKz8 := Lib.hid ((hb.block _ (lt_of_block HKz7.out)).trans HKz7.out)
      have HKo8 := Lib.hid ((hb.block _ (lt_of_block HKo7.out)).trans HKo7.out)
      have HBs5_8 : Hid (Below w5.heap.size w5 w8) := Lib.hid (HBs5_7.out.trans (hb.mono HBs5_7.out.size))
      clear hb
      clear ca0 ca1 fa0 fa1 lta cc0 cc1 fc0 fc1 ltc cz0 cz1 fz0 fz1 ltz co0 co1 fo0 fo1 lto
      have lta := lt_of_block HKa8.out
      obtain ⟨ca0, ca1, fa0, fa1⟩ := cell2 HKa8.out
      have ltc := lt_of_block HKc8.out
      obtain ⟨cc0, cc1, fc0, fc1⟩ := cell2 HKc8.out
      have ltz := lt_of_block HKz8.out
      obtain ⟨cz0, cz1, fz0, fz1⟩ := cell2 HKz8.out
      have lto := lt_of_block HKo8.out
      obtain ⟨co0, co1, fo0, fo1⟩ := cell2 HKo8.out
      try go_simp
      refine hK.out _ _ (⟨ca0, ca1, cc0, cc1⟩) (fun hHeld => ?_)
      clear hK K
      try simp only [Act.put, List.setIfInBounds_toArray, List.set_cons_zero, List.set_cons_succ]
      refine wpAnyH_ready (rs := [6]) (by kernel_rfl) (by simp) ?_
      refine AllReadyH.cons rfl (fun K hK => ?_) AllReadyH.nil
      go_simp
      go_at_call 34
      refine (HVB.out _ _ _ HRg8.out).mono ?_
      rintro e w9 ⟨rfl, hb⟩
      have HB9 : Hid (Below w.heap.size w w9) := Lib.hid (HB8.out.trans (hb.mono HB8.out.size))
      have HZ9 : Hid (w8.heap.size ≤ w9.heap.size) := Lib.hid hb.size
      have HRf9 := Lib.hid (HRf0.out.below HB9.out (Nat.le_refl _))
      have HRg9 := Lib.hid (HRg0.out.below HB9.out (Nat.le_refl _))
      have HKa9 := Lib.hid ((hb.block _ (lt_of_block HKa8.out)).trans HKa8.out)
      have HKc9 := Lib.hid ((hb.block _ (lt_of_block HKc8.out)).trans HKc8.out)
      have HKz9 := Lib.hid ((hb.block _ (lt_of_block HKz8.out)).trans HKz8.out)
      have HKo9 := Lib.hid ((hb.block _ (lt_of_block HKo8.out)).trans HKo8.out)
      have HBs5_9 : Hid (Below w5.heap.size w5 w9) := Lib.hid (HBs5_8.out.trans (hb.mono HBs5_8.out.size))
      clear hb
      clear ca0 ca1 fa0 fa1 lta cc0 cc1 fc0 fc1 ltc cz0 cz1 fz0 fz1 ltz co0 co1 fo0 fo1 lto
      have lta := lt_of_block HKa9.out
      obtain ⟨ca0, ca1, fa0, fa1⟩ := cell2 HKa9.out
      have ltc := lt_of_block HKc9.out
      obtain ⟨cc0, cc1, fc0, fc1⟩ := cell2 HKc9.out
      have ltz := lt_of_block HKz9.out
      obtain ⟨cz0, cz1, fz0, fz1⟩ := cell2 HKz9.out
      have lto := lt_of_block HKo9.out
      obtain ⟨co0, co1, fo0, fo1⟩ := cell2 HKo9.out
      try go_simp
      refine hK.out _ _ (⟨ca0, ca1, cc0, cc1⟩) (fun hHeld => ?_)
      clear hK K
      try simp only [Act.put, List.setIfInBounds_toArray, List.set_cons_zero, List.set_cons_succ]
      refine take1 (i := 7) (v := ?v20) (some 25) rfl rfl (by kernel_rfl) (by kernel_rfl) (by kernel_rfl) (fun _ _ _ h => h) (Or.inl ⟨by rfl, ?y20⟩) (by assumption) ?r20
      case y20 => (intro w hSw; (try dsimp only at hSw); go_simp; (first | done | with_reducible rfl))
      try simp only [Act.put, List.setIfInBounds_toArray, List.set_cons_zero, List.set_cons_succ]
      refine wpAnyH_ready (rs := [8]) (by kernel_rfl) (by simp) ?_
      refine AllReadyH.cons rfl (fun K hK => ?_) AllReadyH.nil
      go_simp
      go_at_call 33
      refine (HC.out _).mono ?_
      rintro e w10 ⟨⟨sv, su, rfl, ho⟩, hb⟩
      have HB10 : Hid (Below w.heap.size w w10) := Lib.hid (HB9.out.trans (hb.mono HB9.out.size))
      have HZ10 : Hid (w9.heap.size ≤ w10.heap.size) := Lib.hid hb.size
      have HRf10 := Lib.hid (HRf0.out.below HB10.out (Nat.le_refl _))
      have HRg10 := Lib.hid (HRg0.out.below HB10.out (Nat.le_refl _))
      have HKa10 := Lib.hid ((hb.block _ (lt_of_block HKa9.out)).trans HKa9.out)
      have HKc10 := Lib.hid ((hb.block _ (lt_of_block HKc9.out)).trans HKc9.out)
      have HKz10 := Lib.hid ((hb.block _ (lt_of_block HKz9.out)).trans HKz9.out)
      have HKo10 := Lib.hid ((hb.block _ (lt_of_block HKo9.out)).trans HKo9.out)
      have HBs5_10 : Hid (Below w5.heap.size w5 w10) := Lib.hid (HBs5_9.out.trans (hb.mono HBs5_9.out.size))
      clear hb
      obtain ⟨pv, kv, pu, ku, rfl, rfl⟩ := ho.form
      have HOv10 := Lib.hid (ho)
      clear ho
      clear ca0 ca1 fa0 fa1 lta cc0 cc1 fc0 fc1 ltc cz0 cz1 fz0 fz1 ltz co0 co1 fo0 fo1 lto
      have lta := lt_of_block HKa10.out
      obtain ⟨ca0, ca1, fa0, fa1⟩ := cell2 HKa10.out
      have ltc := lt_of_block HKc10.out
      obtain ⟨cc0, cc1, fc0, fc1⟩ := cell2 HKc10.out
      have ltz := lt_of_block HKz10.out
      obtain ⟨cz0, cz1, fz0, fz1⟩ := cell2 HKz10.out
      have lto := lt_of_block HKo10.out
      obtain ⟨co0, co1, fo0, fo1⟩ := cell2 HKo10.out
      try go_simp
      refine hK.out _ _ (⟨ca0, ca1, cc0, cc1⟩) (fun hHeld => ?_)
      clear hK K
      try simp only [Act.put, List.setIfInBounds_toArray, List.set_cons_zero, List.set_cons_succ]
      refine take1 (i := 9) (v := ?v21) (some 17) rfl rfl (by kernel_rfl) (by kernel_rfl) (by kernel_rfl) (fun _ _ _ h => h) (Or.inl ⟨by rfl, ?y21⟩) (by assumption) ?r21
      case y21 => (intro w hSw; (try dsimp only at hSw); go_simp; (first | done | with_reducible rfl))
      try simp only [Act.put, List.setIfInBounds_toArray, List.set_cons_zero, List.set_cons_succ]
      refine take1 (i := 10) (v := ?v22) (some 27) rfl rfl (by kernel_rfl) (by kernel_rfl) (by kernel_rfl) (fun _ _ _ h => h) (Or.inl ⟨by rfl, ?y22⟩) (by assumption) ?r22
      case y22 => (intro w hSw; (try dsimp only at hSw); go_simp; (first | done | with_reducible rfl))
      try simp only [Act.put, List.setIfInBounds_toArray, List.set_cons_zero, List.set_cons_succ]
      refine take1 (i := 11) (v := ?v23) (some 28) rfl rfl (by kernel_rfl) (by kernel_rfl) (by kernel_rfl) (fun _ _ _ h => h) (Or.inl ⟨by rfl, ?y23⟩) (by assumption) ?r23
      case y23 => (intro w hSw; (try dsimp only at hSw); go_simp; (first | done | with_reducible rfl))
      try simp only [Act.put, List.setIfInBounds_toArray, List.set_cons_zero, List.set_cons_succ]
      refine wpAnyH_ready (rs := [13]) (by kernel_rfl) (by simp) ?_
      refine AllReadyH.cons rfl (fun K hK => ?_) AllReadyH.nil
      go_simp
      have hkb := box2_set HKo10.out (.slice pv qs.length kv) (.slice pu qt.length ku)
      have hm : Btw w6.heap.size (w6.heap.size + 1) w10 ((w10.setCell ⟨w6.heap.size, 0, none⟩ (.slice pv qs.length kv)).setCell ⟨w6.heap.size, 1, none⟩ (.slice pu qt.length ku)) := ((Btw.refl w6.heap.size (w6.heap.size + 1) w10).setCell (p := ⟨w6.heap.size, 0, none⟩) (Nat.le_refl _) (Nat.lt_succ_self _) _).setCell (p := ⟨w6.heap.size, 1, none⟩) (Nat.le_refl _) (Nat.lt_succ_self _) _
      generalize (w10.setCell ⟨w6.heap.size, 0, none⟩ (.slice pv qs.length kv)).setCell ⟨w6.heap.size, 1, none⟩ (.slice pu qt.length ku) = w11 at hkb hm ⊢
      have HZ11 : Hid (w10.heap.size ≤ w11.heap.size) := Lib.hid hm.size
      have HB11 : Hid (Below w.heap.size w w11) := Lib.hid (HB10.out.trans (hm.below.mono (by have := HZ1.out; have := HZ2.out; have := HZ3.out; have := HZ4.out; have := HZ5.out; have := HZ6.out; have := HZ7.out; have := HZ8.out; have := HZ9.out; have := HZ10.out; have := HB0.out.size; omega)))
      have HRf11 := Lib.hid (HRf0.out.below HB11.out (Nat.le_refl _))
      have HRg11 := Lib.hid (HRg0.out.below HB11.out (Nat.le_refl _))
      have HKa11 := Lib.hid ((hm.block _ (by have := lt_of_block HKa10.out; have := HZ1.out; have := HZ2.out; have := HZ3.out; have := HZ4.out; have := HZ5.out; have := HZ6.out; have := HZ7.out; have := HZ8.out; have := HZ9.out; have := HZ10.out; omega)).trans HKa10.out)
      have HKc11 := Lib.hid ((hm.block _ (by have := lt_of_block HKc10.out; have := HZ1.out; have := HZ2.out; have := HZ3.out; have := HZ4.out; have := HZ5.out; have := HZ6.out; have := HZ7.out; have := HZ8.out; have := HZ9.out; have := HZ10.out; omega)).trans HKc10.out)
      have HKz11 := Lib.hid ((hm.block _ (by have := lt_of_block HKz10.out; have := HZ1.out; have := HZ2.out; have := HZ3.out; have := HZ4.out; have := HZ5.out; have := HZ6.out; have := HZ7.out; have := HZ8.out; have := HZ9.out; have := HZ10.out; omega)).trans HKz10.out)
      have HOv11 := Lib.hid (HOv10.out.btw hm (by have := HZ1.out; have := HZ2.out; have := HZ3.out; have := HZ4.out; have := HZ5.out; have := HZ6.out; have := HZ7.out; have := HZ8.out; have := HZ9.out; have := HZ10.out; omega))
      have HBs5_11 : Hid (Below w5.heap.size w5 w11) := Lib.hid (HBs5_10.out.trans (hm.below.mono (by have := HZ1.out; have := HZ2.out; have := HZ3.out; have := HZ4.out; have := HZ5.out; have := HZ6.out; have := HZ7.out; have := HZ8.out; have := HZ9.out; have := HZ10.out; omega)))
      clear hm
      have HKo11 := Lib.hid (hkb)
      clear hkb
      clear ca0 ca1 fa0 fa1 lta cc0 cc1 fc0 fc1 ltc cz0 cz1 fz0 fz1 ltz co0 co1 fo0 fo1 lto
      have lta := lt_of_block HKa11.out
      obtain ⟨ca0, ca1, fa0, fa1⟩ := cell2 HKa11.out
      have ltc := lt_of_block HKc11.out
      obtain ⟨cc0, cc1, fc0, fc1⟩ := cell2 HKc11.out
      have ltz := lt_of_block HKz11.out
      obtain ⟨cz0, cz1, fz0, fz1⟩ := cell2 HKz11.out
      have lto := lt_of_block HKo11.out
      obtain ⟨co0, co1, fo0, fo1⟩ := cell2 HKo11.out
      refine hK.out _ _ (⟨ca0, ca1, cc0, cc1⟩) (fun hHeld => ?_)
      clear hK K
      try simp only [Act.put]
      refine take1 (i := 14) (v := ?v24) (some 7) rfl rfl (by kernel_rfl) (by kernel_rfl) (by kernel_rfl) (fun _ _ _ h => h) (Or.inl ⟨by rfl, ?y24⟩) (by assumption) ?r24
      case y24 => (intro w hSw; (try dsimp only at hSw); go_simp; (first | done | with_reducible rfl))
      try simp only [Act.put, List.setIfInBounds_toArray, List.set_cons_zero, List.set_cons_succ]
      refine wpAnyH_done (by kernel_rfl) ?_ _
      go_wp2_with fail
      go_meet
      exact ⟨w6.heap.size, pv, kv, pu, ku, _, _, rfl, rfl, HKo11.out, HOv11.out, by have := HZ1.out; have := HZ2.out; have := HZ3.out; have := HZ4.out; have := HZ5.out; have := HZ6.out; have := HZ7.out; have := HZ8.out; have := HZ9.out; have := HZ10.out; have := HZ11.out;  omega, by have := HZ1.out; have := HZ2.out; have := HZ3.out; have := HZ4.out; have := HZ5.out; have := HZ6.out; have := HZ7.out; have := HZ8.out; have := HZ9.out; have := HZ10.out; have := HZ11.out;  omega, by have := HZ1.out; have := HZ2.out; have := HZ3.out; have := HZ4.out; have := HZ5.out; have := HZ6.out; have := HZ7.out; have := HZ8.out; have := HZ9.out; have := HZ10.out; have := HZ11.out;  omega, by have := HZ1.out; have := HZ2.out; have := HZ3.out; have := HZ4.out; have := HZ5.out; have := HZ6.out; have := HZ7.out; have := HZ8.out; have := HZ9.out; have := HZ10.out; have := HZ11.out;  omega, by have := HZ1.out; have := HZ2.out; have := HZ3.out; have := HZ4.out; have := HZ5.out; have := HZ6.out; have := HZ7.out; have := HZ8.out; have := HZ9.out; have := HZ10.out; have := HZ11.out;  omega, by have := HZ1.out; have := HZ2.out; have := HZ3.out; have := HZ4.out; have := HZ5.out; have := HZ6.out; have := HZ7.out; have := HZ8.out; have := HZ9.out; have := HZ10.out; have := HZ11.out;  omega, HBs5_11.out⟩
  case rest =>
    obtain ⟨bo, pv, kv, pu, ku, lo, hi, rfl, rfl, hkq, hoq, hx1, hx2, hx6, hx3, hx4, hx5, hb⟩ := hcut
    rename World => w6
    have HB6 : Hid (Below w.heap.size w w6) := Lib.hid (HB5.out.trans (hb.mono HB5.out.size))
    have HZ6 : Hid (w5.heap.size ≤ w6.heap.size) := Lib.hid hb.size
    have HRf6 := Lib.hid (HRf0.out.below HB6.out (Nat.le_refl _))
    have HRg6 := Lib.hid (HRg0.out.below HB6.out (Nat.le_refl _))
    have HKa6 := Lib.hid ((hb.block _ (lt_of_block HKa5.out)).trans HKa5.out)
    have HKc6 := Lib.hid ((hb.block _ (lt_of_block HKc5.out)).trans HKc5.out)
    have HKz6 := Lib.hid ((hb.block _ (lt_of_block HKz5.out)).trans HKz5.out)
    clear hb
    have hlto := lt_of_block hkq
    have HKo6 := Lib.hid (hkq)
    have HOv6 := Lib.hid (hoq)
    clear hkq hoq
    have hzl : w.heap.size + 2 < lo := by omega
    have hwl : w.heap.size ≤ lo := by omega
    clear ca0 ca1 fa0 fa1 lta cc0 cc1 fc0 fc1 ltc cz0 cz1 fz0 fz1 ltz
    have lta := lt_of_block HKa6.out
    obtain ⟨ca0, ca1, fa0, fa1⟩ := cell2 HKa6.out
    have ltc := lt_of_block HKc6.out
    obtain ⟨cc0, cc1, fc0, fc1⟩ := cell2 HKc6.out
    have ltz := lt_of_block HKz6.out
    obtain ⟨cz0, cz1, fz0, fz1⟩ := cell2 HKz6.out
    have lto := lt_of_block HKo6.out
    obtain ⟨co0, co1, fo0, fo1⟩ := cell2 HKo6.out
    go_wp2_with fail
    exact bodyPost_ret (v := .tuple #[.agg #[.slice pv qs.length kv, .slice pu qt.length ku], .bool r]) (by simp [results, Try.results14, go_sem, cz0, cz1]) rfl ⟨⟨_, _, rfl, ((HOv6.out.set (a := ⟨w.heap.size + 2, 0, none⟩) hzl _).set (a := ⟨w.heap.size + 2, 1, none⟩) hzl _).mono (by omega) (by simp [World.setCell]; omega)⟩, by first | exact HB6.out | exact (HB6.out.setCell (p := ⟨w.heap.size + 2, 0, none⟩) (by show w.heap.size ≤ w.heap.size + 2; omega) _).setCell (p := ⟨w.heap.size + 2, 1, none⟩) (by show w.heap.size ≤ w.heap.size + 2; omega) _⟩
theorem specTake_any (v1 v2 u1 u2 : Value) (ls ss ms ts : List Int) (w : World) (h : BrdR w v1 v2 ls ss) (h' : BrdR w u1 u2 ms ts) (qs qt : List Int) (r : Bool) (hk : TkF ls ss ms ts qs qt r) :
    Calls Try.prog 14 #[.agg #[v1, v2], .agg #[u1, u2]] w fun e w' => (∃ s1 t1, e = .returned (.tuple #[.agg #[s1, t1], .bool r]) ∧ OwB w.heap.size w'.heap.size w' s1 t1 qs qt) ∧ Below w.heap.size w w' := by
  rcases hk with ⟨hg, h2⟩ | ⟨hg, h2⟩
  · exact specTake_yes v1 v2 u1 u2 ls ss ms ts w h h' hg.1 hg.2 qs qt r h2
  · exact specTake_no v1 v2 u1 u2 ls ss ms ts w h h' hg qs qt r h2
end Go.Proofs.Ytbdddpchlmddbaa
