/- The program's TakeAway. -/
import Derived.Test.YtbdddpchlmddbaaJset
import Derived.Test.YtbdddpchlmddbaaJval
import Derived.Test.YtbdddpchlmddbaaBtake
namespace Go.Proofs.Ytbdddpchlmddbaa
set_option linter.unusedVariables false
open Go.RowKit

set_option maxRecDepth 100000 in
set_option maxHeartbeats 3200000 in
theorem implTake_yes (v1 v2 u1 u2 : Value) (ls ss ms ts : List Int) (w : World) (h : BrdR w v1 v2 ls ss) (h' : BrdR w u1 u2 ms ts) (hg1 : okB ls ss) (hg2 : okB ms ts) (qs qt : List Int) (r : Bool) (hk : SetF ls.length (valB ls ss - valB ms ts) qs qt r) :
    Calls Try.prog 13 #[.agg #[v1, v2], .agg #[u1, u2]] w fun e w' => (∃ s1 t1, e = .returned (.tuple #[.agg #[s1, t1], .bool r]) ∧ OwB w.heap.size w'.heap.size w' s1 t1 qs qt) ∧ Below w.heap.size w w' := by
  obtain ⟨a1, c1, a2, c2, rfl, rfl⟩ := h.form
  obtain ⟨b1, d1, b2, d2, rfl, rfl⟩ := h'.form
  have hva := valB_max hg1 0 (Nat.zero_le _)
  have hvb := valB_max hg2 0 (Nat.zero_le _)
  rw [List.drop_zero, List.drop_zero] at hva hvb
  have HVA := Lib.hid (fun w v1 v2 (h : BrdR w v1 v2 ls ss) => implValue_yes v1 v2 ls ss w h hg1)
  have HVB := Lib.hid (fun w v1 v2 (h : BrdR w v1 v2 ms ts) => implValue_yes v1 v2 ms ts w h hg2)
  generalize valB ls ss = va at hk hva HVA
  generalize valB ms ts = vb at hk hvb HVB
  have HC := Lib.hid (fun w => implSetBoard_any ls.length (va - vb) w (by omega) qs qt r (.inl ⟨by have := hg1.1; omega, by rw [Int.toNat_natCast]; exact hk⟩))
  have wn : IntKind.i64.wrap (va - vb) = va - vb := by rw [IntKind.wrap_i64]; omega
  have HB0 : Hid (Below w.heap.size w w) := Lib.hid (Below.refl _ _)
  have HRf0 := Lib.hid (h)
  have HRg0 := Lib.hid (h')
  clear h h' hg1 hg2 hk hva hvb
  go_enter Try.func13, Try.ntmps13
  go_wp2_with fail
  have hb : Below w.heap.size w (w.alloc (.cells #[.slice a1 ls.length c1, .slice a2 ss.length c2] 26)) := (Below.refl _ _).alloc (Nat.le_refl _) _
  have hk : (w.alloc (.cells #[.slice a1 ls.length c1, .slice a2 ss.length c2] 26)).heap[w.heap.size]? = some (.cells #[.slice a1 ls.length c1, .slice a2 ss.length c2] 26 (0, 0)) := alloc_at rfl
  have hz : (w.alloc (.cells #[.slice a1 ls.length c1, .slice a2 ss.length c2] 26)).heap.size = w.heap.size + 1 := by simp
  generalize w.alloc (.cells #[.slice a1 ls.length c1, .slice a2 ss.length c2] 26) = w1 at hb hk hz ⊢
  have HB1 : Hid (Below w.heap.size w w1) := Lib.hid (HB0.out.trans (hb.mono HB0.out.size))
  have HZ1 : Hid (w.heap.size ≤ w1.heap.size) := Lib.hid hb.size
  have HRf1 := Lib.hid (HRf0.out.below HB1.out (Nat.le_refl _))
  have HRg1 := Lib.hid (HRg0.out.below HB1.out (Nat.le_refl _))
  have HKa1 := Lib.hid hk
  replace HZ1 : Hid (w.heap.size < w1.heap.size) := Lib.hid (by omega)
  have HE1 := Lib.hid hz
  clear hb hk hz
  have hb : Below w1.heap.size w1 (w1.alloc (.cells #[.slice b1 ms.length d1, .slice b2 ts.length d2] 26)) := (Below.refl _ _).alloc (Nat.le_refl _) _
  have hk : (w1.alloc (.cells #[.slice b1 ms.length d1, .slice b2 ts.length d2] 26)).heap[w.heap.size + 1]? = some (.cells #[.slice b1 ms.length d1, .slice b2 ts.length d2] 26 (0, 0)) := alloc_at (by have := HE1.out; omega)
  have hz : (w1.alloc (.cells #[.slice b1 ms.length d1, .slice b2 ts.length d2] 26)).heap.size = w1.heap.size + 1 := by simp
  generalize w1.alloc (.cells #[.slice b1 ms.length d1, .slice b2 ts.length d2] 26) = w2 at hb hk hz ⊢
  have HB2 : Hid (Below w.heap.size w w2) := Lib.hid (HB1.out.trans (hb.mono HB1.out.size))
  have HZ2 : Hid (w1.heap.size ≤ w2.heap.size) := Lib.hid hb.size
  have HRf2 := Lib.hid (HRf0.out.below HB2.out (Nat.le_refl _))
  have HRg2 := Lib.hid (HRg0.out.below HB2.out (Nat.le_refl _))
  have HKa2 := Lib.hid ((hb.block _ (lt_of_block HKa1.out)).trans HKa1.out)
  have HKc2 := Lib.hid hk
  replace HZ2 : Hid (w1.heap.size < w2.heap.size) := Lib.hid (by omega)
  have HE2 := Lib.hid hz
  clear hb hk hz
  have hb : Below w2.heap.size w2 (w2.alloc (.cells #[.slice none 0 0, .slice none 0 0] 26)) := (Below.refl _ _).alloc (Nat.le_refl _) _
  have hk : (w2.alloc (.cells #[.slice none 0 0, .slice none 0 0] 26)).heap[w.heap.size + 2]? = some (.cells #[.slice none 0 0, .slice none 0 0] 26 (0, 0)) := alloc_at (by have := HE1.out; have := HE2.out; omega)
  have hz : (w2.alloc (.cells #[.slice none 0 0, .slice none 0 0] 26)).heap.size = w2.heap.size + 1 := by simp
  generalize w2.alloc (.cells #[.slice none 0 0, .slice none 0 0] 26) = w3 at hb hk hz ⊢
  have HB3 : Hid (Below w.heap.size w w3) := Lib.hid (HB2.out.trans (hb.mono HB2.out.size))
  have HZ3 : Hid (w2.heap.size ≤ w3.heap.size) := Lib.hid hb.size
  have HRf3 := Lib.hid (HRf0.out.below HB3.out (Nat.le_refl _))
  have HRg3 := Lib.hid (HRg0.out.below HB3.out (Nat.le_refl _))
  have HKa3 := Lib.hid ((hb.block _ (lt_of_block HKa2.out)).trans HKa2.out)
  have HKc3 := Lib.hid ((hb.block _ (lt_of_block HKc2.out)).trans HKc2.out)
  have HKz3 := Lib.hid hk
  replace HZ3 : Hid (w2.heap.size < w3.heap.size) := Lib.hid (by omega)
  have HE3 := Lib.hid hz
  clear hb hk hz
  have lta := lt_of_block HKa3.out
  obtain ⟨ca0, ca1, fa0, fa1⟩ := cell2 HKa3.out
  have ltc := lt_of_block HKc3.out
  obtain ⟨cc0, cc1, fc0, fc1⟩ := cell2 HKc3.out
  have ltz := lt_of_block HKz3.out
  obtain ⟨cz0, cz1, fz0, fz1⟩ := cell2 HKz3.out
  have hl3 : w.heap.size + 2 < w3.heap.size := ltz
  refine (HVA.out _ _ _ HRf3.out).mono ?_
  rintro e w4 ⟨rfl, hb⟩
  have HB4 : Hid (Below w.heap.size w w4) := Lib.hid (HB3.out.trans (hb.mono HB3.out.size))
  have HZ4 : Hid (w3.heap.size ≤ w4.heap.size) := Lib.hid hb.size
  have HRf4 := Lib.hid (HRf0.out.below HB4.out (Nat.le_refl _))
  have HRg4 := Lib.hid (HRg0.out.below HB4.out (Nat.le_refl _))
  have HKa4 := Lib.hid ((hb.block _ (lt_of_block HKa3.out)).trans HKa3.out)
  have HKc4 := Lib.hid ((hb.block _ (lt_of_block HKc3.out)).trans HKc3.out)
  have HKz4 := Lib.hid ((hb.block _ (lt_of_block HKz3.out)).trans HKz3.out)
  clear hb
  clear ca0 ca1 fa0 fa1 lta cc0 cc1 fc0 fc1 ltc cz0 cz1 fz0 fz1 ltz
  have lta := lt_of_block HKa4.out
  obtain ⟨ca0, ca1, fa0, fa1⟩ := cell2 HKa4.out
  have ltc := lt_of_block HKc4.out
  obtain ⟨cc0, cc1, fc0, fc1⟩ := cell2 HKc4.out
  have ltz := lt_of_block HKz4.out
  obtain ⟨cz0, cz1, fz0, fz1⟩ := cell2 HKz4.out
  go_wp2_with fail
  refine (HVB.out _ _ _ HRg4.out).mono ?_
  rintro e w5 ⟨rfl, hb⟩
  have HB5 : Hid (Below w.heap.size w w5) := Lib.hid (HB4.out.trans (hb.mono HB4.out.size))
  have HZ5 : Hid (w4.heap.size ≤ w5.heap.size) := Lib.hid hb.size
  have HRf5 := Lib.hid (HRf0.out.below HB5.out (Nat.le_refl _))
  have HRg5 := Lib.hid (HRg0.out.below HB5.out (Nat.le_refl _))
  have HKa5 := Lib.hid ((hb.block _ (lt_of_block HKa4.out)).trans HKa4.out)
  have HKc5 := Lib.hid ((hb.block _ (lt_of_block HKc4.out)).trans HKc4.out)
  have HKz5 := Lib.hid ((hb.block _ (lt_of_block HKz4.out)).trans HKz4.out)
  clear hb
  clear ca0 ca1 fa0 fa1 lta cc0 cc1 fc0 fc1 ltc cz0 cz1 fz0 fz1 ltz
  have lta := lt_of_block HKa5.out
  obtain ⟨ca0, ca1, fa0, fa1⟩ := cell2 HKa5.out
  have ltc := lt_of_block HKc5.out
  obtain ⟨cc0, cc1, fc0, fc1⟩ := cell2 HKc5.out
  have ltz := lt_of_block HKz5.out
  obtain ⟨cz0, cz1, fz0, fz1⟩ := cell2 HKz5.out
  go_wp2_with fail
  have hl5 : w.heap.size + 2 < w5.heap.size := by have := HZ5.out; have := HZ4.out; omega
  refine (HC.out _).mono ?_
  rintro e w6 ⟨⟨s1, s2, rfl, ho⟩, hb⟩
  have HB6 : Hid (Below w.heap.size w w6) := Lib.hid (HB5.out.trans (hb.mono HB5.out.size))
  have HZ6 : Hid (w5.heap.size ≤ w6.heap.size) := Lib.hid hb.size
  have HRf6 := Lib.hid (HRf0.out.below HB6.out (Nat.le_refl _))
  have HRg6 := Lib.hid (HRg0.out.below HB6.out (Nat.le_refl _))
  have HKa6 := Lib.hid ((hb.block _ (lt_of_block HKa5.out)).trans HKa5.out)
  have HKc6 := Lib.hid ((hb.block _ (lt_of_block HKc5.out)).trans HKc5.out)
  have HKz6 := Lib.hid ((hb.block _ (lt_of_block HKz5.out)).trans HKz5.out)
  clear hb
  obtain ⟨p1, k3, p2, k4, rfl, rfl⟩ := ho.form
  have HOv6 := Lib.hid (ho)
  clear ho
  clear ca0 ca1 fa0 fa1 lta cc0 cc1 fc0 fc1 ltc cz0 cz1 fz0 fz1 ltz
  have lta := lt_of_block HKa6.out
  obtain ⟨ca0, ca1, fa0, fa1⟩ := cell2 HKa6.out
  have ltc := lt_of_block HKc6.out
  obtain ⟨cc0, cc1, fc0, fc1⟩ := cell2 HKc6.out
  have ltz := lt_of_block HKz6.out
  obtain ⟨cz0, cz1, fz0, fz1⟩ := cell2 HKz6.out
  go_wp2_with fail
  exact bodyPost_ret (v := .tuple #[.agg #[.slice p1 qs.length k3, .slice p2 qt.length k4], .bool r]) (by simp [results, Try.results13, go_sem, cz0, cz1]) rfl ⟨⟨_, _, rfl, ((HOv6.out.set (a := ⟨w.heap.size + 2, 0, none⟩) hl5 _).set (a := ⟨w.heap.size + 2, 1, none⟩) hl5 _).mono (by omega) (by simp [World.setCell])⟩, by first | exact HB6.out | exact (HB6.out.setCell (p := ⟨w.heap.size + 2, 0, none⟩) (by show w.heap.size ≤ w.heap.size + 2; omega) _).setCell (p := ⟨w.heap.size + 2, 1, none⟩) (by show w.heap.size ≤ w.heap.size + 2; omega) _⟩
set_option maxRecDepth 100000 in
set_option maxHeartbeats 3200000 in
theorem implTake_no (v1 v2 u1 u2 : Value) (ls ss ms ts : List Int) (w : World) (h : BrdR w v1 v2 ls ss) (h' : BrdR w u1 u2 ms ts) (hg : ¬ (okB ls ss ∧ okB ms ts)) (qs qt : List Int) (r : Bool) (hk : qs = [] ∧ qt = [] ∧ r = false) :
    Calls Try.prog 13 #[.agg #[v1, v2], .agg #[u1, u2]] w fun e w' => (∃ s1 t1, e = .returned (.tuple #[.agg #[s1, t1], .bool r]) ∧ OwB w.heap.size w'.heap.size w' s1 t1 qs qt) ∧ Below w.heap.size w w' := by
  obtain ⟨a1, c1, a2, c2, rfl, rfl⟩ := h.form
  obtain ⟨b1, d1, b2, d2, rfl, rfl⟩ := h'.form
  obtain ⟨rfl, rfl, rfl⟩ := hk
  have HB0 : Hid (Below w.heap.size w w) := Lib.hid (Below.refl _ _)
  have HRf0 := Lib.hid (h)
  have HRg0 := Lib.hid (h')
  clear h h'
  by_cases h1 : okB ls ss
  · have H1 := Lib.hid h1
    have H2 : Hid (¬ okB ms ts) := Lib.hid (fun h2 => hg ⟨h1, h2⟩)
    clear h1 hg
    go_enter Try.func13, Try.ntmps13
    go_wp2_with fail
    have hb : Below w.heap.size w (w.alloc (.cells #[.slice a1 ls.length c1, .slice a2 ss.length c2] 26)) := (Below.refl _ _).alloc (Nat.le_refl _) _
    have hk : (w.alloc (.cells #[.slice a1 ls.length c1, .slice a2 ss.length c2] 26)).heap[w.heap.size]? = some (.cells #[.slice a1 ls.length c1, .slice a2 ss.length c2] 26 (0, 0)) := alloc_at rfl
    have hz : (w.alloc (.cells #[.slice a1 ls.length c1, .slice a2 ss.length c2] 26)).heap.size = w.heap.size + 1 := by simp
    generalize w.alloc (.cells #[.slice a1 ls.length c1, .slice a2 ss.length c2] 26) = w1 at hb hk hz ⊢
    have HB1 : Hid (Below w.heap.size w w1) := Lib.hid (HB0.out.trans (hb.mono HB0.out.size))
    have HZ1 : Hid (w.heap.size ≤ w1.heap.size) := Lib.hid hb.size
    have HRf1 := Lib.hid (HRf0.out.below HB1.out (Nat.le_refl _))
    have HRg1 := Lib.hid (HRg0.out.below HB1.out (Nat.le_refl _))
    have HKa1 := Lib.hid hk
    replace HZ1 : Hid (w.heap.size < w1.heap.size) := Lib.hid (by omega)
    have HE1 := Lib.hid hz
    clear hb hk hz
    have hb : Below w1.heap.size w1 (w1.alloc (.cells #[.slice b1 ms.length d1, .slice b2 ts.length d2] 26)) := (Below.refl _ _).alloc (Nat.le_refl _) _
    have hk : (w1.alloc (.cells #[.slice b1 ms.length d1, .slice b2 ts.length d2] 26)).heap[w.heap.size + 1]? = some (.cells #[.slice b1 ms.length d1, .slice b2 ts.length d2] 26 (0, 0)) := alloc_at (by have := HE1.out; omega)
    have hz : (w1.alloc (.cells #[.slice b1 ms.length d1, .slice b2 ts.length d2] 26)).heap.size = w1.heap.size + 1 := by simp
    generalize w1.alloc (.cells #[.slice b1 ms.length d1, .slice b2 ts.length d2] 26) = w2 at hb hk hz ⊢
    have HB2 : Hid (Below w.heap.size w w2) := Lib.hid (HB1.out.trans (hb.mono HB1.out.size))
    have HZ2 : Hid (w1.heap.size ≤ w2.heap.size) := Lib.hid hb.size
    have HRf2 := Lib.hid (HRf0.out.below HB2.out (Nat.le_refl _))
    have HRg2 := Lib.hid (HRg0.out.below HB2.out (Nat.le_refl _))
    have HKa2 := Lib.hid ((hb.block _ (lt_of_block HKa1.out)).trans HKa1.out)
    have HKc2 := Lib.hid hk
    replace HZ2 : Hid (w1.heap.size < w2.heap.size) := Lib.hid (by omega)
    have HE2 := Lib.hid hz
    clear hb hk hz
    have hb : Below w2.heap.size w2 (w2.alloc (.cells #[.slice none 0 0, .slice none 0 0] 26)) := (Below.refl _ _).alloc (Nat.le_refl _) _
    have hk : (w2.alloc (.cells #[.slice none 0 0, .slice none 0 0] 26)).heap[w.heap.size + 2]? = some (.cells #[.slice none 0 0, .slice none 0 0] 26 (0, 0)) := alloc_at (by have := HE1.out; have := HE2.out; omega)
    have hz : (w2.alloc (.cells #[.slice none 0 0, .slice none 0 0] 26)).heap.size = w2.heap.size + 1 := by simp
    generalize w2.alloc (.cells #[.slice none 0 0, .slice none 0 0] 26) = w3 at hb hk hz ⊢
    have HB3 : Hid (Below w.heap.size w w3) := Lib.hid (HB2.out.trans (hb.mono HB2.out.size))
    have HZ3 : Hid (w2.heap.size ≤ w3.heap.size) := Lib.hid hb.size
    have HRf3 := Lib.hid (HRf0.out.below HB3.out (Nat.le_refl _))
    have HRg3 := Lib.hid (HRg0.out.below HB3.out (Nat.le_refl _))
    have HKa3 := Lib.hid ((hb.block _ (lt_of_block HKa2.out)).trans HKa2.out)
    have HKc3 := Lib.hid ((hb.block _ (lt_of_block HKc2.out)).trans HKc2.out)
    have HKz3 := Lib.hid hk
    replace HZ3 : Hid (w2.heap.size < w3.heap.size) := Lib.hid (by omega)
    have HE3 := Lib.hid hz
    clear hb hk hz
    have lta := lt_of_block HKa3.out
    obtain ⟨ca0, ca1, fa0, fa1⟩ := cell2 HKa3.out
    have ltc := lt_of_block HKc3.out
    obtain ⟨cc0, cc1, fc0, fc1⟩ := cell2 HKc3.out
    have ltz := lt_of_block HKz3.out
    obtain ⟨cz0, cz1, fz0, fz1⟩ := cell2 HKz3.out
    refine (implValue_yes _ _ ls ss _ HRf3.out H1.out).mono ?_
    rintro e w4 ⟨rfl, hb⟩
    have HB4 : Hid (Below w.heap.size w w4) := Lib.hid (HB3.out.trans (hb.mono HB3.out.size))
    have HZ4 : Hid (w3.heap.size ≤ w4.heap.size) := Lib.hid hb.size
    have HRf4 := Lib.hid (HRf0.out.below HB4.out (Nat.le_refl _))
    have HRg4 := Lib.hid (HRg0.out.below HB4.out (Nat.le_refl _))
    have HKa4 := Lib.hid ((hb.block _ (lt_of_block HKa3.out)).trans HKa3.out)
    have HKc4 := Lib.hid ((hb.block _ (lt_of_block HKc3.out)).trans HKc3.out)
    have HKz4 := Lib.hid ((hb.block _ (lt_of_block HKz3.out)).trans HKz3.out)
    clear hb
    clear ca0 ca1 fa0 fa1 lta cc0 cc1 fc0 fc1 ltc cz0 cz1 fz0 fz1 ltz
    have lta := lt_of_block HKa4.out
    obtain ⟨ca0, ca1, fa0, fa1⟩ := cell2 HKa4.out
    have ltc := lt_of_block HKc4.out
    obtain ⟨cc0, cc1, fc0, fc1⟩ := cell2 HKc4.out
    have ltz := lt_of_block HKz4.out
    obtain ⟨cz0, cz1, fz0, fz1⟩ := cell2 HKz4.out
    go_wp2_with fail
    refine (implValue_no _ _ ms ts _ HRg4.out H2.out).mono ?_
    rintro e w5 ⟨rfl, hb⟩
    have HB5 : Hid (Below w.heap.size w w5) := Lib.hid (HB4.out.trans (hb.mono HB4.out.size))
    have HZ5 : Hid (w4.heap.size ≤ w5.heap.size) := Lib.hid hb.size
    have HRf5 := Lib.hid (HRf0.out.below HB5.out (Nat.le_refl _))
    have HRg5 := Lib.hid (HRg0.out.below HB5.out (Nat.le_refl _))
    have HKa5 := Lib.hid ((hb.block _ (lt_of_block HKa4.out)).trans HKa4.out)
    have HKc5 := Lib.hid ((hb.block _ (lt_of_block HKc4.out)).trans HKc4.out)
    have HKz5 := Lib.hid ((hb.block _ (lt_of_block HKz4.out)).trans HKz4.out)
    clear hb
    clear ca0 ca1 fa0 fa1 lta cc0 cc1 fc0 fc1 ltc cz0 cz1 fz0 fz1 ltz
    have lta := lt_of_block HKa5.out
    obtain ⟨ca0, ca1, fa0, fa1⟩ := cell2 HKa5.out
    have ltc := lt_of_block HKc5.out
    obtain ⟨cc0, cc1, fc0, fc1⟩ := cell2 HKc5.out
    have ltz := lt_of_block HKz5.out
    obtain ⟨cz0, cz1, fz0, fz1⟩ := cell2 HKz5.out
    go_wp2_with fail
    exact bodyPost_ret (v := .tuple #[.agg #[.slice none 0 0, .slice none 0 0], .bool false]) (by simp [results, Try.results13, go_sem, cz0, cz1]) rfl ⟨⟨_, _, rfl, OwB.nil' _ _ _⟩, by first | exact HB5.out | exact (HB5.out.setCell (p := ⟨w.heap.size + 2, 0, none⟩) (by show w.heap.size ≤ w.heap.size + 2; omega) _).setCell (p := ⟨w.heap.size + 2, 1, none⟩) (by show w.heap.size ≤ w.heap.size + 2; omega) _⟩
  · by_cases h2 : okB ms ts
    · have H1 := Lib.hid h1
      have H2 := Lib.hid h2
      clear h1 h2 hg
      go_enter Try.func13, Try.ntmps13
      go_wp2_with fail
      have hb : Below w.heap.size w (w.alloc (.cells #[.slice a1 ls.length c1, .slice a2 ss.length c2] 26)) := (Below.refl _ _).alloc (Nat.le_refl _) _
      have hk : (w.alloc (.cells #[.slice a1 ls.length c1, .slice a2 ss.length c2] 26)).heap[w.heap.size]? = some (.cells #[.slice a1 ls.length c1, .slice a2 ss.length c2] 26 (0, 0)) := alloc_at rfl
      have hz : (w.alloc (.cells #[.slice a1 ls.length c1, .slice a2 ss.length c2] 26)).heap.size = w.heap.size + 1 := by simp
      generalize w.alloc (.cells #[.slice a1 ls.length c1, .slice a2 ss.length c2] 26) = w1 at hb hk hz ⊢
      have HB1 : Hid (Below w.heap.size w w1) := Lib.hid (HB0.out.trans (hb.mono HB0.out.size))
      have HZ1 : Hid (w.heap.size ≤ w1.heap.size) := Lib.hid hb.size
      have HRf1 := Lib.hid (HRf0.out.below HB1.out (Nat.le_refl _))
      have HRg1 := Lib.hid (HRg0.out.below HB1.out (Nat.le_refl _))
      have HKa1 := Lib.hid hk
      replace HZ1 : Hid (w.heap.size < w1.heap.size) := Lib.hid (by omega)
      have HE1 := Lib.hid hz
      clear hb hk hz
      have hb : Below w1.heap.size w1 (w1.alloc (.cells #[.slice b1 ms.length d1, .slice b2 ts.length d2] 26)) := (Below.refl _ _).alloc (Nat.le_refl _) _
      have hk : (w1.alloc (.cells #[.slice b1 ms.length d1, .slice b2 ts.length d2] 26)).heap[w.heap.size + 1]? = some (.cells #[.slice b1 ms.length d1, .slice b2 ts.length d2] 26 (0, 0)) := alloc_at (by have := HE1.out; omega)
      have hz : (w1.alloc (.cells #[.slice b1 ms.length d1, .slice b2 ts.length d2] 26)).heap.size = w1.heap.size + 1 := by simp
      generalize w1.alloc (.cells #[.slice b1 ms.length d1, .slice b2 ts.length d2] 26) = w2 at hb hk hz ⊢
      have HB2 : Hid (Below w.heap.size w w2) := Lib.hid (HB1.out.trans (hb.mono HB1.out.size))
      have HZ2 : Hid (w1.heap.size ≤ w2.heap.size) := Lib.hid hb.size
      have HRf2 := Lib.hid (HRf0.out.below HB2.out (Nat.le_refl _))
      have HRg2 := Lib.hid (HRg0.out.below HB2.out (Nat.le_refl _))
      have HKa2 := Lib.hid ((hb.block _ (lt_of_block HKa1.out)).trans HKa1.out)
      have HKc2 := Lib.hid hk
      replace HZ2 : Hid (w1.heap.size < w2.heap.size) := Lib.hid (by omega)
      have HE2 := Lib.hid hz
      clear hb hk hz
      have hb : Below w2.heap.size w2 (w2.alloc (.cells #[.slice none 0 0, .slice none 0 0] 26)) := (Below.refl _ _).alloc (Nat.le_refl _) _
      have hk : (w2.alloc (.cells #[.slice none 0 0, .slice none 0 0] 26)).heap[w.heap.size + 2]? = some (.cells #[.slice none 0 0, .slice none 0 0] 26 (0, 0)) := alloc_at (by have := HE1.out; have := HE2.out; omega)
      have hz : (w2.alloc (.cells #[.slice none 0 0, .slice none 0 0] 26)).heap.size = w2.heap.size + 1 := by simp
      generalize w2.alloc (.cells #[.slice none 0 0, .slice none 0 0] 26) = w3 at hb hk hz ⊢
      have HB3 : Hid (Below w.heap.size w w3) := Lib.hid (HB2.out.trans (hb.mono HB2.out.size))
      have HZ3 : Hid (w2.heap.size ≤ w3.heap.size) := Lib.hid hb.size
      have HRf3 := Lib.hid (HRf0.out.below HB3.out (Nat.le_refl _))
      have HRg3 := Lib.hid (HRg0.out.below HB3.out (Nat.le_refl _))
      have HKa3 := Lib.hid ((hb.block _ (lt_of_block HKa2.out)).trans HKa2.out)
      have HKc3 := Lib.hid ((hb.block _ (lt_of_block HKc2.out)).trans HKc2.out)
      have HKz3 := Lib.hid hk
      replace HZ3 : Hid (w2.heap.size < w3.heap.size) := Lib.hid (by omega)
      have HE3 := Lib.hid hz
      clear hb hk hz
      have lta := lt_of_block HKa3.out
      obtain ⟨ca0, ca1, fa0, fa1⟩ := cell2 HKa3.out
      have ltc := lt_of_block HKc3.out
      obtain ⟨cc0, cc1, fc0, fc1⟩ := cell2 HKc3.out
      have ltz := lt_of_block HKz3.out
      obtain ⟨cz0, cz1, fz0, fz1⟩ := cell2 HKz3.out
      refine (implValue_no _ _ ls ss _ HRf3.out H1.out).mono ?_
      rintro e w4 ⟨rfl, hb⟩
      have HB4 : Hid (Below w.heap.size w w4) := Lib.hid (HB3.out.trans (hb.mono HB3.out.size))
      have HZ4 : Hid (w3.heap.size ≤ w4.heap.size) := Lib.hid hb.size
      have HRf4 := Lib.hid (HRf0.out.below HB4.out (Nat.le_refl _))
      have HRg4 := Lib.hid (HRg0.out.below HB4.out (Nat.le_refl _))
      have HKa4 := Lib.hid ((hb.block _ (lt_of_block HKa3.out)).trans HKa3.out)
      have HKc4 := Lib.hid ((hb.block _ (lt_of_block HKc3.out)).trans HKc3.out)
      have HKz4 := Lib.hid ((hb.block _ (lt_of_block HKz3.out)).trans HKz3.out)
      clear hb
      clear ca0 ca1 fa0 fa1 lta cc0 cc1 fc0 fc1 ltc cz0 cz1 fz0 fz1 ltz
      have lta := lt_of_block HKa4.out
      obtain ⟨ca0, ca1, fa0, fa1⟩ := cell2 HKa4.out
      have ltc := lt_of_block HKc4.out
      obtain ⟨cc0, cc1, fc0, fc1⟩ := cell2 HKc4.out
      have ltz := lt_of_block HKz4.out
      obtain ⟨cz0, cz1, fz0, fz1⟩ := cell2 HKz4.out
      go_wp2_with fail
      refine (implValue_yes _ _ ms ts _ HRg4.out H2.out).mono ?_
      rintro e w5 ⟨rfl, hb⟩
      have HB5 : Hid (Below w.heap.size w w5) := Lib.hid (HB4.out.trans (hb.mono HB4.out.size))
      have HZ5 : Hid (w4.heap.size ≤ w5.heap.size) := Lib.hid hb.size
      have HRf5 := Lib.hid (HRf0.out.below HB5.out (Nat.le_refl _))
      have HRg5 := Lib.hid (HRg0.out.below HB5.out (Nat.le_refl _))
      have HKa5 := Lib.hid ((hb.block _ (lt_of_block HKa4.out)).trans HKa4.out)
      have HKc5 := Lib.hid ((hb.block _ (lt_of_block HKc4.out)).trans HKc4.out)
      have HKz5 := Lib.hid ((hb.block _ (lt_of_block HKz4.out)).trans HKz4.out)
      clear hb
      clear ca0 ca1 fa0 fa1 lta cc0 cc1 fc0 fc1 ltc cz0 cz1 fz0 fz1 ltz
      have lta := lt_of_block HKa5.out
      obtain ⟨ca0, ca1, fa0, fa1⟩ := cell2 HKa5.out
      have ltc := lt_of_block HKc5.out
      obtain ⟨cc0, cc1, fc0, fc1⟩ := cell2 HKc5.out
      have ltz := lt_of_block HKz5.out
      obtain ⟨cz0, cz1, fz0, fz1⟩ := cell2 HKz5.out
      go_wp2_with fail
      exact bodyPost_ret (v := .tuple #[.agg #[.slice none 0 0, .slice none 0 0], .bool false]) (by simp [results, Try.results13, go_sem, cz0, cz1]) rfl ⟨⟨_, _, rfl, OwB.nil' _ _ _⟩, by first | exact HB5.out | exact (HB5.out.setCell (p := ⟨w.heap.size + 2, 0, none⟩) (by show w.heap.size ≤ w.heap.size + 2; omega) _).setCell (p := ⟨w.heap.size + 2, 1, none⟩) (by show w.heap.size ≤ w.heap.size + 2; omega) _⟩
    · have H1 := Lib.hid h1
      have H2 := Lib.hid h2
      clear h1 h2 hg
      go_enter Try.func13, Try.ntmps13
      go_wp2_with fail
      have hb : Below w.heap.size w (w.alloc (.cells #[.slice a1 ls.length c1, .slice a2 ss.length c2] 26)) := (Below.refl _ _).alloc (Nat.le_refl _) _
      have hk : (w.alloc (.cells #[.slice a1 ls.length c1, .slice a2 ss.length c2] 26)).heap[w.heap.size]? = some (.cells #[.slice a1 ls.length c1, .slice a2 ss.length c2] 26 (0, 0)) := alloc_at rfl
      have hz : (w.alloc (.cells #[.slice a1 ls.length c1, .slice a2 ss.length c2] 26)).heap.size = w.heap.size + 1 := by simp
      generalize w.alloc (.cells #[.slice a1 ls.length c1, .slice a2 ss.length c2] 26) = w1 at hb hk hz ⊢
      have HB1 : Hid (Below w.heap.size w w1) := Lib.hid (HB0.out.trans (hb.mono HB0.out.size))
      have HZ1 : Hid (w.heap.size ≤ w1.heap.size) := Lib.hid hb.size
      have HRf1 := Lib.hid (HRf0.out.below HB1.out (Nat.le_refl _))
      have HRg1 := Lib.hid (HRg0.out.below HB1.out (Nat.le_refl _))
      have HKa1 := Lib.hid hk
      replace HZ1 : Hid (w.heap.size < w1.heap.size) := Lib.hid (by omega)
      have HE1 := Lib.hid hz
      clear hb hk hz
      have hb : Below w1.heap.size w1 (w1.alloc (.cells #[.slice b1 ms.length d1, .slice b2 ts.length d2] 26)) := (Below.refl _ _).alloc (Nat.le_refl _) _
      have hk : (w1.alloc (.cells #[.slice b1 ms.length d1, .slice b2 ts.length d2] 26)).heap[w.heap.size + 1]? = some (.cells #[.slice b1 ms.length d1, .slice b2 ts.length d2] 26 (0, 0)) := alloc_at (by have := HE1.out; omega)
      have hz : (w1.alloc (.cells #[.slice b1 ms.length d1, .slice b2 ts.length d2] 26)).heap.size = w1.heap.size + 1 := by simp
      generalize w1.alloc (.cells #[.slice b1 ms.length d1, .slice b2 ts.length d2] 26) = w2 at hb hk hz ⊢
      have HB2 : Hid (Below w.heap.size w w2) := Lib.hid (HB1.out.trans (hb.mono HB1.out.size))
      have HZ2 : Hid (w1.heap.size ≤ w2.heap.size) := Lib.hid hb.size
      have HRf2 := Lib.hid (HRf0.out.below HB2.out (Nat.le_refl _))
      have HRg2 := Lib.hid (HRg0.out.below HB2.out (Nat.le_refl _))
      have HKa2 := Lib.hid ((hb.block _ (lt_of_block HKa1.out)).trans HKa1.out)
      have HKc2 := Lib.hid hk
      replace HZ2 : Hid (w1.heap.size < w2.heap.size) := Lib.hid (by omega)
      have HE2 := Lib.hid hz
      clear hb hk hz
      have hb : Below w2.heap.size w2 (w2.alloc (.cells #[.slice none 0 0, .slice none 0 0] 26)) := (Below.refl _ _).alloc (Nat.le_refl _) _
      have hk : (w2.alloc (.cells #[.slice none 0 0, .slice none 0 0] 26)).heap[w.heap.size + 2]? = some (.cells #[.slice none 0 0, .slice none 0 0] 26 (0, 0)) := alloc_at (by have := HE1.out; have := HE2.out; omega)
      have hz : (w2.alloc (.cells #[.slice none 0 0, .slice none 0 0] 26)).heap.size = w2.heap.size + 1 := by simp
      generalize w2.alloc (.cells #[.slice none 0 0, .slice none 0 0] 26) = w3 at hb hk hz ⊢
      have HB3 : Hid (Below w.heap.size w w3) := Lib.hid (HB2.out.trans (hb.mono HB2.out.size))
      have HZ3 : Hid (w2.heap.size ≤ w3.heap.size) := Lib.hid hb.size
      have HRf3 := Lib.hid (HRf0.out.below HB3.out (Nat.le_refl _))
      have HRg3 := Lib.hid (HRg0.out.below HB3.out (Nat.le_refl _))
      have HKa3 := Lib.hid ((hb.block _ (lt_of_block HKa2.out)).trans HKa2.out)
      have HKc3 := Lib.hid ((hb.block _ (lt_of_block HKc2.out)).trans HKc2.out)
      have HKz3 := Lib.hid hk
      replace HZ3 : Hid (w2.heap.size < w3.heap.size) := Lib.hid (by omega)
      have HE3 := Lib.hid hz
      clear hb hk hz
      have lta := lt_of_block HKa3.out
      obtain ⟨ca0, ca1, fa0, fa1⟩ := cell2 HKa3.out
      have ltc := lt_of_block HKc3.out
      obtain ⟨cc0, cc1, fc0, fc1⟩ := cell2 HKc3.out
      have ltz := lt_of_block HKz3.out
      obtain ⟨cz0, cz1, fz0, fz1⟩ := cell2 HKz3.out
      refine (implValue_no _ _ ls ss _ HRf3.out H1.out).mono ?_
      rintro e w4 ⟨rfl, hb⟩
      have HB4 : Hid (Below w.heap.size w w4) := Lib.hid (HB3.out.trans (hb.mono HB3.out.size))
      have HZ4 : Hid (w3.heap.size ≤ w4.heap.size) := Lib.hid hb.size
      have HRf4 := Lib.hid (HRf0.out.below HB4.out (Nat.le_refl _))
      have HRg4 := Lib.hid (HRg0.out.below HB4.out (Nat.le_refl _))
      have HKa4 := Lib.hid ((hb.block _ (lt_of_block HKa3.out)).trans HKa3.out)
      have HKc4 := Lib.hid ((hb.block _ (lt_of_block HKc3.out)).trans HKc3.out)
      have HKz4 := Lib.hid ((hb.block _ (lt_of_block HKz3.out)).trans HKz3.out)
      clear hb
      clear ca0 ca1 fa0 fa1 lta cc0 cc1 fc0 fc1 ltc cz0 cz1 fz0 fz1 ltz
      have lta := lt_of_block HKa4.out
      obtain ⟨ca0, ca1, fa0, fa1⟩ := cell2 HKa4.out
      have ltc := lt_of_block HKc4.out
      obtain ⟨cc0, cc1, fc0, fc1⟩ := cell2 HKc4.out
      have ltz := lt_of_block HKz4.out
      obtain ⟨cz0, cz1, fz0, fz1⟩ := cell2 HKz4.out
      go_wp2_with fail
      refine (implValue_no _ _ ms ts _ HRg4.out H2.out).mono ?_
      rintro e w5 ⟨rfl, hb⟩
      have HB5 : Hid (Below w.heap.size w w5) := Lib.hid (HB4.out.trans (hb.mono HB4.out.size))
      have HZ5 : Hid (w4.heap.size ≤ w5.heap.size) := Lib.hid hb.size
      have HRf5 := Lib.hid (HRf0.out.below HB5.out (Nat.le_refl _))
      have HRg5 := Lib.hid (HRg0.out.below HB5.out (Nat.le_refl _))
      have HKa5 := Lib.hid ((hb.block _ (lt_of_block HKa4.out)).trans HKa4.out)
      have HKc5 := Lib.hid ((hb.block _ (lt_of_block HKc4.out)).trans HKc4.out)
      have HKz5 := Lib.hid ((hb.block _ (lt_of_block HKz4.out)).trans HKz4.out)
      clear hb
      clear ca0 ca1 fa0 fa1 lta cc0 cc1 fc0 fc1 ltc cz0 cz1 fz0 fz1 ltz
      have lta := lt_of_block HKa5.out
      obtain ⟨ca0, ca1, fa0, fa1⟩ := cell2 HKa5.out
      have ltc := lt_of_block HKc5.out
      obtain ⟨cc0, cc1, fc0, fc1⟩ := cell2 HKc5.out
      have ltz := lt_of_block HKz5.out
      obtain ⟨cz0, cz1, fz0, fz1⟩ := cell2 HKz5.out
      go_wp2_with fail
      exact bodyPost_ret (v := .tuple #[.agg #[.slice none 0 0, .slice none 0 0], .bool false]) (by simp [results, Try.results13, go_sem, cz0, cz1]) rfl ⟨⟨_, _, rfl, OwB.nil' _ _ _⟩, by first | exact HB5.out | exact (HB5.out.setCell (p := ⟨w.heap.size + 2, 0, none⟩) (by show w.heap.size ≤ w.heap.size + 2; omega) _).setCell (p := ⟨w.heap.size + 2, 1, none⟩) (by show w.heap.size ≤ w.heap.size + 2; omega) _⟩
theorem implTakeAway_any (v1 v2 u1 u2 : Value) (ls ss ms ts : List Int) (w : World) (h : BrdR w v1 v2 ls ss) (h' : BrdR w u1 u2 ms ts) (qs qt : List Int) (r : Bool) (hk : TkF ls ss ms ts qs qt r) :
    Calls Try.prog 13 #[.agg #[v1, v2], .agg #[u1, u2]] w fun e w' => (∃ s1 t1, e = .returned (.tuple #[.agg #[s1, t1], .bool r]) ∧ OwB w.heap.size w'.heap.size w' s1 t1 qs qt) ∧ Below w.heap.size w w' := by
  rcases hk with ⟨hg, h2⟩ | ⟨hg, h2⟩
  · exact implTake_yes v1 v2 u1 u2 ls ss ms ts w h h' hg.1 hg.2 qs qt r h2
  · exact implTake_no v1 v2 u1 u2 ls ss ms ts w h h' hg qs qt r h2
end Go.Proofs.Ytbdddpchlmddbaa
