/- QuotientOn: the model's and the program's. -/
import Derived.Test.YthmbehknacjodaaNd1
import Derived.Test.YthmbehknacjodaaHom
namespace Go.Proofs.Ythmbehknacjodaa
set_option linter.unusedVariables false
open Go.RowKit

/-- That a number on a frame can be divided. -/
def canQ (up lo : Int) (rs : List (Int × Int)) (m : Int) : Prop := goodF up lo rs ∧ stdF rs ∧ (1 ≤ m ∧ m ≤ 9999)
theorem numF8 {up lo : Int} {rs : List (Int × Int)} (hg : goodF up lo rs) (hs : stdF rs) : numF rs ≤ 99999999 := by
  have h1 := (numF_stdb hs).2
  have h2 : (10 : Int) ^ rs.length ≤ 100000000 := (pow_bd rs.length hg.2.2.2.2).2
  omega
set_option maxRecDepth 100000 in
set_option maxHeartbeats 1600000 in
theorem speQuotientOn_std (up lo : Int) (sv : Value) (rs : List (Int × Int)) (m : Int) (w : World) (h : RodsR w sv rs) (hs : ¬ (goodF up lo rs ∧ stdF rs)) :
    Calls Try.prog 58 #[.agg #[.int .i64 up, .int .i64 lo, sv], .int .i64 m] w fun e w' => (∃ sq, e = .returned (.tuple #[.agg #[.int .i64 0, .int .i64 0, sq], .int .i64 0, .bool false]) ∧ RodsR w' sq ([] : List (Int × Int))) ∧ Below w.heap.size w w' := by
  obtain ⟨a, cp, rfl⟩ : ∃ a c, sv = .slice a rs.length c := by obtain ⟨a, c, e, _⟩ := h; exact ⟨a, c, e⟩
  have hm : rs.length ≤ 9223372036854775807 := by obtain ⟨_, _, _, ⟨m, _⟩, _⟩ := h; exact m
  have HSS := Lib.hid hs
  clear hs
  have HB0 : Hid (Below w.heap.size w w) := Lib.hid (Below.refl _ _)
  have HRf0 := Lib.hid (h)
  clear h
  go_enter Try.func58, Try.ntmps58
  go_wp2_with fail
  have hb : Below w.heap.size w (w.alloc (.cells #[.int .i64 up, .int .i64 lo, .slice a rs.length cp] 42)) := (Below.refl _ _).alloc (Nat.le_refl _) _
  have hk : (w.alloc (.cells #[.int .i64 up, .int .i64 lo, .slice a rs.length cp] 42)).heap[w.heap.size]? = some (.cells #[.int .i64 up, .int .i64 lo, .slice a rs.length cp] 42 (0, 0)) := alloc_at rfl
  have hz : (w.alloc (.cells #[.int .i64 up, .int .i64 lo, .slice a rs.length cp] 42)).heap.size = w.heap.size + 1 := by simp
  generalize w.alloc (.cells #[.int .i64 up, .int .i64 lo, .slice a rs.length cp] 42) = w1 at hb hk hz ⊢
  have HB1 : Hid (Below w.heap.size w w1) := Lib.hid (HB0.out.trans (hb.mono HB0.out.size))
  have HZ1 : Hid (w.heap.size ≤ w1.heap.size) := Lib.hid hb.size
  have HRf1 := Lib.hid (HRf0.out.below HB1.out (Nat.le_refl _))
  have HKf1 := Lib.hid hk
  replace HZ1 : Hid (w.heap.size < w1.heap.size) := Lib.hid (by omega)
  have HE1 := Lib.hid hz
  clear hb hk hz
  have hb : Below w1.heap.size w1 (w1.alloc (.cells #[.int .i64 0, .int .i64 0, .slice none 0 0] 42)) := (Below.refl _ _).alloc (Nat.le_refl _) _
  have hk : (w1.alloc (.cells #[.int .i64 0, .int .i64 0, .slice none 0 0] 42)).heap[w.heap.size + 1]? = some (.cells #[.int .i64 0, .int .i64 0, .slice none 0 0] 42 (0, 0)) := alloc_at (by have := HE1.out; omega)
  have hz : (w1.alloc (.cells #[.int .i64 0, .int .i64 0, .slice none 0 0] 42)).heap.size = w1.heap.size + 1 := by simp
  generalize w1.alloc (.cells #[.int .i64 0, .int .i64 0, .slice none 0 0] 42) = w2 at hb hk hz ⊢
  have HB2 : Hid (Below w.heap.size w w2) := Lib.hid (HB1.out.trans (hb.mono HB1.out.size))
  have HZ2 : Hid (w1.heap.size ≤ w2.heap.size) := Lib.hid hb.size
  have HRf2 := Lib.hid (HRf0.out.below HB2.out (Nat.le_refl _))
  have HKf2 := Lib.hid ((hb.block _ (lt_of_block HKf1.out)).trans HKf1.out)
  have HKz2 := Lib.hid hk
  replace HZ2 : Hid (w1.heap.size < w2.heap.size) := Lib.hid (by omega)
  have HE2 := Lib.hid hz
  clear hb hk hz
  have ltf := lt_of_block HKf2.out
  obtain ⟨cf0, cf1, cf2, ff0, ff1, ff2⟩ := cell3 HKf2.out
  have ltz := lt_of_block HKz2.out
  obtain ⟨cz0, cz1, cz2, fz0, fz1, fz2⟩ := cell3 HKz2.out
  go_wp2_with fail
  refine (l2Std_any up lo _ rs _ HRf2.out false ⟨fun h => (by cases h), fun h => absurd h HSS.out⟩).mono ?_
  rintro e w3 ⟨rfl, hb⟩
  have HB3 : Hid (Below w.heap.size w w3) := Lib.hid (HB2.out.trans (hb.mono HB2.out.size))
  have HZ3 : Hid (w2.heap.size ≤ w3.heap.size) := Lib.hid hb.size
  have HRf3 := Lib.hid (HRf0.out.below HB3.out (Nat.le_refl _))
  have HKf3 := Lib.hid ((hb.block _ (lt_of_block HKf2.out)).trans HKf2.out)
  have HKz3 := Lib.hid ((hb.block _ (lt_of_block HKz2.out)).trans HKz2.out)
  clear hb
  clear cf0 cf1 cf2 ff0 ff1 ff2 ltf cz0 cz1 cz2 fz0 fz1 fz2 ltz
  have ltf := lt_of_block HKf3.out
  obtain ⟨cf0, cf1, cf2, ff0, ff1, ff2⟩ := cell3 HKf3.out
  have ltz := lt_of_block HKz3.out
  obtain ⟨cz0, cz1, cz2, fz0, fz1, fz2⟩ := cell3 HKz3.out
  go_wp2_with fail
  have hkz := box3_set HKz3.out (.int .i64 0) (.int .i64 0) (.slice none 0 0)
  have hbz := bl_set3 HB3.out (Nat.le_succ w.heap.size) (.int .i64 0) (.int .i64 0) (.slice none 0 0)
  generalize (((w3.setCell ⟨w.heap.size + 1, 0, none⟩ (.int .i64 0)).setCell ⟨w.heap.size + 1, 1, none⟩ (.int .i64 0)).setCell ⟨w.heap.size + 1, 2, none⟩ (.slice none 0 0)) = W9 at hkz hbz ⊢
  obtain ⟨z0, z1, z2, _, _, _⟩ := cell3 hkz
  exact bodyPost_ret (v := .tuple #[.agg #[.int .i64 0, .int .i64 0, .slice none 0 0], .int .i64 0, .bool false]) (by simp [results, Try.results58, go_sem, z0, z1, z2]) rfl ⟨⟨_, rfl, rods_nil _⟩, hbz⟩
set_option maxRecDepth 100000 in
set_option maxHeartbeats 1600000 in
theorem speQuotientOn_div (up lo : Int) (sv : Value) (rs : List (Int × Int)) (m : Int) (w : World) (h : RodsR w sv rs) (hs : goodF up lo rs ∧ stdF rs) (hd : ¬ (1 ≤ m ∧ m ≤ 9999)) :
    Calls Try.prog 58 #[.agg #[.int .i64 up, .int .i64 lo, sv], .int .i64 m] w fun e w' => (∃ sq, e = .returned (.tuple #[.agg #[.int .i64 0, .int .i64 0, sq], .int .i64 0, .bool false]) ∧ RodsR w' sq ([] : List (Int × Int))) ∧ Below w.heap.size w w' := by
  obtain ⟨a, cp, rfl⟩ : ∃ a c, sv = .slice a rs.length c := by obtain ⟨a, c, e, _⟩ := h; exact ⟨a, c, e⟩
  have hm : rs.length ≤ 9223372036854775807 := by obtain ⟨_, _, _, ⟨m, _⟩, _⟩ := h; exact m
  have HSS := Lib.hid hs
  have hn := inB_no hd
  clear hs hd
  have HB0 : Hid (Below w.heap.size w w) := Lib.hid (Below.refl _ _)
  have HRf0 := Lib.hid (h)
  clear h
  go_enter Try.func58, Try.ntmps58
  go_wp2_with fail
  have hb : Below w.heap.size w (w.alloc (.cells #[.int .i64 up, .int .i64 lo, .slice a rs.length cp] 42)) := (Below.refl _ _).alloc (Nat.le_refl _) _
  have hk : (w.alloc (.cells #[.int .i64 up, .int .i64 lo, .slice a rs.length cp] 42)).heap[w.heap.size]? = some (.cells #[.int .i64 up, .int .i64 lo, .slice a rs.length cp] 42 (0, 0)) := alloc_at rfl
  have hz : (w.alloc (.cells #[.int .i64 up, .int .i64 lo, .slice a rs.length cp] 42)).heap.size = w.heap.size + 1 := by simp
  generalize w.alloc (.cells #[.int .i64 up, .int .i64 lo, .slice a rs.length cp] 42) = w1 at hb hk hz ⊢
  have HB1 : Hid (Below w.heap.size w w1) := Lib.hid (HB0.out.trans (hb.mono HB0.out.size))
  have HZ1 : Hid (w.heap.size ≤ w1.heap.size) := Lib.hid hb.size
  have HRf1 := Lib.hid (HRf0.out.below HB1.out (Nat.le_refl _))
  have HKf1 := Lib.hid hk
  replace HZ1 : Hid (w.heap.size < w1.heap.size) := Lib.hid (by omega)
  have HE1 := Lib.hid hz
  clear hb hk hz
  have hb : Below w1.heap.size w1 (w1.alloc (.cells #[.int .i64 0, .int .i64 0, .slice none 0 0] 42)) := (Below.refl _ _).alloc (Nat.le_refl _) _
  have hk : (w1.alloc (.cells #[.int .i64 0, .int .i64 0, .slice none 0 0] 42)).heap[w.heap.size + 1]? = some (.cells #[.int .i64 0, .int .i64 0, .slice none 0 0] 42 (0, 0)) := alloc_at (by have := HE1.out; omega)
  have hz : (w1.alloc (.cells #[.int .i64 0, .int .i64 0, .slice none 0 0] 42)).heap.size = w1.heap.size + 1 := by simp
  generalize w1.alloc (.cells #[.int .i64 0, .int .i64 0, .slice none 0 0] 42) = w2 at hb hk hz ⊢
  have HB2 : Hid (Below w.heap.size w w2) := Lib.hid (HB1.out.trans (hb.mono HB1.out.size))
  have HZ2 : Hid (w1.heap.size ≤ w2.heap.size) := Lib.hid hb.size
  have HRf2 := Lib.hid (HRf0.out.below HB2.out (Nat.le_refl _))
  have HKf2 := Lib.hid ((hb.block _ (lt_of_block HKf1.out)).trans HKf1.out)
  have HKz2 := Lib.hid hk
  replace HZ2 : Hid (w1.heap.size < w2.heap.size) := Lib.hid (by omega)
  have HE2 := Lib.hid hz
  clear hb hk hz
  have ltf := lt_of_block HKf2.out
  obtain ⟨cf0, cf1, cf2, ff0, ff1, ff2⟩ := cell3 HKf2.out
  have ltz := lt_of_block HKz2.out
  obtain ⟨cz0, cz1, cz2, fz0, fz1, fz2⟩ := cell3 HKz2.out
  go_wp2_with fail
  refine (l2Std_any up lo _ rs _ HRf2.out true ⟨fun _ => HSS.out, fun _ => rfl⟩).mono ?_
  rintro e w3 ⟨rfl, hb⟩
  have HB3 : Hid (Below w.heap.size w w3) := Lib.hid (HB2.out.trans (hb.mono HB2.out.size))
  have HZ3 : Hid (w2.heap.size ≤ w3.heap.size) := Lib.hid hb.size
  have HRf3 := Lib.hid (HRf0.out.below HB3.out (Nat.le_refl _))
  have HKf3 := Lib.hid ((hb.block _ (lt_of_block HKf2.out)).trans HKf2.out)
  have HKz3 := Lib.hid ((hb.block _ (lt_of_block HKz2.out)).trans HKz2.out)
  clear hb
  clear cf0 cf1 cf2 ff0 ff1 ff2 ltf cz0 cz1 cz2 fz0 fz1 fz2 ltz
  have ltf := lt_of_block HKf3.out
  obtain ⟨cf0, cf1, cf2, ff0, ff1, ff2⟩ := cell3 HKf3.out
  have ltz := lt_of_block HKz3.out
  obtain ⟨cz0, cz1, cz2, fz0, fz1, fz2⟩ := cell3 HKz3.out
  go_wp2_with fail
  refine (l1In_any m 1 9999 _).mono ?_
  rintro e w9 ⟨rfl, hw9⟩
  subst w9
  rw [hn]
  go_wp2_with fail
  have hkz := box3_set HKz3.out (.int .i64 0) (.int .i64 0) (.slice none 0 0)
  have hbz := bl_set3 HB3.out (Nat.le_succ w.heap.size) (.int .i64 0) (.int .i64 0) (.slice none 0 0)
  generalize (((w3.setCell ⟨w.heap.size + 1, 0, none⟩ (.int .i64 0)).setCell ⟨w.heap.size + 1, 1, none⟩ (.int .i64 0)).setCell ⟨w.heap.size + 1, 2, none⟩ (.slice none 0 0)) = W9 at hkz hbz ⊢
  obtain ⟨z0, z1, z2, _, _, _⟩ := cell3 hkz
  exact bodyPost_ret (v := .tuple #[.agg #[.int .i64 0, .int .i64 0, .slice none 0 0], .int .i64 0, .bool false]) (by simp [results, Try.results58, go_sem, z0, z1, z2]) rfl ⟨⟨_, rfl, rods_nil _⟩, hbz⟩
theorem speQuotientOn_no (up lo : Int) (sv : Value) (rs : List (Int × Int)) (m : Int) (w : World) (h : RodsR w sv rs) (hc : ¬ canQ up lo rs m) :
    Calls Try.prog 58 #[.agg #[.int .i64 up, .int .i64 lo, sv], .int .i64 m] w fun e w' => (∃ sq, e = .returned (.tuple #[.agg #[.int .i64 0, .int .i64 0, sq], .int .i64 0, .bool false]) ∧ RodsR w' sq ([] : List (Int × Int))) ∧ Below w.heap.size w w' := by
  by_cases hs : goodF up lo rs ∧ stdF rs
  · exact speQuotientOn_div up lo sv rs m w h hs (fun h' => hc ⟨hs.1, hs.2, h'⟩)
  · exact speQuotientOn_std up lo sv rs m w h hs
set_option maxRecDepth 100000 in
set_option maxHeartbeats 3200000 in
theorem speQuotientOn_yes (up lo : Int) (sv : Value) (rs : List (Int × Int)) (m : Int) (w : World) (h : RodsR w sv rs) (hc : canQ up lo rs m) :
    Calls Try.prog 58 #[.agg #[.int .i64 up, .int .i64 lo, sv], .int .i64 m] w fun e w' => (∃ sq, e = .returned (.tuple #[.agg #[.int .i64 up, .int .i64 lo, sq], .int .i64 (numF rs % m), .bool true]) ∧ RodsR w' sq (forR rs.length (numF rs / m))) ∧ Below w.heap.size w w' := by
  obtain ⟨a, cp, rfl⟩ : ∃ a c, sv = .slice a rs.length c := by obtain ⟨a, c, e, _⟩ := h; exact ⟨a, c, e⟩
  have hm : rs.length ≤ 9223372036854775807 := by obtain ⟨_, _, _, ⟨m, _⟩, _⟩ := h; exact m
  have hl8 : rs.length ≤ 8 := hc.1.2.2.2.2
  have HSS : Hid (goodF up lo rs ∧ stdF rs) := Lib.hid ⟨hc.1, hc.2.1⟩
  have hn := inB_yes hc.2.2.1 hc.2.2.2
  obtain ⟨N, hN⟩ : ∃ N, N = numF rs := ⟨_, rfl⟩
  have hnb := numF_top up lo rs hc.1
  have hn8 : numF rs ≤ 99999999 := numF8 hc.1 hc.2.1
  rw [← hN] at hnb hn8
  have HNN := Lib.hid hN
  have y3 : (m == 0) = false := beq_eq_false_iff_ne.2 (by have := hc.2.2; omega)
  have y4 : m ≠ 0 := by have := hc.2.2; omega
  obtain ⟨f1, f2, f3, f4, f5, f6⟩ := div_facts (b := N) (d := m) (by omega) hc.2.2.1
  obtain ⟨T, hT⟩ : ∃ T, N / m = T := ⟨_, rfl⟩
  obtain ⟨R, hR⟩ : ∃ R, N % m = R := ⟨_, rfl⟩
  rw [hT] at f1 f3 f4
  rw [hR] at f2 f5 f6
  rw [← hN, hT, hR]
  obtain ⟨qs, hqs⟩ : ∃ qs, qs = forR rs.length T := ⟨_, rfl⟩
  have hql : qs.length = rs.length := by rw [hqs, forR_len]
  rw [← hqs]
  have HQ := Lib.hid hqs
  have HTN := Lib.hid hT
  have HRN := Lib.hid hR
  have HTB : Hid (0 ≤ T ∧ T ≤ 1000000000) := Lib.hid (by omega)
  clear hc hN hT hR hqs
  have HB0 : Hid (Below w.heap.size w w) := Lib.hid (Below.refl _ _)
  have HRf0 := Lib.hid (h)
  clear h
  go_enter Try.func58, Try.ntmps58
  go_wp2_with fail
  have hb : Below w.heap.size w (w.alloc (.cells #[.int .i64 up, .int .i64 lo, .slice a rs.length cp] 42)) := (Below.refl _ _).alloc (Nat.le_refl _) _
  have hk : (w.alloc (.cells #[.int .i64 up, .int .i64 lo, .slice a rs.length cp] 42)).heap[w.heap.size]? = some (.cells #[.int .i64 up, .int .i64 lo, .slice a rs.length cp] 42 (0, 0)) := alloc_at rfl
  have hz : (w.alloc (.cells #[.int .i64 up, .int .i64 lo, .slice a rs.length cp] 42)).heap.size = w.heap.size + 1 := by simp
  generalize w.alloc (.cells #[.int .i64 up, .int .i64 lo, .slice a rs.length cp] 42) = w1 at hb hk hz ⊢
  have HB1 : Hid (Below w.heap.size w w1) := Lib.hid (HB0.out.trans (hb.mono HB0.out.size))
  have HZ1 : Hid (w.heap.size ≤ w1.heap.size) := Lib.hid hb.size
  have HRf1 := Lib.hid (HRf0.out.below HB1.out (Nat.le_refl _))
  have HKf1 := Lib.hid hk
  replace HZ1 : Hid (w.heap.size < w1.heap.size) := Lib.hid (by omega)
  have HE1 := Lib.hid hz
  clear hb hk hz
  have hb : Below w1.heap.size w1 (w1.alloc (.cells #[.int .i64 0, .int .i64 0, .slice none 0 0] 42)) := (Below.refl _ _).alloc (Nat.le_refl _) _
  have hk : (w1.alloc (.cells #[.int .i64 0, .int .i64 0, .slice none 0 0] 42)).heap[w.heap.size + 1]? = some (.cells #[.int .i64 0, .int .i64 0, .slice none 0 0] 42 (0, 0)) := alloc_at (by have := HE1.out; omega)
  have hz : (w1.alloc (.cells #[.int .i64 0, .int .i64 0, .slice none 0 0] 42)).heap.size = w1.heap.size + 1 := by simp
  generalize w1.alloc (.cells #[.int .i64 0, .int .i64 0, .slice none 0 0] 42) = w2 at hb hk hz ⊢
  have HB2 : Hid (Below w.heap.size w w2) := Lib.hid (HB1.out.trans (hb.mono HB1.out.size))
  have HZ2 : Hid (w1.heap.size ≤ w2.heap.size) := Lib.hid hb.size
  have HRf2 := Lib.hid (HRf0.out.below HB2.out (Nat.le_refl _))
  have HKf2 := Lib.hid ((hb.block _ (lt_of_block HKf1.out)).trans HKf1.out)
  have HKz2 := Lib.hid hk
  replace HZ2 : Hid (w1.heap.size < w2.heap.size) := Lib.hid (by omega)
  have HE2 := Lib.hid hz
  clear hb hk hz
  have ltf := lt_of_block HKf2.out
  obtain ⟨cf0, cf1, cf2, ff0, ff1, ff2⟩ := cell3 HKf2.out
  have ltz := lt_of_block HKz2.out
  obtain ⟨cz0, cz1, cz2, fz0, fz1, fz2⟩ := cell3 HKz2.out
  go_wp2_with fail
  refine (l2Std_any up lo _ rs _ HRf2.out true ⟨fun _ => HSS.out, fun _ => rfl⟩).mono ?_
  rintro e w3 ⟨rfl, hb⟩
  have HB3 : Hid (Below w.heap.size w w3) := Lib.hid (HB2.out.trans (hb.mono HB2.out.size))
  have HZ3 : Hid (w2.heap.size ≤ w3.heap.size) := Lib.hid hb.size
  have HRf3 := Lib.hid (HRf0.out.below HB3.out (Nat.le_refl _))
  have HKf3 := Lib.hid ((hb.block _ (lt_of_block HKf2.out)).trans HKf2.out)
  have HKz3 := Lib.hid ((hb.block _ (lt_of_block HKz2.out)).trans HKz2.out)
  clear hb
  clear cf0 cf1 cf2 ff0 ff1 ff2 ltf cz0 cz1 cz2 fz0 fz1 fz2 ltz
  have ltf := lt_of_block HKf3.out
  obtain ⟨cf0, cf1, cf2, ff0, ff1, ff2⟩ := cell3 HKf3.out
  have ltz := lt_of_block HKz3.out
  obtain ⟨cz0, cz1, cz2, fz0, fz1, fz2⟩ := cell3 HKz3.out
  go_wp2_with fail
  refine (l1In_any m 1 9999 _).mono ?_
  rintro e w9 ⟨rfl, hw9⟩
  subst w9
  rw [hn]
  go_wp2_with fail
  refine (l2Number_good up lo _ rs _ HRf3.out HSS.out.1).mono ?_
  rintro e w4 ⟨rfl, hb⟩
  have HB4 : Hid (Below w.heap.size w w4) := Lib.hid (HB3.out.trans (hb.mono HB3.out.size))
  have HZ4 : Hid (w3.heap.size ≤ w4.heap.size) := Lib.hid hb.size
  have HRf4 := Lib.hid (HRf0.out.below HB4.out (Nat.le_refl _))
  have HKf4 := Lib.hid ((hb.block _ (lt_of_block HKf3.out)).trans HKf3.out)
  have HKz4 := Lib.hid ((hb.block _ (lt_of_block HKz3.out)).trans HKz3.out)
  clear hb
  rw [← HNN.out]
  clear cf0 cf1 cf2 ff0 ff1 ff2 ltf cz0 cz1 cz2 fz0 fz1 fz2 ltz
  have ltf := lt_of_block HKf4.out
  obtain ⟨cf0, cf1, cf2, ff0, ff1, ff2⟩ := cell3 HKf4.out
  have ltz := lt_of_block HKz4.out
  obtain ⟨cz0, cz1, cz2, fz0, fz1, fz2⟩ := cell3 HKz4.out
  go_wp2_with fail
  refine wp_region_held_drew (S := (fun u => u.cell? ⟨w.heap.size, 0, none⟩ = some (.int .i64 up) ∧ u.cell? ⟨w.heap.size, 1, none⟩ = some (.int .i64 lo) ∧ u.cell? ⟨w.heap.size, 2, none⟩ = some (.slice a rs.length cp))) (by kernel_rfl) (⟨cf0, cf1, cf2⟩) (fun hHeld => ?_)
  have hb : Below w4.heap.size w4 w4.drew := (Below.refl _ _).drew
  generalize w4.drew = w5 at hb hHeld ⊢
  have HB5 : Hid (Below w.heap.size w w5) := Lib.hid (HB4.out.trans (hb.mono HB4.out.size))
  have HZ5 : Hid (w4.heap.size ≤ w5.heap.size) := Lib.hid hb.size
  have HRf5 := Lib.hid (HRf0.out.below HB5.out (Nat.le_refl _))
  have HKf5 := Lib.hid ((hb.block _ (lt_of_block HKf4.out)).trans HKf4.out)
  have HKz5 := Lib.hid ((hb.block _ (lt_of_block HKz4.out)).trans HKz4.out)
  clear hb
  clear cf0 cf1 cf2 ff0 ff1 ff2 ltf cz0 cz1 cz2 fz0 fz1 fz2 ltz
  have ltf := lt_of_block HKf5.out
  obtain ⟨cf0, cf1, cf2, ff0, ff1, ff2⟩ := cell3 HKf5.out
  have ltz := lt_of_block HKz5.out
  obtain ⟨cz0, cz1, cz2, fz0, fz1, fz2⟩ := cell3 HKz5.out
  refine take1 (i := 0) (v := ?v1) (some 19) rfl rfl (by kernel_rfl) (by kernel_rfl) (by kernel_rfl) (fun _ _ _ h => h) (Or.inl ⟨by rfl, ?y1⟩) (by assumption) ?r1
  case y1 => (intro w hSw; (try dsimp only at hSw); go_simp; (first | done | with_reducible rfl))
  try simp only [Act.put, List.setIfInBounds_toArray, List.set_cons_zero, List.set_cons_succ]
  refine take1 (i := 1) (v := ?v2) (some 20) rfl rfl (by kernel_rfl) (by kernel_rfl) (by kernel_rfl) (fun _ _ _ h => h) (Or.inl ⟨by rfl, ?y2⟩) (by assumption) ?r2
  case y2 => (intro w hSw; (try dsimp only at hSw); go_simp; (first | done | with_reducible rfl))
  try simp only [Act.put, List.setIfInBounds_toArray, List.set_cons_zero, List.set_cons_succ]
  refine take1 (i := 2) (v := ?v3) (some 21) rfl rfl (by kernel_rfl) (by kernel_rfl) (by kernel_rfl) (fun _ _ _ h => h) (Or.inl ⟨by rfl, ?y3⟩) (by assumption) ?r3
  case y3 => (intro w hSw; (try dsimp only at hSw); go_simp; (first | done | with_reducible rfl))
  try simp only [Act.put, List.setIfInBounds_toArray, List.set_cons_zero, List.set_cons_succ]
  refine take1 (i := 3) (v := ?v4) (some 22) rfl rfl (by kernel_rfl) (by kernel_rfl) (by kernel_rfl) (fun _ _ _ h => h) (Or.inl ⟨by rfl, ?y4⟩) (by assumption) ?r4
  case y4 => (intro w hSw; (try dsimp only at hSw); go_simp; (first | done | with_reducible rfl))
  try simp only [Act.put, List.setIfInBounds_toArray, List.set_cons_zero, List.set_cons_succ]
  refine take1 (i := 4) (v := ?v5) (some 23) rfl rfl (by kernel_rfl) (by kernel_rfl) (by kernel_rfl) (fun _ _ _ h => h) (Or.inl ⟨by rfl, ?y5⟩) (by assumption) ?r5
  case y5 => (intro w hSw; (try dsimp only at hSw); go_simp; (first | done | with_reducible rfl))
  try simp only [Act.put, List.setIfInBounds_toArray, List.set_cons_zero, List.set_cons_succ]
  refine take1 (i := 5) (v := ?v6) (some 24) rfl rfl (by kernel_rfl) (by kernel_rfl) (by kernel_rfl) (fun _ _ _ h => h) (Or.inl ⟨by rfl, ?y6⟩) (by assumption) ?r6
  case y6 => (intro w hSw; (try dsimp only at hSw); go_simp; (first | done | with_reducible rfl))
  try simp only [Act.put, List.setIfInBounds_toArray, List.set_cons_zero, List.set_cons_succ]
  refine take1 (i := 6) (v := ?v7) (some 25) rfl rfl (by kernel_rfl) (by kernel_rfl) (by kernel_rfl) (fun _ _ _ h => h) (Or.inl ⟨by rfl, ?y7⟩) (by assumption) ?r7
  case y7 => (intro w hSw; (try dsimp only at hSw); go_simp; (first | done | with_reducible rfl))
  try simp only [Act.put, List.setIfInBounds_toArray, List.set_cons_zero, List.set_cons_succ]
  refine take1 (i := 7) (v := ?v8) (some 26) rfl rfl (by kernel_rfl) (by kernel_rfl) (by kernel_rfl) (fun _ _ _ h => h) (Or.inl ⟨by rfl, ?y8⟩) (by assumption) ?r8
  case y8 => (intro w hSw; (try dsimp only at hSw); go_simp; (first | done | with_reducible rfl))
  try simp only [Act.put, List.setIfInBounds_toArray, List.set_cons_zero, List.set_cons_succ]
  refine take1 (i := 8) (v := ?v9) (some 27) rfl rfl (by kernel_rfl) (by kernel_rfl) (by kernel_rfl) (fun _ _ _ h => h) (Or.inl ⟨by rfl, ?y9⟩) (by assumption) ?r9
  case y9 => (intro w hSw; (try dsimp only at hSw); go_simp; (first | done | with_reducible rfl))
  try simp only [Act.put, List.setIfInBounds_toArray, List.set_cons_zero, List.set_cons_succ]
  refine take1 (i := 9) (v := ?v10) (some 28) rfl rfl (by kernel_rfl) (by kernel_rfl) (by kernel_rfl) (fun _ _ _ h => h) (Or.inl ⟨by rfl, ?y10⟩) (by assumption) ?r10
  case y10 => (intro w hSw; (try dsimp only at hSw); go_simp; (first | done | with_reducible rfl))
  try simp only [Act.put, List.setIfInBounds_toArray, List.set_cons_zero, List.set_cons_succ]
  refine take1 (i := 11) (v := ?v11) (some 30) rfl rfl (by kernel_rfl) (by kernel_rfl) (by kernel_rfl) (fun _ _ _ h => h) (Or.inl ⟨by rfl, ?y11⟩) (by assumption) ?r11
  case y11 => (intro w hSw; (try dsimp only at hSw); go_simp; (first | done | with_reducible rfl))
  try simp only [Act.put, List.setIfInBounds_toArray, List.set_cons_zero, List.set_cons_succ]
  refine take1 (i := 12) (v := ?v12) (some 31) rfl rfl (by kernel_rfl) (by kernel_rfl) (by kernel_rfl) (fun _ _ _ h => h) (Or.inl ⟨by rfl, ?y12⟩) (by assumption) ?r12
  case y12 => (intro w hSw; (try dsimp only at hSw); go_simp; (first | done | with_reducible rfl))
  try simp only [Act.put, List.setIfInBounds_toArray, List.set_cons_zero, List.set_cons_succ]
  refine take1 (i := 13) (v := ?v13) (some 32) rfl rfl (by kernel_rfl) (by kernel_rfl) (by kernel_rfl) (fun _ _ _ h => h) (Or.inl ⟨by rfl, ?y13⟩) (by assumption) ?r13
  case y13 => (intro w hSw; (try dsimp only at hSw); go_simp; (first | done | with_reducible rfl))
  try simp only [Act.put, List.setIfInBounds_toArray, List.set_cons_zero, List.set_cons_succ]
  refine wpAnyH_ready (rs := [10]) (by kernel_rfl) (by simp) ?_
  refine AllReadyH.cons rfl (fun K hK => ?_) AllReadyH.nil
  go_simp
  go_at_call 82
  refine (l2For_any up lo rs.length T _ hl8 HTB.out).mono ?_
  rintro e w6 ⟨⟨sq, rfl, oa⟩, hb⟩
  rw [← HQ.out] at oa
  obtain ⟨p1, k1, rfl⟩ := own_form oa
  have HB6 : Hid (Below w.heap.size w w6) := Lib.hid (HB5.out.trans (hb.mono HB5.out.size))
  have HZ6 : Hid (w5.heap.size ≤ w6.heap.size) := Lib.hid hb.size
  have HRf6 := Lib.hid (HRf0.out.below HB6.out (Nat.le_refl _))
  have HKf6 := Lib.hid ((hb.block _ (lt_of_block HKf5.out)).trans HKf5.out)
  have HKz6 := Lib.hid ((hb.block _ (lt_of_block HKz5.out)).trans HKz5.out)
  clear hb
  have HOq6 := Lib.hid (Ow.mk' oa)
  clear oa
  clear cf0 cf1 cf2 ff0 ff1 ff2 ltf cz0 cz1 cz2 fz0 fz1 fz2 ltz
  have ltf := lt_of_block HKf6.out
  obtain ⟨cf0, cf1, cf2, ff0, ff1, ff2⟩ := cell3 HKf6.out
  have ltz := lt_of_block HKz6.out
  obtain ⟨cz0, cz1, cz2, fz0, fz1, fz2⟩ := cell3 HKz6.out
  try go_simp
  refine hK.out _ _ (⟨cf0, cf1, cf2⟩) (fun hHeld => ?_)
  clear hK K
  try simp only [Act.put, List.setIfInBounds_toArray, List.set_cons_zero, List.set_cons_succ]
  refine wpAnyH_ready (rs := [14]) (by kernel_rfl) (by simp) ?_
  refine AllReadyH.cons rfl (fun K hK => ?_) AllReadyH.nil
  go_simp
  have hlz : w.heap.size + 1 < w5.heap.size := lt_of_block HKz5.out
  have hkz := box3_set HKz6.out (.int .i64 up) (.int .i64 lo) (.slice p1 rs.length k1)
  have hbz := bl_set3 HB6.out (Nat.le_succ w.heap.size) (.int .i64 up) (.int .i64 lo) (.slice p1 rs.length k1)
  have hoz := own_set3 HOq6.out.1 hlz (.int .i64 up) (.int .i64 lo) (.slice p1 rs.length k1)
  have hkf := (Below.heap_setCell _ ⟨w.heap.size + 1, 2, none⟩ (.slice p1 rs.length k1) w.heap.size (by show w.heap.size ≠ w.heap.size + 1; omega)).trans ((Below.heap_setCell _ ⟨w.heap.size + 1, 1, none⟩ (.int .i64 lo) w.heap.size (by show w.heap.size ≠ w.heap.size + 1; omega)).trans ((Below.heap_setCell w6 ⟨w.heap.size + 1, 0, none⟩ (.int .i64 up) w.heap.size (by show w.heap.size ≠ w.heap.size + 1; omega)).trans HKf6.out))
  clear cf0 cf1 cf2 ff0 ff1 ff2 cz0 cz1 cz2 fz0 fz1 fz2
  generalize (((w6.setCell ⟨w.heap.size + 1, 0, none⟩ (.int .i64 up)).setCell ⟨w.heap.size + 1, 1, none⟩ (.int .i64 lo)).setCell ⟨w.heap.size + 1, 2, none⟩ (.slice p1 rs.length k1)) = W9 at hkz hbz hoz hkf ⊢
  obtain ⟨cf0, cf1, cf2, _, _, _⟩ := cell3 hkf
  refine hK.out _ _ (⟨cf0, cf1, cf2⟩) (fun hHeld => ?_)
  clear hK K
  try simp only [Act.put]
  refine take1 (i := 15) (v := ?v14) (some 5) rfl rfl (by kernel_rfl) (by kernel_rfl) (by kernel_rfl) (fun _ _ _ h => h) (Or.inl ⟨by rfl, ?y14⟩) (by assumption) ?r14
  case y14 => (intro w hSw; (try dsimp only at hSw); go_simp; (first | done | with_reducible rfl))
  try simp only [Act.put, List.setIfInBounds_toArray, List.set_cons_zero, List.set_cons_succ]
  refine take1 (i := 16) (v := ?v15) (some 6) rfl rfl (by kernel_rfl) (by kernel_rfl) (by kernel_rfl) (fun _ _ _ h => h) (Or.inl ⟨by rfl, ?y15⟩) (by assumption) ?r15
  case y15 => (intro w hSw; (try dsimp only at hSw); go_simp; (first | done | with_reducible rfl))
  try simp only [Act.put, List.setIfInBounds_toArray, List.set_cons_zero, List.set_cons_succ]
  refine wpAnyH_done (by kernel_rfl) ?_ _
  obtain ⟨z0, z1, z2, _, _, _⟩ := cell3 hkz
  go_wp2_with fail
  exact bodyPost_ret (v := .tuple #[.agg #[.int .i64 up, .int .i64 lo, .slice p1 rs.length k1], .int .i64 R, .bool true]) (by simp [results, Try.results58, go_sem, z0, z1, z2]) rfl ⟨⟨_, rfl, RodsR.of_own (by rw [hql]; exact hoz)⟩, hbz⟩
end Go.Proofs.Ythmbehknacjodaa
