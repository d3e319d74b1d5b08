/- The model's counting of a step. -/
import Derived.Test.YtjkjaadcdolbhaaHoi
import Derived.Test.YtjkjaadcdolbhaaMad2
import Derived.Test.YtjkjaadcdolbhaaKa
import Derived.OwnWalk
import Derived.Maps.AppendAt
namespace Go.Proofs.Ytjkjaadcdolbhaa
set_option linter.unusedVariables false
open Go.RowKit

set_option maxRecDepth 100000 in
set_option maxHeartbeats 1600000 in
theorem speHowOften_std (up lo : Int) (sv : Value) (rs : List (Int × Int)) (m : Int) (w : World) (h : RodsR w sv rs) (hs : ¬ (goodF up lo rs ∧ stdF rs)) :
    Calls Try.prog 35 #[.agg #[.int .i64 up, .int .i64 lo, sv], .int .i64 m] w fun e w' => e = .returned (.tuple #[.int .i64 0, .bool false]) ∧ Below w.heap.size w w' := by
  obtain ⟨a, cp, rfl⟩ : ∃ a c, sv = .slice a rs.length c := by obtain ⟨a, c, e, _⟩ := h; exact ⟨a, c, e⟩
  have hm : rs.length ≤ 9223372036854775807 := by obtain ⟨_, _, _, ⟨m, _⟩, _⟩ := h; exact m
  have HSS := Lib.hid hs
  clear hs
  have HB0 : Hid (Below w.heap.size w w) := Lib.hid (Below.refl _ _)
  have HRf0 := Lib.hid (h)
  clear h
  go_enter Try.func35, Try.ntmps35
  go_wp2_with fail
  have hb : Below w.heap.size w (w.alloc (.cells #[.int .i64 up, .int .i64 lo, .slice a rs.length cp] 26)) := (Below.refl _ _).alloc (Nat.le_refl _) _
  have hk : (w.alloc (.cells #[.int .i64 up, .int .i64 lo, .slice a rs.length cp] 26)).heap[w.heap.size]? = some (.cells #[.int .i64 up, .int .i64 lo, .slice a rs.length cp] 26 (0, 0)) := alloc_at rfl
  have hz : (w.alloc (.cells #[.int .i64 up, .int .i64 lo, .slice a rs.length cp] 26)).heap.size = w.heap.size + 1 := by simp
  generalize w.alloc (.cells #[.int .i64 up, .int .i64 lo, .slice a rs.length cp] 26) = w1 at hb hk hz ⊢
  have HB1 : Hid (Below w.heap.size w w1) := Lib.hid (HB0.out.trans (hb.mono HB0.out.size))
  have HZ1 : Hid (w.heap.size ≤ w1.heap.size) := Lib.hid hb.size
  have HRf1 := Lib.hid (HRf0.out.below HB1.out (Nat.le_refl _))
  have HKf1 := Lib.hid hk
  replace HZ1 : Hid (w.heap.size < w1.heap.size) := Lib.hid (by omega)
  have HE1 := Lib.hid hz
  clear hb hk hz
  refine (l2Std_any up lo _ rs _ HRf1.out false ⟨fun h => (by cases h), fun h => absurd h HSS.out⟩).mono ?_
  rintro e w2 ⟨rfl, hb⟩
  have HB2 : Hid (Below w.heap.size w w2) := Lib.hid (HB1.out.trans (hb.mono HB1.out.size))
  have HZ2 : Hid (w1.heap.size ≤ w2.heap.size) := Lib.hid hb.size
  have HRf2 := Lib.hid (HRf0.out.below HB2.out (Nat.le_refl _))
  have HKf2 := Lib.hid ((hb.block _ (lt_of_block HKf1.out)).trans HKf1.out)
  clear hb
  have ltf := lt_of_block HKf2.out
  obtain ⟨cf0, cf1, cf2, ff0, ff1, ff2⟩ := cell3 HKf2.out
  go_wp2_with fail
  go_ret2
  exact ⟨rfl, HB2.out⟩
set_option maxRecDepth 100000 in
set_option maxHeartbeats 1600000 in
theorem speHowOften_step (up lo : Int) (sv : Value) (rs : List (Int × Int)) (m : Int) (w : World) (h : RodsR w sv rs) (hs : goodF up lo rs ∧ stdF rs) (h1 : m < 1) :
    Calls Try.prog 35 #[.agg #[.int .i64 up, .int .i64 lo, sv], .int .i64 m] w fun e w' => e = .returned (.tuple #[.int .i64 0, .bool false]) ∧ Below w.heap.size w w' := by
  obtain ⟨a, cp, rfl⟩ : ∃ a c, sv = .slice a rs.length c := by obtain ⟨a, c, e, _⟩ := h; exact ⟨a, c, e⟩
  have hm : rs.length ≤ 9223372036854775807 := by obtain ⟨_, _, _, ⟨m, _⟩, _⟩ := h; exact m
  have HSS := Lib.hid hs
  clear hs
  have HB0 : Hid (Below w.heap.size w w) := Lib.hid (Below.refl _ _)
  have HRf0 := Lib.hid (h)
  clear h
  go_enter Try.func35, Try.ntmps35
  go_wp2_with fail
  have hb : Below w.heap.size w (w.alloc (.cells #[.int .i64 up, .int .i64 lo, .slice a rs.length cp] 26)) := (Below.refl _ _).alloc (Nat.le_refl _) _
  have hk : (w.alloc (.cells #[.int .i64 up, .int .i64 lo, .slice a rs.length cp] 26)).heap[w.heap.size]? = some (.cells #[.int .i64 up, .int .i64 lo, .slice a rs.length cp] 26 (0, 0)) := alloc_at rfl
  have hz : (w.alloc (.cells #[.int .i64 up, .int .i64 lo, .slice a rs.length cp] 26)).heap.size = w.heap.size + 1 := by simp
  generalize w.alloc (.cells #[.int .i64 up, .int .i64 lo, .slice a rs.length cp] 26) = w1 at hb hk hz ⊢
  have HB1 : Hid (Below w.heap.size w w1) := Lib.hid (HB0.out.trans (hb.mono HB0.out.size))
  have HZ1 : Hid (w.heap.size ≤ w1.heap.size) := Lib.hid hb.size
  have HRf1 := Lib.hid (HRf0.out.below HB1.out (Nat.le_refl _))
  have HKf1 := Lib.hid hk
  replace HZ1 : Hid (w.heap.size < w1.heap.size) := Lib.hid (by omega)
  have HE1 := Lib.hid hz
  clear hb hk hz
  refine (l2Std_any up lo _ rs _ HRf1.out true ⟨fun _ => HSS.out, fun _ => rfl⟩).mono ?_
  rintro e w2 ⟨rfl, hb⟩
  have HB2 : Hid (Below w.heap.size w w2) := Lib.hid (HB1.out.trans (hb.mono HB1.out.size))
  have HZ2 : Hid (w1.heap.size ≤ w2.heap.size) := Lib.hid hb.size
  have HRf2 := Lib.hid (HRf0.out.below HB2.out (Nat.le_refl _))
  have HKf2 := Lib.hid ((hb.block _ (lt_of_block HKf1.out)).trans HKf1.out)
  clear hb
  have ltf := lt_of_block HKf2.out
  obtain ⟨cf0, cf1, cf2, ff0, ff1, ff2⟩ := cell3 HKf2.out
  go_wp2_with fail
  go_ret2
  exact ⟨rfl, HB2.out⟩
theorem speHowOften_bad (up lo : Int) (sv : Value) (rs : List (Int × Int)) (m : Int) (w : World) (h : RodsR w sv rs) (hc : ¬ canH up lo rs m) :
    Calls Try.prog 35 #[.agg #[.int .i64 up, .int .i64 lo, sv], .int .i64 m] w fun e w' => e = .returned (.tuple #[.int .i64 0, .bool false]) ∧ Below w.heap.size w w' := by
  by_cases hs : goodF up lo rs ∧ stdF rs
  · exact speHowOften_step up lo sv rs m w h hs (by rcases Int.lt_or_le m 1 with h' | h'; exact h'; exact absurd ⟨hs.1, hs.2, h'⟩ hc)
  · exact speHowOften_std up lo sv rs m w h hs

set_option maxRecDepth 100000 in
set_option maxHeartbeats 1600000 in
theorem speHowOften_long (up lo : Int) (sv : Value) (rs : List (Int × Int)) (m : Int) (w : World) (h : RodsR w sv rs) (hc : canH up lo rs m) (hl : ¬ numF rs / m ≤ 100000) :
    Calls Try.prog 35 #[.agg #[.int .i64 up, .int .i64 lo, sv], .int .i64 m] w fun e w' => e = .returned (.tuple #[.int .i64 0, .bool false]) ∧ Below w.heap.size w w' := by
  obtain ⟨a, cp, rfl⟩ : ∃ a c, sv = .slice a rs.length c := by obtain ⟨a, c, e, _⟩ := h; exact ⟨a, c, e⟩
  have hm : rs.length ≤ 9223372036854775807 := by obtain ⟨_, _, _, ⟨m, _⟩, _⟩ := h; exact m
  have h1 := hc.2.2
  have HSS : Hid (goodF up lo rs ∧ stdF rs) := Lib.hid ⟨hc.1, hc.2.1⟩
  have hlt1 : decide (m < 1) = false := decide_eq_false (by omega)
  obtain ⟨N, hN⟩ : ∃ N, N = numF rs := ⟨_, rfl⟩
  have hnb := numF_top up lo rs hc.1
  rw [← hN] at hnb
  have HNN := Lib.hid hN
  have y3 : (m == 0) = false := beq_eq_false_iff_ne.2 (by omega)
  have y4 : m ≠ 0 := by omega
  have hdb : 0 ≤ N / m ∧ N / m ≤ N := ⟨Int.ediv_nonneg hnb.1 (by omega), Int.ediv_le_self _ hnb.1⟩
  obtain ⟨T, hT⟩ : ∃ T, IntKind.i64.wrap (N.tdiv m) = T := ⟨_, rfl⟩
  have hTe : T = N / m := by rw [← hT, Int.tdiv_eq_ediv_of_nonneg hnb.1, IntKind.wrap_i64]; omega
  have HTE := Lib.hid hTe
  have hTb : 0 ≤ T ∧ T ≤ 200000000 := by omega
  clear hdb
  rw [← hN, ← hTe] at hl
  have hd : decide (100000 < T) = true := decide_eq_true (by omega)
  clear hc hN hTe h1 hl
  have HB0 : Hid (Below w.heap.size w w) := Lib.hid (Below.refl _ _)
  have HRf0 := Lib.hid (h)
  clear h
  go_enter Try.func35, Try.ntmps35
  go_wp2_with fail
  have hb : Below w.heap.size w (w.alloc (.cells #[.int .i64 up, .int .i64 lo, .slice a rs.length cp] 26)) := (Below.refl _ _).alloc (Nat.le_refl _) _
  have hk : (w.alloc (.cells #[.int .i64 up, .int .i64 lo, .slice a rs.length cp] 26)).heap[w.heap.size]? = some (.cells #[.int .i64 up, .int .i64 lo, .slice a rs.length cp] 26 (0, 0)) := alloc_at rfl
  have hz : (w.alloc (.cells #[.int .i64 up, .int .i64 lo, .slice a rs.length cp] 26)).heap.size = w.heap.size + 1 := by simp
  generalize w.alloc (.cells #[.int .i64 up, .int .i64 lo, .slice a rs.length cp] 26) = w1 at hb hk hz ⊢
  have HB1 : Hid (Below w.heap.size w w1) := Lib.hid (HB0.out.trans (hb.mono HB0.out.size))
  have HZ1 : Hid (w.heap.size ≤ w1.heap.size) := Lib.hid hb.size
  have HRf1 := Lib.hid (HRf0.out.below HB1.out (Nat.le_refl _))
  have HKf1 := Lib.hid hk
  replace HZ1 : Hid (w.heap.size < w1.heap.size) := Lib.hid (by omega)
  have HE1 := Lib.hid hz
  clear hb hk hz
  refine (l2Std_any up lo _ rs _ HRf1.out true ⟨fun _ => HSS.out, fun _ => rfl⟩).mono ?_
  rintro e w2 ⟨rfl, hb⟩
  have HB2 : Hid (Below w.heap.size w w2) := Lib.hid (HB1.out.trans (hb.mono HB1.out.size))
  have HZ2 : Hid (w1.heap.size ≤ w2.heap.size) := Lib.hid hb.size
  have HRf2 := Lib.hid (HRf0.out.below HB2.out (Nat.le_refl _))
  have HKf2 := Lib.hid ((hb.block _ (lt_of_block HKf1.out)).trans HKf1.out)
  clear hb
  have ltf := lt_of_block HKf2.out
  obtain ⟨cf0, cf1, cf2, ff0, ff1, ff2⟩ := cell3 HKf2.out
  go_wp2_with fail
  refine (l2Number_good up lo _ rs _ HRf2.out HSS.out.1).mono ?_
  rintro e w3 ⟨rfl, hb⟩
  have HB3 : Hid (Below w.heap.size w w3) := Lib.hid (HB2.out.trans (hb.mono HB2.out.size))
  have HZ3 : Hid (w2.heap.size ≤ w3.heap.size) := Lib.hid hb.size
  have HRf3 := Lib.hid (HRf0.out.below HB3.out (Nat.le_refl _))
  have HKf3 := Lib.hid ((hb.block _ (lt_of_block HKf2.out)).trans HKf2.out)
  clear hb
  rw [← HNN.out]
  clear cf0 cf1 cf2 ff0 ff1 ff2 ltf
  have ltf := lt_of_block HKf3.out
  obtain ⟨cf0, cf1, cf2, ff0, ff1, ff2⟩ := cell3 HKf3.out
  go_wp2_with fail
  go_ret2
  exact ⟨rfl, HB3.out⟩
set_option maxRecDepth 100000 in
set_option maxHeartbeats 1600000 in
theorem speHowOften_yes (up lo : Int) (sv : Value) (rs : List (Int × Int)) (m : Int) (w : World) (h : RodsR w sv rs) (hc : canH up lo rs m) (hl : numF rs / m ≤ 100000) :
    Calls Try.prog 35 #[.agg #[.int .i64 up, .int .i64 lo, sv], .int .i64 m] w fun e w' => e = .returned (.tuple #[.int .i64 (numF rs / m), .bool true]) ∧ Below w.heap.size w w' := by
  obtain ⟨a, cp, rfl⟩ : ∃ a c, sv = .slice a rs.length c := by obtain ⟨a, c, e, _⟩ := h; exact ⟨a, c, e⟩
  have hm : rs.length ≤ 9223372036854775807 := by obtain ⟨_, _, _, ⟨m, _⟩, _⟩ := h; exact m
  have h1 := hc.2.2
  have HSS : Hid (goodF up lo rs ∧ stdF rs) := Lib.hid ⟨hc.1, hc.2.1⟩
  have hlt1 : decide (m < 1) = false := decide_eq_false (by omega)
  obtain ⟨N, hN⟩ : ∃ N, N = numF rs := ⟨_, rfl⟩
  have hnb := numF_top up lo rs hc.1
  rw [← hN] at hnb
  have HNN := Lib.hid hN
  have y3 : (m == 0) = false := beq_eq_false_iff_ne.2 (by omega)
  have y4 : m ≠ 0 := by omega
  have hdb : 0 ≤ N / m ∧ N / m ≤ N := ⟨Int.ediv_nonneg hnb.1 (by omega), Int.ediv_le_self _ hnb.1⟩
  obtain ⟨T, hT⟩ : ∃ T, IntKind.i64.wrap (N.tdiv m) = T := ⟨_, rfl⟩
  have hTe : T = N / m := by rw [← hT, Int.tdiv_eq_ediv_of_nonneg hnb.1, IntKind.wrap_i64]; omega
  have HTE := Lib.hid hTe
  have hTb : 0 ≤ T ∧ T ≤ 200000000 := by omega
  clear hdb
  rw [← hN, ← hTe] at hl ⊢
  have hd : decide (100000 < T) = false := decide_eq_false (by omega)
  clear hc hN hTe h1 hl
  have HB0 : Hid (Below w.heap.size w w) := Lib.hid (Below.refl _ _)
  have HRf0 := Lib.hid (h)
  clear h
  go_enter Try.func35, Try.ntmps35
  go_wp2_with fail
  have hb : Below w.heap.size w (w.alloc (.cells #[.int .i64 up, .int .i64 lo, .slice a rs.length cp] 26)) := (Below.refl _ _).alloc (Nat.le_refl _) _
  have hk : (w.alloc (.cells #[.int .i64 up, .int .i64 lo, .slice a rs.length cp] 26)).heap[w.heap.size]? = some (.cells #[.int .i64 up, .int .i64 lo, .slice a rs.length cp] 26 (0, 0)) := alloc_at rfl
  have hz : (w.alloc (.cells #[.int .i64 up, .int .i64 lo, .slice a rs.length cp] 26)).heap.size = w.heap.size + 1 := by simp
  generalize w.alloc (.cells #[.int .i64 up, .int .i64 lo, .slice a rs.length cp] 26) = w1 at hb hk hz ⊢
  have HB1 : Hid (Below w.heap.size w w1) := Lib.hid (HB0.out.trans (hb.mono HB0.out.size))
  have HZ1 : Hid (w.heap.size ≤ w1.heap.size) := Lib.hid hb.size
  have HRf1 := Lib.hid (HRf0.out.below HB1.out (Nat.le_refl _))
  have HKf1 := Lib.hid hk
  replace HZ1 : Hid (w.heap.size < w1.heap.size) := Lib.hid (by omega)
  have HE1 := Lib.hid hz
  clear hb hk hz
  refine (l2Std_any up lo _ rs _ HRf1.out true ⟨fun _ => HSS.out, fun _ => rfl⟩).mono ?_
  rintro e w2 ⟨rfl, hb⟩
  have HB2 : Hid (Below w.heap.size w w2) := Lib.hid (HB1.out.trans (hb.mono HB1.out.size))
  have HZ2 : Hid (w1.heap.size ≤ w2.heap.size) := Lib.hid hb.size
  have HRf2 := Lib.hid (HRf0.out.below HB2.out (Nat.le_refl _))
  have HKf2 := Lib.hid ((hb.block _ (lt_of_block HKf1.out)).trans HKf1.out)
  clear hb
  have ltf := lt_of_block HKf2.out
  obtain ⟨cf0, cf1, cf2, ff0, ff1, ff2⟩ := cell3 HKf2.out
  go_wp2_with fail
  refine (l2Number_good up lo _ rs _ HRf2.out HSS.out.1).mono ?_
  rintro e w3 ⟨rfl, hb⟩
  have HB3 : Hid (Below w.heap.size w w3) := Lib.hid (HB2.out.trans (hb.mono HB2.out.size))
  have HZ3 : Hid (w2.heap.size ≤ w3.heap.size) := Lib.hid hb.size
  have HRf3 := Lib.hid (HRf0.out.below HB3.out (Nat.le_refl _))
  have HKf3 := Lib.hid ((hb.block _ (lt_of_block HKf2.out)).trans HKf2.out)
  clear hb
  rw [← HNN.out]
  clear cf0 cf1 cf2 ff0 ff1 ff2 ltf
  have ltf := lt_of_block HKf3.out
  obtain ⟨cf0, cf1, cf2, ff0, ff1, ff2⟩ := cell3 HKf3.out
  go_wp2_with fail
  refine (l2Number_good up lo _ rs _ HRf3.out HSS.out.1).mono ?_
  rintro e w4 ⟨rfl, hb⟩
  have HB4 : Hid (Below w.heap.size w w4) := Lib.hid (HB3.out.trans (hb.mono HB3.out.size))
  have HZ4 : Hid (w3.heap.size ≤ w4.heap.size) := Lib.hid hb.size
  have HRf4 := Lib.hid (HRf0.out.below HB4.out (Nat.le_refl _))
  have HKf4 := Lib.hid ((hb.block _ (lt_of_block HKf3.out)).trans HKf3.out)
  clear hb
  rw [← HNN.out]
  clear cf0 cf1 cf2 ff0 ff1 ff2 ltf
  have ltf := lt_of_block HKf4.out
  obtain ⟨cf0, cf1, cf2, ff0, ff1, ff2⟩ := cell3 HKf4.out
  go_wp2_with fail
  go_ret2
  exact ⟨rfl, HB4.out⟩
set_option maxRecDepth 100000 in
set_option maxHeartbeats 1600000 in
theorem speNearestBelow_std (up lo : Int) (sv : Value) (rs : List (Int × Int)) (m : Int) (w : World) (h : RodsR w sv rs) (hs : ¬ (goodF up lo rs ∧ stdF rs)) :
    Calls Try.prog 37 #[.agg #[.int .i64 up, .int .i64 lo, sv], .int .i64 m] w fun e w' => (∃ sq, e = .returned (.tuple #[.agg #[.int .i64 0, .int .i64 0, sq], .bool false]) ∧ RodsR w' sq ([] : List (Int × Int))) ∧ Below w.heap.size w w' := by
  obtain ⟨a, cp, rfl⟩ : ∃ a c, sv = .slice a rs.length c := by obtain ⟨a, c, e, _⟩ := h; exact ⟨a, c, e⟩
  have hm : rs.length ≤ 9223372036854775807 := by obtain ⟨_, _, _, ⟨m, _⟩, _⟩ := h; exact m
  have HSS := Lib.hid hs
  clear hs
  have HB0 : Hid (Below w.heap.size w w) := Lib.hid (Below.refl _ _)
  have HRf0 := Lib.hid (h)
  clear h
  go_enter Try.func37, Try.ntmps37
  go_wp2_with fail
  have hb : Below w.heap.size w (w.alloc (.cells #[.int .i64 up, .int .i64 lo, .slice a rs.length cp] 26)) := (Below.refl _ _).alloc (Nat.le_refl _) _
  have hk : (w.alloc (.cells #[.int .i64 up, .int .i64 lo, .slice a rs.length cp] 26)).heap[w.heap.size]? = some (.cells #[.int .i64 up, .int .i64 lo, .slice a rs.length cp] 26 (0, 0)) := alloc_at rfl
  have hz : (w.alloc (.cells #[.int .i64 up, .int .i64 lo, .slice a rs.length cp] 26)).heap.size = w.heap.size + 1 := by simp
  generalize w.alloc (.cells #[.int .i64 up, .int .i64 lo, .slice a rs.length cp] 26) = w1 at hb hk hz ⊢
  have HB1 : Hid (Below w.heap.size w w1) := Lib.hid (HB0.out.trans (hb.mono HB0.out.size))
  have HZ1 : Hid (w.heap.size ≤ w1.heap.size) := Lib.hid hb.size
  have HRf1 := Lib.hid (HRf0.out.below HB1.out (Nat.le_refl _))
  have HKf1 := Lib.hid hk
  replace HZ1 : Hid (w.heap.size < w1.heap.size) := Lib.hid (by omega)
  have HE1 := Lib.hid hz
  clear hb hk hz
  have hb : Below w1.heap.size w1 (w1.alloc (.cells #[.int .i64 0, .int .i64 0, .slice none 0 0] 26)) := (Below.refl _ _).alloc (Nat.le_refl _) _
  have hk : (w1.alloc (.cells #[.int .i64 0, .int .i64 0, .slice none 0 0] 26)).heap[w.heap.size + 1]? = some (.cells #[.int .i64 0, .int .i64 0, .slice none 0 0] 26 (0, 0)) := alloc_at (by have := HE1.out; omega)
  have hz : (w1.alloc (.cells #[.int .i64 0, .int .i64 0, .slice none 0 0] 26)).heap.size = w1.heap.size + 1 := by simp
  generalize w1.alloc (.cells #[.int .i64 0, .int .i64 0, .slice none 0 0] 26) = w2 at hb hk hz ⊢
  have HB2 : Hid (Below w.heap.size w w2) := Lib.hid (HB1.out.trans (hb.mono HB1.out.size))
  have HZ2 : Hid (w1.heap.size ≤ w2.heap.size) := Lib.hid hb.size
  have HRf2 := Lib.hid (HRf0.out.below HB2.out (Nat.le_refl _))
  have HKf2 := Lib.hid ((hb.block _ (lt_of_block HKf1.out)).trans HKf1.out)
  have HKz2 := Lib.hid hk
  replace HZ2 : Hid (w1.heap.size < w2.heap.size) := Lib.hid (by omega)
  have HE2 := Lib.hid hz
  clear hb hk hz
  have ltf := lt_of_block HKf2.out
  obtain ⟨cf0, cf1, cf2, ff0, ff1, ff2⟩ := cell3 HKf2.out
  have ltz := lt_of_block HKz2.out
  obtain ⟨cz0, cz1, cz2, fz0, fz1, fz2⟩ := cell3 HKz2.out
  go_wp2_with fail
  refine (l2Std_any up lo _ rs _ HRf2.out false ⟨fun h => (by cases h), fun h => absurd h HSS.out⟩).mono ?_
  rintro e w3 ⟨rfl, hb⟩
  have HB3 : Hid (Below w.heap.size w w3) := Lib.hid (HB2.out.trans (hb.mono HB2.out.size))
  have HZ3 : Hid (w2.heap.size ≤ w3.heap.size) := Lib.hid hb.size
  have HRf3 := Lib.hid (HRf0.out.below HB3.out (Nat.le_refl _))
  have HKf3 := Lib.hid ((hb.block _ (lt_of_block HKf2.out)).trans HKf2.out)
  have HKz3 := Lib.hid ((hb.block _ (lt_of_block HKz2.out)).trans HKz2.out)
  clear hb
  clear cf0 cf1 cf2 ff0 ff1 ff2 ltf cz0 cz1 cz2 fz0 fz1 fz2 ltz
  have ltf := lt_of_block HKf3.out
  obtain ⟨cf0, cf1, cf2, ff0, ff1, ff2⟩ := cell3 HKf3.out
  have ltz := lt_of_block HKz3.out
  obtain ⟨cz0, cz1, cz2, fz0, fz1, fz2⟩ := cell3 HKz3.out
  go_wp2_with fail
  have hkz := box3_set HKz3.out (.int .i64 0) (.int .i64 0) (.slice none 0 0)
  have hbz := bl_set3 HB3.out (Nat.le_succ w.heap.size) (.int .i64 0) (.int .i64 0) (.slice none 0 0)
  generalize (((w3.setCell ⟨w.heap.size + 1, 0, none⟩ (.int .i64 0)).setCell ⟨w.heap.size + 1, 1, none⟩ (.int .i64 0)).setCell ⟨w.heap.size + 1, 2, none⟩ (.slice none 0 0)) = W9 at hkz hbz ⊢
  obtain ⟨z0, z1, z2, _, _, _⟩ := cell3 hkz
  exact bodyPost_ret (v := .tuple #[.agg #[.int .i64 0, .int .i64 0, .slice none 0 0], .bool false]) (by simp [results, Try.results37, go_sem, z0, z1, z2]) rfl ⟨⟨_, rfl, rods_nil _⟩, hbz⟩
set_option maxRecDepth 100000 in
set_option maxHeartbeats 1600000 in
theorem speNearestBelow_step (up lo : Int) (sv : Value) (rs : List (Int × Int)) (m : Int) (w : World) (h : RodsR w sv rs) (hs : goodF up lo rs ∧ stdF rs) (h1 : m < 1) :
    Calls Try.prog 37 #[.agg #[.int .i64 up, .int .i64 lo, sv], .int .i64 m] w fun e w' => (∃ sq, e = .returned (.tuple #[.agg #[.int .i64 0, .int .i64 0, sq], .bool false]) ∧ RodsR w' sq ([] : List (Int × Int))) ∧ Below w.heap.size w w' := by
  obtain ⟨a, cp, rfl⟩ : ∃ a c, sv = .slice a rs.length c := by obtain ⟨a, c, e, _⟩ := h; exact ⟨a, c, e⟩
  have hm : rs.length ≤ 9223372036854775807 := by obtain ⟨_, _, _, ⟨m, _⟩, _⟩ := h; exact m
  have HSS := Lib.hid hs
  clear hs
  have HB0 : Hid (Below w.heap.size w w) := Lib.hid (Below.refl _ _)
  have HRf0 := Lib.hid (h)
  clear h
  go_enter Try.func37, Try.ntmps37
  go_wp2_with fail
  have hb : Below w.heap.size w (w.alloc (.cells #[.int .i64 up, .int .i64 lo, .slice a rs.length cp] 26)) := (Below.refl _ _).alloc (Nat.le_refl _) _
  have hk : (w.alloc (.cells #[.int .i64 up, .int .i64 lo, .slice a rs.length cp] 26)).heap[w.heap.size]? = some (.cells #[.int .i64 up, .int .i64 lo, .slice a rs.length cp] 26 (0, 0)) := alloc_at rfl
  have hz : (w.alloc (.cells #[.int .i64 up, .int .i64 lo, .slice a rs.length cp] 26)).heap.size = w.heap.size + 1 := by simp
  generalize w.alloc (.cells #[.int .i64 up, .int .i64 lo, .slice a rs.length cp] 26) = w1 at hb hk hz ⊢
  have HB1 : Hid (Below w.heap.size w w1) := Lib.hid (HB0.out.trans (hb.mono HB0.out.size))
  have HZ1 : Hid (w.heap.size ≤ w1.heap.size) := Lib.hid hb.size
  have HRf1 := Lib.hid (HRf0.out.below HB1.out (Nat.le_refl _))
  have HKf1 := Lib.hid hk
  replace HZ1 : Hid (w.heap.size < w1.heap.size) := Lib.hid (by omega)
  have HE1 := Lib.hid hz
  clear hb hk hz
  have hb : Below w1.heap.size w1 (w1.alloc (.cells #[.int .i64 0, .int .i64 0, .slice none 0 0] 26)) := (Below.refl _ _).alloc (Nat.le_refl _) _
  have hk : (w1.alloc (.cells #[.int .i64 0, .int .i64 0, .slice none 0 0] 26)).heap[w.heap.size + 1]? = some (.cells #[.int .i64 0, .int .i64 0, .slice none 0 0] 26 (0, 0)) := alloc_at (by have := HE1.out; omega)
  have hz : (w1.alloc (.cells #[.int .i64 0, .int .i64 0, .slice none 0 0] 26)).heap.size = w1.heap.size + 1 := by simp
  generalize w1.alloc (.cells #[.int .i64 0, .int .i64 0, .slice none 0 0] 26) = w2 at hb hk hz ⊢
  have HB2 : Hid (Below w.heap.size w w2) := Lib.hid (HB1.out.trans (hb.mono HB1.out.size))
  have HZ2 : Hid (w1.heap.size ≤ w2.heap.size) := Lib.hid hb.size
  have HRf2 := Lib.hid (HRf0.out.below HB2.out (Nat.le_refl _))
  have HKf2 := Lib.hid ((hb.block _ (lt_of_block HKf1.out)).trans HKf1.out)
  have HKz2 := Lib.hid hk
  replace HZ2 : Hid (w1.heap.size < w2.heap.size) := Lib.hid (by omega)
  have HE2 := Lib.hid hz
  clear hb hk hz
  have ltf := lt_of_block HKf2.out
  obtain ⟨cf0, cf1, cf2, ff0, ff1, ff2⟩ := cell3 HKf2.out
  have ltz := lt_of_block HKz2.out
  obtain ⟨cz0, cz1, cz2, fz0, fz1, fz2⟩ := cell3 HKz2.out
  go_wp2_with fail
  refine (l2Std_any up lo _ rs _ HRf2.out true ⟨fun _ => HSS.out, fun _ => rfl⟩).mono ?_
  rintro e w3 ⟨rfl, hb⟩
  have HB3 : Hid (Below w.heap.size w w3) := Lib.hid (HB2.out.trans (hb.mono HB2.out.size))
  have HZ3 : Hid (w2.heap.size ≤ w3.heap.size) := Lib.hid hb.size
  have HRf3 := Lib.hid (HRf0.out.below HB3.out (Nat.le_refl _))
  have HKf3 := Lib.hid ((hb.block _ (lt_of_block HKf2.out)).trans HKf2.out)
  have HKz3 := Lib.hid ((hb.block _ (lt_of_block HKz2.out)).trans HKz2.out)
  clear hb
  clear cf0 cf1 cf2 ff0 ff1 ff2 ltf cz0 cz1 cz2 fz0 fz1 fz2 ltz
  have ltf := lt_of_block HKf3.out
  obtain ⟨cf0, cf1, cf2, ff0, ff1, ff2⟩ := cell3 HKf3.out
  have ltz := lt_of_block HKz3.out
  obtain ⟨cz0, cz1, cz2, fz0, fz1, fz2⟩ := cell3 HKz3.out
  go_wp2_with fail
  have hkz := box3_set HKz3.out (.int .i64 0) (.int .i64 0) (.slice none 0 0)
  have hbz := bl_set3 HB3.out (Nat.le_succ w.heap.size) (.int .i64 0) (.int .i64 0) (.slice none 0 0)
  generalize (((w3.setCell ⟨w.heap.size + 1, 0, none⟩ (.int .i64 0)).setCell ⟨w.heap.size + 1, 1, none⟩ (.int .i64 0)).setCell ⟨w.heap.size + 1, 2, none⟩ (.slice none 0 0)) = W9 at hkz hbz ⊢
  obtain ⟨z0, z1, z2, _, _, _⟩ := cell3 hkz
  exact bodyPost_ret (v := .tuple #[.agg #[.int .i64 0, .int .i64 0, .slice none 0 0], .bool false]) (by simp [results, Try.results37, go_sem, z0, z1, z2]) rfl ⟨⟨_, rfl, rods_nil _⟩, hbz⟩
theorem speNearestBelow_bad (up lo : Int) (sv : Value) (rs : List (Int × Int)) (m : Int) (w : World) (h : RodsR w sv rs) (hc : ¬ canH up lo rs m) :
    Calls Try.prog 37 #[.agg #[.int .i64 up, .int .i64 lo, sv], .int .i64 m] w fun e w' => (∃ sq, e = .returned (.tuple #[.agg #[.int .i64 0, .int .i64 0, sq], .bool false]) ∧ RodsR w' sq ([] : List (Int × Int))) ∧ Below w.heap.size w w' := by
  by_cases hs : goodF up lo rs ∧ stdF rs
  · exact speNearestBelow_step up lo sv rs m w h hs (by rcases Int.lt_or_le m 1 with h' | h'; exact h'; exact absurd ⟨hs.1, hs.2, h'⟩ hc)
  · exact speNearestBelow_std up lo sv rs m w h hs

set_option maxRecDepth 100000 in
set_option maxHeartbeats 3200000 in
theorem speNearestBelow_yes (up lo : Int) (sv : Value) (rs : List (Int × Int)) (m : Int) (w : World) (h : RodsR w sv rs) (hc : canH up lo rs m) :
    Calls Try.prog 37 #[.agg #[.int .i64 up, .int .i64 lo, sv], .int .i64 m] w fun e w' => (∃ sq, e = .returned (.tuple #[.agg #[.int .i64 up, .int .i64 lo, sq], .bool true]) ∧ RodsR w' sq (forR rs.length (numF rs / m * m))) ∧ Below w.heap.size w w' := by
  obtain ⟨a, cp, rfl⟩ : ∃ a c, sv = .slice a rs.length c := by obtain ⟨a, c, e, _⟩ := h; exact ⟨a, c, e⟩
  have hm : rs.length ≤ 9223372036854775807 := by obtain ⟨_, _, _, ⟨m, _⟩, _⟩ := h; exact m
  have h1 := hc.2.2
  have HSS : Hid (goodF up lo rs ∧ stdF rs) := Lib.hid ⟨hc.1, hc.2.1⟩
  have hlt1 : decide (m < 1) = false := decide_eq_false (by omega)
  obtain ⟨N, hN⟩ : ∃ N, N = numF rs := ⟨_, rfl⟩
  have hnb := numF_top up lo rs hc.1
  rw [← hN] at hnb
  have HNN := Lib.hid hN
  have y3 : (m == 0) = false := beq_eq_false_iff_ne.2 (by omega)
  have y4 : m ≠ 0 := by omega
  have hdb : 0 ≤ N / m ∧ N / m ≤ N := ⟨Int.ediv_nonneg hnb.1 (by omega), Int.ediv_le_self _ hnb.1⟩
  obtain ⟨T, hT⟩ : ∃ T, IntKind.i64.wrap (N.tdiv m) = T := ⟨_, rfl⟩
  have hTe : T = N / m := by rw [← hT, Int.tdiv_eq_ediv_of_nonneg hnb.1, IntKind.wrap_i64]; omega
  have HTE := Lib.hid hTe
  have hTb : 0 ≤ T ∧ T ≤ 200000000 := by omega
  clear hdb
  obtain ⟨P, hP⟩ : ∃ P, P = numF rs / m * m := ⟨_, rfl⟩
  have hPb : 0 ≤ P ∧ P ≤ numF rs := by
    rw [hP, ← hN, ← hTe]; refine ⟨Int.mul_nonneg (by omega) (by omega), ?_⟩
    have := Int.emod_add_mul_ediv N m; have h2 := Int.emod_nonneg N y4; rw [Int.mul_comm m, ← hTe] at this; omega
  have hpw : IntKind.i64.wrap (T * m) = P := by rw [hTe, hN, ← hP, IntKind.wrap_i64]; omega
  have hl8 : rs.length ≤ 8 := hc.1.2.2.2.2
  rw [← hP]
  obtain ⟨qs, hqs⟩ : ∃ qs, qs = forR rs.length P := ⟨_, rfl⟩
  have hql : qs.length = rs.length := by rw [hqs, forR_len]
  rw [← hqs]
  have HQ := Lib.hid hqs
  have HPB : Hid (0 ≤ P ∧ P ≤ 1000000000) := Lib.hid (by omega)
  clear hc hN hTe h1 hP hPb hqs
  have HB0 : Hid (Below w.heap.size w w) := Lib.hid (Below.refl _ _)
  have HRf0 := Lib.hid (h)
  clear h
  go_enter Try.func37, Try.ntmps37
  go_wp2_with fail
  have hb : Below w.heap.size w (w.alloc (.cells #[.int .i64 up, .int .i64 lo, .slice a rs.length cp] 26)) := (Below.refl _ _).alloc (Nat.le_refl _) _
  have hk : (w.alloc (.cells #[.int .i64 up, .int .i64 lo, .slice a rs.length cp] 26)).heap[w.heap.size]? = some (.cells #[.int .i64 up, .int .i64 lo, .slice a rs.length cp] 26 (0, 0)) := alloc_at rfl
  have hz : (w.alloc (.cells #[.int .i64 up, .int .i64 lo, .slice a rs.length cp] 26)).heap.size = w.heap.size + 1 := by simp
  generalize w.alloc (.cells #[.int .i64 up, .int .i64 lo, .slice a rs.length cp] 26) = w1 at hb hk hz ⊢
  have HB1 : Hid (Below w.heap.size w w1) := Lib.hid (HB0.out.trans (hb.mono HB0.out.size))
  have HZ1 : Hid (w.heap.size ≤ w1.heap.size) := Lib.hid hb.size
  have HRf1 := Lib.hid (HRf0.out.below HB1.out (Nat.le_refl _))
  have HKf1 := Lib.hid hk
  replace HZ1 : Hid (w.heap.size < w1.heap.size) := Lib.hid (by omega)
  have HE1 := Lib.hid hz
  clear hb hk hz
  have hb : Below w1.heap.size w1 (w1.alloc (.cells #[.int .i64 0, .int .i64 0, .slice none 0 0] 26)) := (Below.refl _ _).alloc (Nat.le_refl _) _
  have hk : (w1.alloc (.cells #[.int .i64 0, .int .i64 0, .slice none 0 0] 26)).heap[w.heap.size + 1]? = some (.cells #[.int .i64 0, .int .i64 0, .slice none 0 0] 26 (0, 0)) := alloc_at (by have := HE1.out; omega)
  have hz : (w1.alloc (.cells #[.int .i64 0, .int .i64 0, .slice none 0 0] 26)).heap.size = w1.heap.size + 1 := by simp
  generalize w1.alloc (.cells #[.int .i64 0, .int .i64 0, .slice none 0 0] 26) = w2 at hb hk hz ⊢
  have HB2 : Hid (Below w.heap.size w w2) := Lib.hid (HB1.out.trans (hb.mono HB1.out.size))
  have HZ2 : Hid (w1.heap.size ≤ w2.heap.size) := Lib.hid hb.size
  have HRf2 := Lib.hid (HRf0.out.below HB2.out (Nat.le_refl _))
  have HKf2 := Lib.hid ((hb.block _ (lt_of_block HKf1.out)).trans HKf1.out)
  have HKz2 := Lib.hid hk
  replace HZ2 : Hid (w1.heap.size < w2.heap.size) := Lib.hid (by omega)
  have HE2 := Lib.hid hz
  clear hb hk hz
  have ltf := lt_of_block HKf2.out
  obtain ⟨cf0, cf1, cf2, ff0, ff1, ff2⟩ := cell3 HKf2.out
  have ltz := lt_of_block HKz2.out
  obtain ⟨cz0, cz1, cz2, fz0, fz1, fz2⟩ := cell3 HKz2.out
  go_wp2_with fail
  refine (l2Std_any up lo _ rs _ HRf2.out true ⟨fun _ => HSS.out, fun _ => rfl⟩).mono ?_
  rintro e w3 ⟨rfl, hb⟩
  have HB3 : Hid (Below w.heap.size w w3) := Lib.hid (HB2.out.trans (hb.mono HB2.out.size))
  have HZ3 : Hid (w2.heap.size ≤ w3.heap.size) := Lib.hid hb.size
  have HRf3 := Lib.hid (HRf0.out.below HB3.out (Nat.le_refl _))
  have HKf3 := Lib.hid ((hb.block _ (lt_of_block HKf2.out)).trans HKf2.out)
  have HKz3 := Lib.hid ((hb.block _ (lt_of_block HKz2.out)).trans HKz2.out)
  clear hb
  clear cf0 cf1 cf2 ff0 ff1 ff2 ltf cz0 cz1 cz2 fz0 fz1 fz2 ltz
  have ltf := lt_of_block HKf3.out
  obtain ⟨cf0, cf1, cf2, ff0, ff1, ff2⟩ := cell3 HKf3.out
  have ltz := lt_of_block HKz3.out
  obtain ⟨cz0, cz1, cz2, fz0, fz1, fz2⟩ := cell3 HKz3.out
  go_wp2_with fail
  refine wp_region_held_drew (S := (fun u => u.cell? ⟨w.heap.size, 0, none⟩ = some (.int .i64 up) ∧ u.cell? ⟨w.heap.size, 1, none⟩ = some (.int .i64 lo) ∧ u.cell? ⟨w.heap.size, 2, none⟩ = some (.slice a rs.length cp))) (by kernel_rfl) (⟨cf0, cf1, cf2⟩) (fun hHeld => ?_)
  have hb : Below w3.heap.size w3 w3.drew := (Below.refl _ _).drew
  generalize w3.drew = w4 at hb hHeld ⊢
  have HB4 : Hid (Below w.heap.size w w4) := Lib.hid (HB3.out.trans (hb.mono HB3.out.size))
  have HZ4 : Hid (w3.heap.size ≤ w4.heap.size) := Lib.hid hb.size
  have HRf4 := Lib.hid (HRf0.out.below HB4.out (Nat.le_refl _))
  have HKf4 := Lib.hid ((hb.block _ (lt_of_block HKf3.out)).trans HKf3.out)
  have HKz4 := Lib.hid ((hb.block _ (lt_of_block HKz3.out)).trans HKz3.out)
  clear hb
  clear cf0 cf1 cf2 ff0 ff1 ff2 ltf cz0 cz1 cz2 fz0 fz1 fz2 ltz
  have ltf := lt_of_block HKf4.out
  obtain ⟨cf0, cf1, cf2, ff0, ff1, ff2⟩ := cell3 HKf4.out
  have ltz := lt_of_block HKz4.out
  obtain ⟨cz0, cz1, cz2, fz0, fz1, fz2⟩ := cell3 HKz4.out
  refine take1 (i := 0) (v := ?v1) (some 14) rfl rfl (by kernel_rfl) (by kernel_rfl) (by kernel_rfl) (fun _ _ _ h => h) (Or.inl ⟨by rfl, ?y1⟩) (by assumption) ?r1
  case y1 => (intro w hSw; (try dsimp only at hSw); go_simp; (first | done | with_reducible rfl))
  try simp only [Act.put, List.setIfInBounds_toArray, List.set_cons_zero, List.set_cons_succ]
  refine take1 (i := 1) (v := ?v2) (some 15) rfl rfl (by kernel_rfl) (by kernel_rfl) (by kernel_rfl) (fun _ _ _ h => h) (Or.inl ⟨by rfl, ?y2⟩) (by assumption) ?r2
  case y2 => (intro w hSw; (try dsimp only at hSw); go_simp; (first | done | with_reducible rfl))
  try simp only [Act.put, List.setIfInBounds_toArray, List.set_cons_zero, List.set_cons_succ]
  refine take1 (i := 2) (v := ?v3) (some 16) rfl rfl (by kernel_rfl) (by kernel_rfl) (by kernel_rfl) (fun _ _ _ h => h) (Or.inl ⟨by rfl, ?y3⟩) (by assumption) ?r3
  case y3 => (intro w hSw; (try dsimp only at hSw); go_simp; (first | done | with_reducible rfl))
  try simp only [Act.put, List.setIfInBounds_toArray, List.set_cons_zero, List.set_cons_succ]
  refine take1 (i := 3) (v := ?v4) (some 17) rfl rfl (by kernel_rfl) (by kernel_rfl) (by kernel_rfl) (fun _ _ _ h => h) (Or.inl ⟨by rfl, ?y4⟩) (by assumption) ?r4
  case y4 => (intro w hSw; (try dsimp only at hSw); go_simp; (first | done | with_reducible rfl))
  try simp only [Act.put, List.setIfInBounds_toArray, List.set_cons_zero, List.set_cons_succ]
  refine take1 (i := 4) (v := ?v5) (some 18) rfl rfl (by kernel_rfl) (by kernel_rfl) (by kernel_rfl) (fun _ _ _ h => h) (Or.inl ⟨by rfl, ?y5⟩) (by assumption) ?r5
  case y5 => (intro w hSw; (try dsimp only at hSw); go_simp; (first | done | with_reducible rfl))
  try simp only [Act.put, List.setIfInBounds_toArray, List.set_cons_zero, List.set_cons_succ]
  refine take1 (i := 5) (v := ?v6) (some 19) rfl rfl (by kernel_rfl) (by kernel_rfl) (by kernel_rfl) (fun _ _ _ h => h) (Or.inl ⟨by rfl, ?y6⟩) (by assumption) ?r6
  case y6 => (intro w hSw; (try dsimp only at hSw); go_simp; (first | done | with_reducible rfl))
  try simp only [Act.put, List.setIfInBounds_toArray, List.set_cons_zero, List.set_cons_succ]
  refine take1 (i := 6) (v := ?v7) (some 20) rfl rfl (by kernel_rfl) (by kernel_rfl) (by kernel_rfl) (fun _ _ _ h => h) (Or.inl ⟨by rfl, ?y7⟩) (by assumption) ?r7
  case y7 => (intro w hSw; (try dsimp only at hSw); go_simp; (first | done | with_reducible rfl))
  try simp only [Act.put, List.setIfInBounds_toArray, List.set_cons_zero, List.set_cons_succ]
  refine take1 (i := 7) (v := ?v8) (some 21) rfl rfl (by kernel_rfl) (by kernel_rfl) (by kernel_rfl) (fun _ _ _ h => h) (Or.inl ⟨by rfl, ?y8⟩) (by assumption) ?r8
  case y8 => (intro w hSw; (try dsimp only at hSw); go_simp; (first | done | with_reducible rfl))
  try simp only [Act.put, List.setIfInBounds_toArray, List.set_cons_zero, List.set_cons_succ]
  refine take1 (i := 9) (v := ?v9) (some 23) rfl rfl (by kernel_rfl) (by kernel_rfl) (by kernel_rfl) (fun _ _ _ h => h) (Or.inl ⟨by rfl, ?y9⟩) (by assumption) ?r9
  case y9 => (intro w hSw; (try dsimp only at hSw); go_simp; (first | done | with_reducible rfl))
  try simp only [Act.put, List.setIfInBounds_toArray, List.set_cons_zero, List.set_cons_succ]
  refine take1 (i := 11) (v := ?v10) (some 25) rfl rfl (by kernel_rfl) (by kernel_rfl) (by kernel_rfl) (fun _ _ _ h => h) (Or.inl ⟨by rfl, ?y10⟩) (by assumption) ?r10
  case y10 => (intro w hSw; (try dsimp only at hSw); go_simp; (first | done | with_reducible rfl))
  try simp only [Act.put, List.setIfInBounds_toArray, List.set_cons_zero, List.set_cons_succ]
  refine wpAnyH_ready (rs := [8]) (by kernel_rfl) (by simp) ?_
  refine AllReadyH.cons rfl (fun K hK => ?_) AllReadyH.nil
  go_simp
  go_at_call 76
  refine (l2Number_good up lo _ rs _ HRf4.out HSS.out.1).mono ?_
  rintro e w5 ⟨rfl, hb⟩
  rw [← HNN.out]
  have HB5 : Hid (Below w.heap.size w w5) := Lib.hid (HB4.out.trans (hb.mono HB4.out.size))
  have HZ5 : Hid (w4.heap.size ≤ w5.heap.size) := Lib.hid hb.size
  have HRf5 := Lib.hid (HRf0.out.below HB5.out (Nat.le_refl _))
  have HKf5 := Lib.hid ((hb.block _ (lt_of_block HKf4.out)).trans HKf4.out)
  have HKz5 := Lib.hid ((hb.block _ (lt_of_block HKz4.out)).trans HKz4.out)
  clear hb
  clear cf0 cf1 cf2 ff0 ff1 ff2 ltf cz0 cz1 cz2 fz0 fz1 fz2 ltz
  have ltf := lt_of_block HKf5.out
  obtain ⟨cf0, cf1, cf2, ff0, ff1, ff2⟩ := cell3 HKf5.out
  have ltz := lt_of_block HKz5.out
  obtain ⟨cz0, cz1, cz2, fz0, fz1, fz2⟩ := cell3 HKz5.out
  try go_simp
  refine hK.out _ _ (⟨cf0, cf1, cf2⟩) (fun hHeld => ?_)
  clear hK K
  try simp only [Act.put, List.setIfInBounds_toArray, List.set_cons_zero, List.set_cons_succ]
  refine take1 (i := 10) (v := ?v11) (some 24) rfl rfl (by kernel_rfl) (by kernel_rfl) (by kernel_rfl) (fun _ _ _ h => h) (Or.inl ⟨by rfl, ?y11⟩) (by assumption) ?r11
  case y11 => (intro w hSw; (try dsimp only at hSw); go_simp; (first | done | with_reducible rfl))
  try simp only [Act.put, List.setIfInBounds_toArray, List.set_cons_zero, List.set_cons_succ]
  refine take1 (i := 12) (v := ?v12) (some 26) rfl rfl (by kernel_rfl) (by kernel_rfl) (by kernel_rfl) (fun _ _ _ h => h) (Or.inl ⟨by rfl, ?y12⟩) (by assumption) ?r12
  case y12 => (intro w hSw; (try dsimp only at hSw); go_simp; (first | done | with_reducible rfl))
  try simp only [Act.put, List.setIfInBounds_toArray, List.set_cons_zero, List.set_cons_succ]
  refine wpAnyH_ready (rs := [13]) (by kernel_rfl) (by simp) ?_
  refine AllReadyH.cons rfl (fun K hK => ?_) AllReadyH.nil
  go_simp
  go_at_call 80
  refine (l2For_any up lo rs.length P _ hl8 HPB.out).mono ?_
  rintro e w6 ⟨⟨sq, rfl, oa⟩, hb⟩
  rw [← HQ.out] at oa
  obtain ⟨p1, k1, rfl⟩ := own_form oa
  have HB6 : Hid (Below w.heap.size w w6) := Lib.hid (HB5.out.trans (hb.mono HB5.out.size))
  have HZ6 : Hid (w5.heap.size ≤ w6.heap.size) := Lib.hid hb.size
  have HRf6 := Lib.hid (HRf0.out.below HB6.out (Nat.le_refl _))
  have HKf6 := Lib.hid ((hb.block _ (lt_of_block HKf5.out)).trans HKf5.out)
  have HKz6 := Lib.hid ((hb.block _ (lt_of_block HKz5.out)).trans HKz5.out)
  clear hb
  have HOq6 := Lib.hid (Ow.mk' oa)
  clear oa
  clear cf0 cf1 cf2 ff0 ff1 ff2 ltf cz0 cz1 cz2 fz0 fz1 fz2 ltz
  have ltf := lt_of_block HKf6.out
  obtain ⟨cf0, cf1, cf2, ff0, ff1, ff2⟩ := cell3 HKf6.out
  have ltz := lt_of_block HKz6.out
  obtain ⟨cz0, cz1, cz2, fz0, fz1, fz2⟩ := cell3 HKz6.out
  try go_simp
  refine hK.out _ _ (⟨cf0, cf1, cf2⟩) (fun hHeld => ?_)
  clear hK K
  try simp only [Act.put, List.setIfInBounds_toArray, List.set_cons_zero, List.set_cons_succ]
  refine wpAnyH_ready (rs := [14]) (by kernel_rfl) (by simp) ?_
  refine AllReadyH.cons rfl (fun K hK => ?_) AllReadyH.nil
  go_simp
  have hlz : w.heap.size + 1 < w5.heap.size := lt_of_block HKz5.out
  have hkz := box3_set HKz6.out (.int .i64 up) (.int .i64 lo) (.slice p1 rs.length k1)
  have hbz := bl_set3 HB6.out (Nat.le_succ w.heap.size) (.int .i64 up) (.int .i64 lo) (.slice p1 rs.length k1)
  have hoz := own_set3 HOq6.out.1 hlz (.int .i64 up) (.int .i64 lo) (.slice p1 rs.length k1)
  have hkf := (Below.heap_setCell _ ⟨w.heap.size + 1, 2, none⟩ (.slice p1 rs.length k1) w.heap.size (by show w.heap.size ≠ w.heap.size + 1; omega)).trans ((Below.heap_setCell _ ⟨w.heap.size + 1, 1, none⟩ (.int .i64 lo) w.heap.size (by show w.heap.size ≠ w.heap.size + 1; omega)).trans ((Below.heap_setCell w6 ⟨w.heap.size + 1, 0, none⟩ (.int .i64 up) w.heap.size (by show w.heap.size ≠ w.heap.size + 1; omega)).trans HKf6.out))
  clear cf0 cf1 cf2 ff0 ff1 ff2 cz0 cz1 cz2 fz0 fz1 fz2
  generalize (((w6.setCell ⟨w.heap.size + 1, 0, none⟩ (.int .i64 up)).setCell ⟨w.heap.size + 1, 1, none⟩ (.int .i64 lo)).setCell ⟨w.heap.size + 1, 2, none⟩ (.slice p1 rs.length k1)) = W9 at hkz hbz hoz hkf ⊢
  obtain ⟨cf0, cf1, cf2, _, _, _⟩ := cell3 hkf
  refine hK.out _ _ (⟨cf0, cf1, cf2⟩) (fun hHeld => ?_)
  clear hK K
  try simp only [Act.put]
  refine take1 (i := 15) (v := ?v13) (some 5) rfl rfl (by kernel_rfl) (by kernel_rfl) (by kernel_rfl) (fun _ _ _ h => h) (Or.inl ⟨by rfl, ?y13⟩) (by assumption) ?r13
  case y13 => (intro w hSw; (try dsimp only at hSw); go_simp; (first | done | with_reducible rfl))
  try simp only [Act.put, List.setIfInBounds_toArray, List.set_cons_zero, List.set_cons_succ]
  refine wpAnyH_done (by kernel_rfl) ?_ _
  obtain ⟨z0, z1, z2, _, _, _⟩ := cell3 hkz
  go_wp2_with fail
  exact bodyPost_ret (v := .tuple #[.agg #[.int .i64 up, .int .i64 lo, .slice p1 rs.length k1], .bool true]) (by simp [results, Try.results37, go_sem, z0, z1, z2]) rfl ⟨⟨_, rfl, RodsR.of_own (by rw [hql]; exact hoz)⟩, hbz⟩
set_option maxRecDepth 100000 in
set_option maxHeartbeats 1600000 in
theorem speCountDown_std (up lo : Int) (sv : Value) (rs : List (Int × Int)) (m : Int) (w : World) (h : RodsR w sv rs) (hs : ¬ (goodF up lo rs ∧ stdF rs)) :
    Calls Try.prog 31 #[.agg #[.int .i64 up, .int .i64 lo, sv], .int .i64 m] w fun e w' => (∃ sq, e = .returned (.tuple #[sq, .bool false]) ∧ RowsR 1 inC w' sq ([] : List Int)) ∧ Below w.heap.size w w' := by
  obtain ⟨a, cp, rfl⟩ : ∃ a c, sv = .slice a rs.length c := by obtain ⟨a, c, e, _⟩ := h; exact ⟨a, c, e⟩
  have hm : rs.length ≤ 9223372036854775807 := by obtain ⟨_, _, _, ⟨m, _⟩, _⟩ := h; exact m
  have HSS := Lib.hid hs
  clear hs
  have HB0 : Hid (Below w.heap.size w w) := Lib.hid (Below.refl _ _)
  have HRf0 := Lib.hid (h)
  clear h
  go_enter Try.func31, Try.ntmps31
  go_wp2_with fail
  have hb : Below w.heap.size w (w.alloc (.cells #[.int .i64 up, .int .i64 lo, .slice a rs.length cp] 26)) := (Below.refl _ _).alloc (Nat.le_refl _) _
  have hk : (w.alloc (.cells #[.int .i64 up, .int .i64 lo, .slice a rs.length cp] 26)).heap[w.heap.size]? = some (.cells #[.int .i64 up, .int .i64 lo, .slice a rs.length cp] 26 (0, 0)) := alloc_at rfl
  have hz : (w.alloc (.cells #[.int .i64 up, .int .i64 lo, .slice a rs.length cp] 26)).heap.size = w.heap.size + 1 := by simp
  generalize w.alloc (.cells #[.int .i64 up, .int .i64 lo, .slice a rs.length cp] 26) = w1 at hb hk hz ⊢
  have HB1 : Hid (Below w.heap.size w w1) := Lib.hid (HB0.out.trans (hb.mono HB0.out.size))
  have HZ1 : Hid (w.heap.size ≤ w1.heap.size) := Lib.hid hb.size
  have HRf1 := Lib.hid (HRf0.out.below HB1.out (Nat.le_refl _))
  have HKf1 := Lib.hid hk
  replace HZ1 : Hid (w.heap.size < w1.heap.size) := Lib.hid (by omega)
  have HE1 := Lib.hid hz
  clear hb hk hz
  have ltf := lt_of_block HKf1.out
  obtain ⟨cf0, cf1, cf2, ff0, ff1, ff2⟩ := cell3 HKf1.out
  have ho0 : (w1.alloc (.cells #[] 3)).ownsRow w1.heap.size 3 1 (.slice (some ⟨w.heap.size + 1, 0, none⟩) 0 0) 0 [] := by
    rw [← HE1.out]; exact World.ownsRow_made _ _ _ (Nat.le_refl _) (Nat.zero_le _) (by simp)
  have hb : Below w1.heap.size w1 (w1.alloc (.cells #[] 3)) := (Below.refl _ _).alloc (Nat.le_refl _) _
  generalize w1.alloc (.cells #[] 3) = w2 at hb ho0 ⊢
  skip
  have HB2 : Hid (Below w.heap.size w w2) := Lib.hid (HB1.out.trans (hb.mono HB1.out.size))
  have HZ2 : Hid (w1.heap.size ≤ w2.heap.size) := Lib.hid hb.size
  have HRf2 := Lib.hid (HRf0.out.below HB2.out (Nat.le_refl _))
  have HKf2 := Lib.hid ((hb.block _ (lt_of_block HKf1.out)).trans HKf1.out)
  clear hb
  have HOo2 := Lib.hid (Ow.mk' ho0)
  clear ho0
  refine (l2Std_any up lo _ rs _ HRf2.out false ⟨fun h => (by cases h), fun h => absurd h HSS.out⟩).mono ?_
  rintro e w3 ⟨rfl, hb⟩
  have HB3 : Hid (Below w.heap.size w w3) := Lib.hid (HB2.out.trans (hb.mono HB2.out.size))
  have HZ3 : Hid (w2.heap.size ≤ w3.heap.size) := Lib.hid hb.size
  have HRf3 := Lib.hid (HRf0.out.below HB3.out (Nat.le_refl _))
  have HKf3 := Lib.hid ((hb.block _ (lt_of_block HKf2.out)).trans HKf2.out)
  have HOo3 := Lib.hid (HOo2.out.next hb)
  clear hb
  clear cf0 cf1 cf2 ff0 ff1 ff2 ltf
  have ltf := lt_of_block HKf3.out
  obtain ⟨cf0, cf1, cf2, ff0, ff1, ff2⟩ := cell3 HKf3.out
  go_wp2_with fail
  go_ret2
  exact ⟨⟨_, rfl, RowsR.of_own (ps := ([] : List Int)) inC_len HOo3.out.1⟩, HB3.out⟩
set_option maxRecDepth 100000 in
set_option maxHeartbeats 1600000 in
theorem speCountDown_step (up lo : Int) (sv : Value) (rs : List (Int × Int)) (m : Int) (w : World) (h : RodsR w sv rs) (hs : goodF up lo rs ∧ stdF rs) (h1 : m < 1) :
    Calls Try.prog 31 #[.agg #[.int .i64 up, .int .i64 lo, sv], .int .i64 m] w fun e w' => (∃ sq, e = .returned (.tuple #[sq, .bool false]) ∧ RowsR 1 inC w' sq ([] : List Int)) ∧ Below w.heap.size w w' := by
  obtain ⟨a, cp, rfl⟩ : ∃ a c, sv = .slice a rs.length c := by obtain ⟨a, c, e, _⟩ := h; exact ⟨a, c, e⟩
  have hm : rs.length ≤ 9223372036854775807 := by obtain ⟨_, _, _, ⟨m, _⟩, _⟩ := h; exact m
  have HSS := Lib.hid hs
  clear hs
  have HB0 : Hid (Below w.heap.size w w) := Lib.hid (Below.refl _ _)
  have HRf0 := Lib.hid (h)
  clear h
  go_enter Try.func31, Try.ntmps31
  go_wp2_with fail
  have hb : Below w.heap.size w (w.alloc (.cells #[.int .i64 up, .int .i64 lo, .slice a rs.length cp] 26)) := (Below.refl _ _).alloc (Nat.le_refl _) _
  have hk : (w.alloc (.cells #[.int .i64 up, .int .i64 lo, .slice a rs.length cp] 26)).heap[w.heap.size]? = some (.cells #[.int .i64 up, .int .i64 lo, .slice a rs.length cp] 26 (0, 0)) := alloc_at rfl
  have hz : (w.alloc (.cells #[.int .i64 up, .int .i64 lo, .slice a rs.length cp] 26)).heap.size = w.heap.size + 1 := by simp
  generalize w.alloc (.cells #[.int .i64 up, .int .i64 lo, .slice a rs.length cp] 26) = w1 at hb hk hz ⊢
  have HB1 : Hid (Below w.heap.size w w1) := Lib.hid (HB0.out.trans (hb.mono HB0.out.size))
  have HZ1 : Hid (w.heap.size ≤ w1.heap.size) := Lib.hid hb.size
  have HRf1 := Lib.hid (HRf0.out.below HB1.out (Nat.le_refl _))
  have HKf1 := Lib.hid hk
  replace HZ1 : Hid (w.heap.size < w1.heap.size) := Lib.hid (by omega)
  have HE1 := Lib.hid hz
  clear hb hk hz
  have ltf := lt_of_block HKf1.out
  obtain ⟨cf0, cf1, cf2, ff0, ff1, ff2⟩ := cell3 HKf1.out
  have ho0 : (w1.alloc (.cells #[] 3)).ownsRow w1.heap.size 3 1 (.slice (some ⟨w.heap.size + 1, 0, none⟩) 0 0) 0 [] := by
    rw [← HE1.out]; exact World.ownsRow_made _ _ _ (Nat.le_refl _) (Nat.zero_le _) (by simp)
  have hb : Below w1.heap.size w1 (w1.alloc (.cells #[] 3)) := (Below.refl _ _).alloc (Nat.le_refl _) _
  generalize w1.alloc (.cells #[] 3) = w2 at hb ho0 ⊢
  skip
  have HB2 : Hid (Below w.heap.size w w2) := Lib.hid (HB1.out.trans (hb.mono HB1.out.size))
  have HZ2 : Hid (w1.heap.size ≤ w2.heap.size) := Lib.hid hb.size
  have HRf2 := Lib.hid (HRf0.out.below HB2.out (Nat.le_refl _))
  have HKf2 := Lib.hid ((hb.block _ (lt_of_block HKf1.out)).trans HKf1.out)
  clear hb
  have HOo2 := Lib.hid (Ow.mk' ho0)
  clear ho0
  refine (l2Std_any up lo _ rs _ HRf2.out true ⟨fun _ => HSS.out, fun _ => rfl⟩).mono ?_
  rintro e w3 ⟨rfl, hb⟩
  have HB3 : Hid (Below w.heap.size w w3) := Lib.hid (HB2.out.trans (hb.mono HB2.out.size))
  have HZ3 : Hid (w2.heap.size ≤ w3.heap.size) := Lib.hid hb.size
  have HRf3 := Lib.hid (HRf0.out.below HB3.out (Nat.le_refl _))
  have HKf3 := Lib.hid ((hb.block _ (lt_of_block HKf2.out)).trans HKf2.out)
  have HOo3 := Lib.hid (HOo2.out.next hb)
  clear hb
  clear cf0 cf1 cf2 ff0 ff1 ff2 ltf
  have ltf := lt_of_block HKf3.out
  obtain ⟨cf0, cf1, cf2, ff0, ff1, ff2⟩ := cell3 HKf3.out
  go_wp2_with fail
  go_ret2
  exact ⟨⟨_, rfl, RowsR.of_own (ps := ([] : List Int)) inC_len HOo3.out.1⟩, HB3.out⟩
theorem speCountDown_bad (up lo : Int) (sv : Value) (rs : List (Int × Int)) (m : Int) (w : World) (h : RodsR w sv rs) (hc : ¬ canH up lo rs m) :
    Calls Try.prog 31 #[.agg #[.int .i64 up, .int .i64 lo, sv], .int .i64 m] w fun e w' => (∃ sq, e = .returned (.tuple #[sq, .bool false]) ∧ RowsR 1 inC w' sq ([] : List Int)) ∧ Below w.heap.size w w' := by
  by_cases hs : goodF up lo rs ∧ stdF rs
  · exact speCountDown_step up lo sv rs m w h hs (by rcases Int.lt_or_le m 1 with h' | h'; exact h'; exact absurd ⟨hs.1, hs.2, h'⟩ hc)
  · exact speCountDown_std up lo sv rs m w h hs

set_option maxRecDepth 100000 in
set_option maxHeartbeats 1600000 in
theorem speCountDown_long (up lo : Int) (sv : Value) (rs : List (Int × Int)) (m : Int) (w : World) (h : RodsR w sv rs) (hc : canH up lo rs m) (hl : ¬ numF rs / m ≤ 50) :
    Calls Try.prog 31 #[.agg #[.int .i64 up, .int .i64 lo, sv], .int .i64 m] w fun e w' => (∃ sq, e = .returned (.tuple #[sq, .bool false]) ∧ RowsR 1 inC w' sq ([] : List Int)) ∧ Below w.heap.size w w' := by
  obtain ⟨a, cp, rfl⟩ : ∃ a c, sv = .slice a rs.length c := by obtain ⟨a, c, e, _⟩ := h; exact ⟨a, c, e⟩
  have hm : rs.length ≤ 9223372036854775807 := by obtain ⟨_, _, _, ⟨m, _⟩, _⟩ := h; exact m
  have h1 := hc.2.2
  have HSS : Hid (goodF up lo rs ∧ stdF rs) := Lib.hid ⟨hc.1, hc.2.1⟩
  have hlt1 : decide (m < 1) = false := decide_eq_false (by omega)
  obtain ⟨N, hN⟩ : ∃ N, N = numF rs := ⟨_, rfl⟩
  have hnb := numF_top up lo rs hc.1
  rw [← hN] at hnb
  have HNN := Lib.hid hN
  have y3 : (m == 0) = false := beq_eq_false_iff_ne.2 (by omega)
  have y4 : m ≠ 0 := by omega
  have hdb : 0 ≤ N / m ∧ N / m ≤ N := ⟨Int.ediv_nonneg hnb.1 (by omega), Int.ediv_le_self _ hnb.1⟩
  obtain ⟨T, hT⟩ : ∃ T, IntKind.i64.wrap (N.tdiv m) = T := ⟨_, rfl⟩
  have hTe : T = N / m := by rw [← hT, Int.tdiv_eq_ediv_of_nonneg hnb.1, IntKind.wrap_i64]; omega
  have HTE := Lib.hid hTe
  have hTb : 0 ≤ T ∧ T ≤ 200000000 := by omega
  clear hdb
  rw [← hN, ← hTe] at hl
  have hd : decide (50 < T) = true := decide_eq_true (by omega)
  clear hc hN hTe h1 hl
  have HB0 : Hid (Below w.heap.size w w) := Lib.hid (Below.refl _ _)
  have HRf0 := Lib.hid (h)
  clear h
  go_enter Try.func31, Try.ntmps31
  go_wp2_with fail
  have hb : Below w.heap.size w (w.alloc (.cells #[.int .i64 up, .int .i64 lo, .slice a rs.length cp] 26)) := (Below.refl _ _).alloc (Nat.le_refl _) _
  have hk : (w.alloc (.cells #[.int .i64 up, .int .i64 lo, .slice a rs.length cp] 26)).heap[w.heap.size]? = some (.cells #[.int .i64 up, .int .i64 lo, .slice a rs.length cp] 26 (0, 0)) := alloc_at rfl
  have hz : (w.alloc (.cells #[.int .i64 up, .int .i64 lo, .slice a rs.length cp] 26)).heap.size = w.heap.size + 1 := by simp
  generalize w.alloc (.cells #[.int .i64 up, .int .i64 lo, .slice a rs.length cp] 26) = w1 at hb hk hz ⊢
  have HB1 : Hid (Below w.heap.size w w1) := Lib.hid (HB0.out.trans (hb.mono HB0.out.size))
  have HZ1 : Hid (w.heap.size ≤ w1.heap.size) := Lib.hid hb.size
  have HRf1 := Lib.hid (HRf0.out.below HB1.out (Nat.le_refl _))
  have HKf1 := Lib.hid hk
  replace HZ1 : Hid (w.heap.size < w1.heap.size) := Lib.hid (by omega)
  have HE1 := Lib.hid hz
  clear hb hk hz
  have ltf := lt_of_block HKf1.out
  obtain ⟨cf0, cf1, cf2, ff0, ff1, ff2⟩ := cell3 HKf1.out
  have ho0 : (w1.alloc (.cells #[] 3)).ownsRow w1.heap.size 3 1 (.slice (some ⟨w.heap.size + 1, 0, none⟩) 0 0) 0 [] := by
    rw [← HE1.out]; exact World.ownsRow_made _ _ _ (Nat.le_refl _) (Nat.zero_le _) (by simp)
  have hb : Below w1.heap.size w1 (w1.alloc (.cells #[] 3)) := (Below.refl _ _).alloc (Nat.le_refl _) _
  generalize w1.alloc (.cells #[] 3) = w2 at hb ho0 ⊢
  skip
  have HB2 : Hid (Below w.heap.size w w2) := Lib.hid (HB1.out.trans (hb.mono HB1.out.size))
  have HZ2 : Hid (w1.heap.size ≤ w2.heap.size) := Lib.hid hb.size
  have HRf2 := Lib.hid (HRf0.out.below HB2.out (Nat.le_refl _))
  have HKf2 := Lib.hid ((hb.block _ (lt_of_block HKf1.out)).trans HKf1.out)
  clear hb
  have HOo2 := Lib.hid (Ow.mk' ho0)
  clear ho0
  refine (l2Std_any up lo _ rs _ HRf2.out true ⟨fun _ => HSS.out, fun _ => rfl⟩).mono ?_
  rintro e w3 ⟨rfl, hb⟩
  have HB3 : Hid (Below w.heap.size w w3) := Lib.hid (HB2.out.trans (hb.mono HB2.out.size))
  have HZ3 : Hid (w2.heap.size ≤ w3.heap.size) := Lib.hid hb.size
  have HRf3 := Lib.hid (HRf0.out.below HB3.out (Nat.le_refl _))
  have HKf3 := Lib.hid ((hb.block _ (lt_of_block HKf2.out)).trans HKf2.out)
  have HOo3 := Lib.hid (HOo2.out.next hb)
  clear hb
  clear cf0 cf1 cf2 ff0 ff1 ff2 ltf
  have ltf := lt_of_block HKf3.out
  obtain ⟨cf0, cf1, cf2, ff0, ff1, ff2⟩ := cell3 HKf3.out
  go_wp2_with fail
  refine (l2Number_good up lo _ rs _ HRf3.out HSS.out.1).mono ?_
  rintro e w4 ⟨rfl, hb⟩
  have HB4 : Hid (Below w.heap.size w w4) := Lib.hid (HB3.out.trans (hb.mono HB3.out.size))
  have HZ4 : Hid (w3.heap.size ≤ w4.heap.size) := Lib.hid hb.size
  have HRf4 := Lib.hid (HRf0.out.below HB4.out (Nat.le_refl _))
  have HKf4 := Lib.hid ((hb.block _ (lt_of_block HKf3.out)).trans HKf3.out)
  have HOo4 := Lib.hid (HOo3.out.next hb)
  clear hb
  rw [← HNN.out]
  clear cf0 cf1 cf2 ff0 ff1 ff2 ltf
  have ltf := lt_of_block HKf4.out
  obtain ⟨cf0, cf1, cf2, ff0, ff1, ff2⟩ := cell3 HKf4.out
  go_wp2_with fail
  go_ret2
  exact ⟨⟨_, rfl, RowsR.of_own (ps := ([] : List Int)) inC_len HOo4.out.1⟩, HB4.out⟩
set_option maxRecDepth 100000 in
set_option maxHeartbeats 3200000 in
theorem speCountDown_yes (up lo : Int) (sv : Value) (rs : List (Int × Int)) (m : Int) (w : World) (h : RodsR w sv rs) (hc : canH up lo rs m) (hmx : m ≤ 9223372036854775807) (k : Nat) (hk : numF rs / m = (k : Int)) (hl : k ≤ 50) :
    Calls Try.prog 31 #[.agg #[.int .i64 up, .int .i64 lo, sv], .int .i64 m] w fun e w' => (∃ sq, e = .returned (.tuple #[sq, .bool true]) ∧ RowsR 1 inC w' sq (cdL (numF rs) m k)) ∧ Below w.heap.size w w' := by
  obtain ⟨i0, hi, hz0, hz1, hz2⟩ := info_parts Try.infoI8
  obtain ⟨a, cp, rfl⟩ : ∃ a c, sv = .slice a rs.length c := by obtain ⟨a, c, e, _⟩ := h; exact ⟨a, c, e⟩
  have hm : rs.length ≤ 9223372036854775807 := by obtain ⟨_, _, _, ⟨m, _⟩, _⟩ := h; exact m
  have h1 := hc.2.2
  have HSS : Hid (goodF up lo rs ∧ stdF rs) := Lib.hid ⟨hc.1, hc.2.1⟩
  have hlt1 : decide (m < 1) = false := decide_eq_false (by omega)
  obtain ⟨N, hN⟩ : ∃ N, N = numF rs := ⟨_, rfl⟩
  have hnb := numF_top up lo rs hc.1
  rw [← hN] at hnb
  have HNN := Lib.hid hN
  have y3 : (m == 0) = false := beq_eq_false_iff_ne.2 (by omega)
  have y4 : m ≠ 0 := by omega
  have hdb : 0 ≤ N / m ∧ N / m ≤ N := ⟨Int.ediv_nonneg hnb.1 (by omega), Int.ediv_le_self _ hnb.1⟩
  obtain ⟨T, hT⟩ : ∃ T, IntKind.i64.wrap (N.tdiv m) = T := ⟨_, rfl⟩
  have hTe : T = N / m := by rw [← hT, Int.tdiv_eq_ediv_of_nonneg hnb.1, IntKind.wrap_i64]; omega
  have HTE := Lib.hid hTe
  have hTb : 0 ≤ T ∧ T ≤ 200000000 := by omega
  clear hdb
  have hd : decide (50 < T) = false := decide_eq_false (by rw [hTe, hN, hk]; omega)
  have HM := Lib.hid h1
  have HMB2 := Lib.hid hmx
  have HCD := fun j => cd_le (N := N) h1 j
  rw [hN, hk] at HCD
  rw [← hN] at HCD ⊢
  have HJ := Lib.hid HCD
  have HMB : Hid (-9223372036854775808 ≤ N - m) := Lib.hid (by omega)
  have hwm : IntKind.i64.wrap (N - m) = N - m := by rw [IntKind.wrap_i64]; have := HMB.out; omega
  clear hc hN hTe hk HCD
  have HB0 : Hid (Below w.heap.size w w) := Lib.hid (Below.refl _ _)
  have HRf0 := Lib.hid (h)
  clear h
  go_enter Try.func31, Try.ntmps31
  go_wp2_with fail
  have hb : Below w.heap.size w (w.alloc (.cells #[.int .i64 up, .int .i64 lo, .slice a rs.length cp] 26)) := (Below.refl _ _).alloc (Nat.le_refl _) _
  have hk : (w.alloc (.cells #[.int .i64 up, .int .i64 lo, .slice a rs.length cp] 26)).heap[w.heap.size]? = some (.cells #[.int .i64 up, .int .i64 lo, .slice a rs.length cp] 26 (0, 0)) := alloc_at rfl
  have hz : (w.alloc (.cells #[.int .i64 up, .int .i64 lo, .slice a rs.length cp] 26)).heap.size = w.heap.size + 1 := by simp
  generalize w.alloc (.cells #[.int .i64 up, .int .i64 lo, .slice a rs.length cp] 26) = w1 at hb hk hz ⊢
  have HB1 : Hid (Below w.heap.size w w1) := Lib.hid (HB0.out.trans (hb.mono HB0.out.size))
  have HZ1 : Hid (w.heap.size ≤ w1.heap.size) := Lib.hid hb.size
  have HRf1 := Lib.hid (HRf0.out.below HB1.out (Nat.le_refl _))
  have HKf1 := Lib.hid hk
  replace HZ1 : Hid (w.heap.size < w1.heap.size) := Lib.hid (by omega)
  have HE1 := Lib.hid hz
  clear hb hk hz
  have ltf := lt_of_block HKf1.out
  obtain ⟨cf0, cf1, cf2, ff0, ff1, ff2⟩ := cell3 HKf1.out
  have ho0 : (w1.alloc (.cells #[] 3)).ownsRow w1.heap.size 3 1 (.slice (some ⟨w.heap.size + 1, 0, none⟩) 0 0) 0 [] := by
    rw [← HE1.out]; exact World.ownsRow_made _ _ _ (Nat.le_refl _) (Nat.zero_le _) (by simp)
  have hb : Below w1.heap.size w1 (w1.alloc (.cells #[] 3)) := (Below.refl _ _).alloc (Nat.le_refl _) _
  generalize w1.alloc (.cells #[] 3) = w2 at hb ho0 ⊢
  skip
  have HB2 : Hid (Below w.heap.size w w2) := Lib.hid (HB1.out.trans (hb.mono HB1.out.size))
  have HZ2 : Hid (w1.heap.size ≤ w2.heap.size) := Lib.hid hb.size
  have HRf2 := Lib.hid (HRf0.out.below HB2.out (Nat.le_refl _))
  have HKf2 := Lib.hid ((hb.block _ (lt_of_block HKf1.out)).trans HKf1.out)
  clear hb
  have HOo2 := Lib.hid (Ow.mk' ho0)
  clear ho0
  refine (l2Std_any up lo _ rs _ HRf2.out true ⟨fun _ => HSS.out, fun _ => rfl⟩).mono ?_
  rintro e w3 ⟨rfl, hb⟩
  have HB3 : Hid (Below w.heap.size w w3) := Lib.hid (HB2.out.trans (hb.mono HB2.out.size))
  have HZ3 : Hid (w2.heap.size ≤ w3.heap.size) := Lib.hid hb.size
  have HRf3 := Lib.hid (HRf0.out.below HB3.out (Nat.le_refl _))
  have HKf3 := Lib.hid ((hb.block _ (lt_of_block HKf2.out)).trans HKf2.out)
  have HOo3 := Lib.hid (HOo2.out.next hb)
  clear hb
  clear cf0 cf1 cf2 ff0 ff1 ff2 ltf
  have ltf := lt_of_block HKf3.out
  obtain ⟨cf0, cf1, cf2, ff0, ff1, ff2⟩ := cell3 HKf3.out
  go_wp2_with fail
  refine (l2Number_good up lo _ rs _ HRf3.out HSS.out.1).mono ?_
  rintro e w4 ⟨rfl, hb⟩
  have HB4 : Hid (Below w.heap.size w w4) := Lib.hid (HB3.out.trans (hb.mono HB3.out.size))
  have HZ4 : Hid (w3.heap.size ≤ w4.heap.size) := Lib.hid hb.size
  have HRf4 := Lib.hid (HRf0.out.below HB4.out (Nat.le_refl _))
  have HKf4 := Lib.hid ((hb.block _ (lt_of_block HKf3.out)).trans HKf3.out)
  have HOo4 := Lib.hid (HOo3.out.next hb)
  clear hb
  rw [← HNN.out]
  clear cf0 cf1 cf2 ff0 ff1 ff2 ltf
  have ltf := lt_of_block HKf4.out
  obtain ⟨cf0, cf1, cf2, ff0, ff1, ff2⟩ := cell3 HKf4.out
  go_wp2_with fail
  refine (l2Number_good up lo _ rs _ HRf4.out HSS.out.1).mono ?_
  rintro e w5 ⟨rfl, hb⟩
  have HB5 : Hid (Below w.heap.size w w5) := Lib.hid (HB4.out.trans (hb.mono HB4.out.size))
  have HZ5 : Hid (w4.heap.size ≤ w5.heap.size) := Lib.hid hb.size
  have HRf5 := Lib.hid (HRf0.out.below HB5.out (Nat.le_refl _))
  have HKf5 := Lib.hid ((hb.block _ (lt_of_block HKf4.out)).trans HKf4.out)
  have HOo5 := Lib.hid (HOo4.out.next hb)
  clear hb
  rw [← HNN.out]
  have HOO := Lib.hid HOo5.out.1
  have HBB := Lib.hid HB5.out
  have HD0 : Hid (w.heap.size ≤ w1.heap.size) := Lib.hid HB1.out.size
  have HLE : Hid (w1.heap.size ≤ w5.heap.size) := Lib.hid (by have := HZ1.out; have := HZ2.out; have := HZ3.out; have := HZ4.out; have := HZ5.out;  omega)
  clear cf0 cf1 cf2 ff0 ff1 ff2 ltf
  have ltf := lt_of_block HKf5.out
  obtain ⟨cf0, cf1, cf2, ff0, ff1, ff2⟩ := cell3 HKf5.out
  go_wp2_with fail
  go_loopw [6, 7] (fun ov nv wr => ∃ (j : Nat) (y : Int) (g c : Nat), j ≤ k ∧ ov = .slice (some ⟨g, 0, none⟩) j c ∧ nv = .int .i64 y ∧ Hid (y = N - ((j : Int) + 1) * m) ∧ wr.ownsRow w1.heap.size 3 1 (.slice (some ⟨g, 0, none⟩) j c) j (flatC inC (cdL N m j)) ∧ Below w.heap.size w wr ∧ w1.heap.size ≤ wr.heap.size) (fun _ nv _ => (intOf nv + m).toNat)
  case atStart => exact ⟨0, N - m, _, 0, Nat.zero_le _, rfl, by first | rfl | rw [hwm], Lib.hid (by simp), HOO.out, HBB.out, HLE.out⟩
  case round =>
    obtain ⟨j, y, g, c, hjk, rfl, rfl, HY, hown, hb, hsz⟩ := hrel
    have HO := Lib.hid hown
    have HB := Lib.hid hb
    have HSZ := Lib.hid hsz
    have hll := cdL_len N m j
    have hjy : j < k ↔ 0 ≤ y := by
      have h1 := HJ.out (j + 1)
      rw [Int.natCast_add, Int.natCast_one, ← HY.out] at h1
      omega
    have hyb : y ≤ 200000000 := by
      have h5 : 0 ≤ ((j : Int) + 1) * m := Int.mul_nonneg (by omega) (by have := HM.out; omega)
      have := HY.out; omega
    by_cases hlt : j < k
    · have hy0 : 0 ≤ y := hjy.1 hlt
      have hm1 := HM.out
      have hwy : IntKind.i64.wrap (y - m) = y - m := by rw [IntKind.wrap_i64]; have := HMB2.out; omega
      have HY2 : Hid (y - m = N - (((j + 1 : Nat) : Int) + 1) * m) := Lib.hid (by rw [HY.out, Int.add_mul, Int.add_mul, Int.natCast_add, Int.add_mul]; simp; omega)
      clear hown hb hsz hjy
      go_wp2_with (at_builtin; refine wpList_append_own _ rfl _ _ 45 rfl w1.heap.size 3 i0 (.int .i64 0) 1 8 Try.underlying45 hi hz0 hz1 hz2 rfl (by decide) _ _ _ rfl (HO.out.alloc _) ⟨wr.heap.size, 0, none⟩ 1 1 [.int .i64 y] rfl rfl ?c1 ?c2 ?c3 ?c4 ?c5 ?_)
      try (case c1 => exact cell_one_new _ _ _)
      case c2 => first | rfl | (intro u hu; rw [List.mem_singleton.1 hu]; rfl)
      case c3 => first | (unfold maxLen; omega) | omega
      case c4 => omega
      case c5 => have := HSZ.out; simp; omega
      intro v' w3 hown3 hgrow3 _
      obtain ⟨g3, k3, rfl⟩ := own_block hown3 (by omega)
      have HO3 : Hid (w3.ownsRow w1.heap.size 3 1 (.slice (some ⟨g3, 0, none⟩) (j + 1) k3) (j + 1) (flatC inC (cdL N m (j + 1)))) := Lib.hid (by rw [cdL_snoc, ← HY.out, flatC_app]; simpa [flatC, inC] using hown3)
      have HB3 : Hid (Below w.heap.size w w3) := Lib.hid ((HB.out.alloc HB.out.size _).grown hgrow3 (by have := HSZ.out; have := HD0.out; simp; omega) (fun q hq => by have := (HO.out.lt q hq).1; have := HD0.out; omega))
      have HSZ3 : Hid (w1.heap.size ≤ w3.heap.size) := Lib.hid (by have h1 := hgrow3.size; have := HSZ.out; simp at h1; omega)
      clear hown3 hgrow3
      go_wp2_with fail
      go_roundw
      case rel => exact ⟨j + 1, y - m, g3, k3, by omega, rfl, by first | rfl | rw [hwy], HY2, HO3.out, HB3.out, HSZ3.out⟩
      case measure => simp [intOf]; omega
    · obtain rfl : j = k := by omega
      have hy0 : y < 0 := by omega
      have HR : Hid (RowsR 1 inC wr (.slice (some ⟨g, 0, none⟩) j c) (cdL N m j)) := Lib.hid (by have := RowsR.of_own (ps := cdL N m j) inC_len (w := wr) (B := w1.heap.size) (e := 3) (v := .slice (some ⟨g, 0, none⟩) j c) (by rw [hll]; exact hown); exact this)
      clear hown hb hsz hjy
      go_wp2_with fail
      go_ret2
      exact ⟨⟨_, rfl, HR.out⟩, HB.out⟩
end Go.Proofs.Ytjkjaadcdolbhaa
