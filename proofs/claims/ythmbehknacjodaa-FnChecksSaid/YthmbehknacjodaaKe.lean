/- Parts laid as one: Ado, Adod. -/
import Derived.Test.YthmbehknacjodaaAdd
import Derived.Test.YthmbehknacjodaaKd
import Derived.Test.YthmbehknacjodaaKl
import Derived.Test.YthmbehknacjodaaCon
import Derived.Test.YthmbehknacjodaaSet
import Derived.Test.YthmbehknacjodaaMade
/-! Ado -/
namespace Go.Proofs.Ythmbehknacjodaa
set_option linter.unusedVariables false
open Go.RowKit

theorem courseI_any (up lo : Int) (rs : List (Int × Int)) : ∃ (u0 l0 : Int) (st : Bool), (st = true ↔ goodF up lo rs ∧ stdF rs) ∧ ∀ sv w, RodsR w sv rs → Calls Try.prog 118 #[.agg #[.int .i64 up, .int .i64 lo, sv]] w fun e w' => (∃ p0 n0 k0 p1 n1 k1, e = .returned (.tuple #[.agg #[.int .i64 u0, .int .i64 l0, .slice p0 n0 k0, .slice p1 n1 k1], .bool st])) ∧ Below w.heap.size w w' := by
  by_cases hg : goodF up lo rs ∧ stdF rs
  · exact ⟨up, lo, true, by simp [hg], fun sv w h => (courseOn_yes up lo sv rs w h hg.1 hg.2).mono fun _ _ ⟨⟨_, _, _, e, _, _⟩, hb⟩ => ⟨⟨_, _, _, _, _, _, e⟩, hb⟩⟩
  · exact ⟨0, 0, false, by simp [hg], fun sv w h => (courseOn_no up lo sv rs w h hg).mono fun _ _ ⟨e, hb⟩ => ⟨⟨_, _, _, _, _, _, e⟩, hb⟩⟩

set_option maxRecDepth 100000 in
set_option maxHeartbeats 3200000 in
theorem adOf_no (up lo : Int) (sv : Value) (rs : List (Int × Int)) (m : Int) (w : World) (h : RodsR w sv rs) (hb : -9223372036854775808 ≤ m ∧ m ≤ 9223372036854775807) (hc : ¬ canF up lo rs m) :
    Calls Try.prog 81 #[.agg #[.int .i64 up, .int .i64 lo, sv], .int .i64 m] w fun e w' => e = .returned (.tuple #[.agg #[.int .i64 0, .int .i64 0, .slice none 0 0, .slice none 0 0, .int .i64 0, .int .i64 0, .int .i64 0, .int .i64 0, .int .i64 0], .bool false]) ∧ Below w.heap.size w w' := by
  obtain ⟨a, cp, rfl⟩ : ∃ a c, sv = .slice a rs.length c := by obtain ⟨a, c, e, _⟩ := h; exact ⟨a, c, e⟩
  have hm : rs.length ≤ 9223372036854775807 := by obtain ⟨_, _, _, ⟨m, _⟩, _⟩ := h; exact m
  obtain ⟨u0, l0, st, hst, hS⟩ := courseI_any up lo rs
  obtain ⟨sn, t1, hsn, hsb, hN⟩ := numI_any up lo rs
  obtain ⟨y, hy⟩ : ∃ y, y = IntKind.i64.wrap (sn + m) := ⟨_, rfl⟩
  have hyb : y ≤ 9223372036854775807 := by rw [hy, IntKind.wrap_i64]; omega
  obtain ⟨f1, l1, q1, ok1, ho1, hq1, -, hl1, hF1⟩ := forI_any up lo rs.length m hb.2
  obtain ⟨f2, l2, q2, ok2, ho2, hq2, -, hl2, hF2⟩ := forI_any up lo rs.length y hyb
  have hno : st = false ∨ ok1 = false ∨ ok2 = false := by
    cases st with
    | false => exact Or.inl rfl
    | true =>
      cases ok1 with
      | false => exact Or.inr (Or.inl rfl)
      | true =>
        cases ok2 with
        | false => exact Or.inr (Or.inr rfl)
        | true =>
          obtain ⟨g1, g2⟩ := hst.1 rfl
          have g3 := ho1.1 rfl
          have g4 := ho2.1 rfl
          obtain ⟨rfl, _⟩ := hsn g1
          have hn8 := g1.2.2.2
          have g5 := g3.2.2.2
          have g6 := g4.2.2.2
          rw [Int.toNat_natCast] at g5 g6
          have := pow_bd rs.length (by omega)
          have e : y = numF rs + m := by rw [hy, IntKind.wrap_i64]; omega
          rw [e] at g6
          exact absurd ⟨g1, g2, g5.1, by omega, by omega⟩ hc
  clear hc
  have HS := Lib.hid hS
  have HN := Lib.hid hN
  have HF1 := Lib.hid hF1
  have HF2 := Lib.hid hF2
  have hw1 : IntKind.i64.wrap (sn + m) = y := hy.symm
  have hw2 : wrap64 (sn + m) = y := by rw [hy, IntKind.wrap_i64]; unfold wrap64; omega
  have HB0 : Hid (Below w.heap.size w w) := Lib.hid (Below.refl _ _)
  have HRf0 := Lib.hid (h)
  clear h hS hN hF1 hF2 hst hsn hb hsb hy hyb ho1 hq1 ho2 hq2
  go_enter Try.func81, Try.ntmps81
  go_wp2_with fail
  have hb : Below w.heap.size w (w.alloc (.cells #[.int .i64 up, .int .i64 lo, .slice a rs.length cp] 42)) := (Below.refl _ _).alloc (Nat.le_refl _) _
  have hk : (w.alloc (.cells #[.int .i64 up, .int .i64 lo, .slice a rs.length cp] 42)).heap[w.heap.size]? = some (.cells #[.int .i64 up, .int .i64 lo, .slice a rs.length cp] 42 (0, 0)) := alloc_at rfl
  have hz : (w.alloc (.cells #[.int .i64 up, .int .i64 lo, .slice a rs.length cp] 42)).heap.size = w.heap.size + 1 := by simp
  generalize w.alloc (.cells #[.int .i64 up, .int .i64 lo, .slice a rs.length cp] 42) = w1 at hb hk hz ⊢
  have HB1 : Hid (Below w.heap.size w w1) := Lib.hid (HB0.out.trans (hb.mono HB0.out.size))
  have HZ1 : Hid (w.heap.size ≤ w1.heap.size) := Lib.hid hb.size
  have HRf1 := Lib.hid (HRf0.out.below HB1.out (Nat.le_refl _))
  have HKf1 := Lib.hid hk
  replace HZ1 : Hid (w.heap.size < w1.heap.size) := Lib.hid (by omega)
  have HE1 := Lib.hid hz
  clear hb hk hz
  have hb : Below w1.heap.size w1 (w1.alloc (.cells #[.int .i64 0, .int .i64 0, .slice none 0 0, .slice none 0 0, .int .i64 0, .int .i64 0, .int .i64 0, .int .i64 0, .int .i64 0] 86)) := (Below.refl _ _).alloc (Nat.le_refl _) _
  have hk : (w1.alloc (.cells #[.int .i64 0, .int .i64 0, .slice none 0 0, .slice none 0 0, .int .i64 0, .int .i64 0, .int .i64 0, .int .i64 0, .int .i64 0] 86)).heap[w.heap.size + 1]? = some (.cells #[.int .i64 0, .int .i64 0, .slice none 0 0, .slice none 0 0, .int .i64 0, .int .i64 0, .int .i64 0, .int .i64 0, .int .i64 0] 86 (0, 0)) := alloc_at (by have := HE1.out; omega)
  have hz : (w1.alloc (.cells #[.int .i64 0, .int .i64 0, .slice none 0 0, .slice none 0 0, .int .i64 0, .int .i64 0, .int .i64 0, .int .i64 0, .int .i64 0] 86)).heap.size = w1.heap.size + 1 := by simp
  generalize w1.alloc (.cells #[.int .i64 0, .int .i64 0, .slice none 0 0, .slice none 0 0, .int .i64 0, .int .i64 0, .int .i64 0, .int .i64 0, .int .i64 0] 86) = w2 at hb hk hz ⊢
  have HB2 : Hid (Below w.heap.size w w2) := Lib.hid (HB1.out.trans (hb.mono HB1.out.size))
  have HZ2 : Hid (w1.heap.size ≤ w2.heap.size) := Lib.hid hb.size
  have HRf2 := Lib.hid (HRf0.out.below HB2.out (Nat.le_refl _))
  have HKf2 := Lib.hid ((hb.block _ (lt_of_block HKf1.out)).trans HKf1.out)
  have HKz2 := Lib.hid hk
  replace HZ2 : Hid (w1.heap.size < w2.heap.size) := Lib.hid (by omega)
  have HE2 := Lib.hid hz
  clear hb hk hz
  have ltf := lt_of_block HKf2.out
  obtain ⟨cf0, cf1, cf2, ff0, ff1, ff2⟩ := cell3 HKf2.out
  have ltz := lt_of_block HKz2.out
  obtain ⟨cz0, cz1, cz2, cz3, cz4, cz5, cz6, cz7, cz8, fz0, fz1, fz2, fz3, fz4, fz5, fz6, fz7, fz8⟩ := cell9 HKz2.out
  go_wp2_with fail
  refine (HS.out _ _ HRf2.out).mono ?_
  rintro e w3 ⟨⟨p0, n0, k0, p3, n3, k3, rfl⟩, hb⟩
  have HB3 : Hid (Below w.heap.size w w3) := Lib.hid (HB2.out.trans (hb.mono HB2.out.size))
  have HZ3 : Hid (w2.heap.size ≤ w3.heap.size) := Lib.hid hb.size
  have HRf3 := Lib.hid (HRf0.out.below HB3.out (Nat.le_refl _))
  have HKf3 := Lib.hid ((hb.block _ (lt_of_block HKf2.out)).trans HKf2.out)
  have HKz3 := Lib.hid ((hb.block _ (lt_of_block HKz2.out)).trans HKz2.out)
  clear hb
  clear cf0 cf1 cf2 ff0 ff1 ff2 ltf cz0 cz1 cz2 cz3 cz4 cz5 cz6 cz7 cz8 fz0 fz1 fz2 fz3 fz4 fz5 fz6 fz7 fz8 ltz
  have ltf := lt_of_block HKf3.out
  obtain ⟨cf0, cf1, cf2, ff0, ff1, ff2⟩ := cell3 HKf3.out
  have ltz := lt_of_block HKz3.out
  obtain ⟨cz0, cz1, cz2, cz3, cz4, cz5, cz6, cz7, cz8, fz0, fz1, fz2, fz3, fz4, fz5, fz6, fz7, fz8⟩ := cell9 HKz3.out
  go_wp2_with fail
  have hb : Below w3.heap.size w3 (w3.alloc (.cells #[.int .i64 u0, .int .i64 l0, .slice p0 n0 k0, .slice p3 n3 k3] 83)) := (Below.refl _ _).alloc (Nat.le_refl _) _
  have hk : (w3.alloc (.cells #[.int .i64 u0, .int .i64 l0, .slice p0 n0 k0, .slice p3 n3 k3] 83)).heap[w3.heap.size]? = some (.cells #[.int .i64 u0, .int .i64 l0, .slice p0 n0 k0, .slice p3 n3 k3] 83 (0, 0)) := alloc_at rfl
  have hz : (w3.alloc (.cells #[.int .i64 u0, .int .i64 l0, .slice p0 n0 k0, .slice p3 n3 k3] 83)).heap.size = w3.heap.size + 1 := by simp
  generalize w3.alloc (.cells #[.int .i64 u0, .int .i64 l0, .slice p0 n0 k0, .slice p3 n3 k3] 83) = w4 at hb hk hz ⊢
  have HB4 : Hid (Below w.heap.size w w4) := Lib.hid (HB3.out.trans (hb.mono HB3.out.size))
  have HZ4 : Hid (w3.heap.size ≤ w4.heap.size) := Lib.hid hb.size
  have HRf4 := Lib.hid (HRf0.out.below HB4.out (Nat.le_refl _))
  have HKf4 := Lib.hid ((hb.block _ (lt_of_block HKf3.out)).trans HKf3.out)
  have HKz4 := Lib.hid ((hb.block _ (lt_of_block HKz3.out)).trans HKz3.out)
  have HKs4 := Lib.hid hk
  replace HZ4 : Hid (w3.heap.size < w4.heap.size) := Lib.hid (by omega)
  have HE4 := Lib.hid hz
  clear hb hk hz
  refine (HN.out _ _ HRf4.out).mono ?_
  rintro e w5 ⟨rfl, hb⟩
  have HB5 : Hid (Below w.heap.size w w5) := Lib.hid (HB4.out.trans (hb.mono HB4.out.size))
  have HZ5 : Hid (w4.heap.size ≤ w5.heap.size) := Lib.hid hb.size
  have HRf5 := Lib.hid (HRf0.out.below HB5.out (Nat.le_refl _))
  have HKf5 := Lib.hid ((hb.block _ (lt_of_block HKf4.out)).trans HKf4.out)
  have HKz5 := Lib.hid ((hb.block _ (lt_of_block HKz4.out)).trans HKz4.out)
  have HKs5 := Lib.hid ((hb.block _ (lt_of_block HKs4.out)).trans HKs4.out)
  clear hb
  clear cf0 cf1 cf2 ff0 ff1 ff2 ltf cz0 cz1 cz2 cz3 cz4 cz5 cz6 cz7 cz8 fz0 fz1 fz2 fz3 fz4 fz5 fz6 fz7 fz8 ltz
  have ltf := lt_of_block HKf5.out
  obtain ⟨cf0, cf1, cf2, ff0, ff1, ff2⟩ := cell3 HKf5.out
  have ltz := lt_of_block HKz5.out
  obtain ⟨cz0, cz1, cz2, cz3, cz4, cz5, cz6, cz7, cz8, fz0, fz1, fz2, fz3, fz4, fz5, fz6, fz7, fz8⟩ := cell9 HKz5.out
  have lts := lt_of_block HKs5.out
  obtain ⟨cs0, cs1, cs2, cs3, fs0, fs1, fs2, fs3⟩ := cell4 HKs5.out
  go_wp2_with fail
  refine (HF1.out _).mono ?_
  rintro e w6 ⟨⟨v1, rfl, oa⟩, hb⟩
  have HB6 : Hid (Below w.heap.size w w6) := Lib.hid (HB5.out.trans (hb.mono HB5.out.size))
  have HZ6 : Hid (w5.heap.size ≤ w6.heap.size) := Lib.hid hb.size
  have HRf6 := Lib.hid (HRf0.out.below HB6.out (Nat.le_refl _))
  have HKf6 := Lib.hid ((hb.block _ (lt_of_block HKf5.out)).trans HKf5.out)
  have HKz6 := Lib.hid ((hb.block _ (lt_of_block HKz5.out)).trans HKz5.out)
  have HKs6 := Lib.hid ((hb.block _ (lt_of_block HKs5.out)).trans HKs5.out)
  clear hb
  obtain ⟨p1, k1, rfl⟩ := own_form oa
  have HOa6 := Lib.hid (Ow.mk' oa)
  clear oa
  clear cf0 cf1 cf2 ff0 ff1 ff2 ltf cz0 cz1 cz2 cz3 cz4 cz5 cz6 cz7 cz8 fz0 fz1 fz2 fz3 fz4 fz5 fz6 fz7 fz8 ltz cs0 cs1 cs2 cs3 fs0 fs1 fs2 fs3 lts
  have ltf := lt_of_block HKf6.out
  obtain ⟨cf0, cf1, cf2, ff0, ff1, ff2⟩ := cell3 HKf6.out
  have ltz := lt_of_block HKz6.out
  obtain ⟨cz0, cz1, cz2, cz3, cz4, cz5, cz6, cz7, cz8, fz0, fz1, fz2, fz3, fz4, fz5, fz6, fz7, fz8⟩ := cell9 HKz6.out
  have lts := lt_of_block HKs6.out
  obtain ⟨cs0, cs1, cs2, cs3, fs0, fs1, fs2, fs3⟩ := cell4 HKs6.out
  go_wp2_with fail
  have hb : Below w6.heap.size w6 (w6.alloc (.cells #[.int .i64 f1, .int .i64 l1, .slice p1 q1.length k1] 42)) := (Below.refl _ _).alloc (Nat.le_refl _) _
  have hk : (w6.alloc (.cells #[.int .i64 f1, .int .i64 l1, .slice p1 q1.length k1] 42)).heap[w6.heap.size]? = some (.cells #[.int .i64 f1, .int .i64 l1, .slice p1 q1.length k1] 42 (0, 0)) := alloc_at rfl
  have hz : (w6.alloc (.cells #[.int .i64 f1, .int .i64 l1, .slice p1 q1.length k1] 42)).heap.size = w6.heap.size + 1 := by simp
  generalize w6.alloc (.cells #[.int .i64 f1, .int .i64 l1, .slice p1 q1.length k1] 42) = w7 at hb hk hz ⊢
  have HB7 : Hid (Below w.heap.size w w7) := Lib.hid (HB6.out.trans (hb.mono HB6.out.size))
  have HZ7 : Hid (w6.heap.size ≤ w7.heap.size) := Lib.hid hb.size
  have HRf7 := Lib.hid (HRf0.out.below HB7.out (Nat.le_refl _))
  have HKf7 := Lib.hid ((hb.block _ (lt_of_block HKf6.out)).trans HKf6.out)
  have HKz7 := Lib.hid ((hb.block _ (lt_of_block HKz6.out)).trans HKz6.out)
  have HKs7 := Lib.hid ((hb.block _ (lt_of_block HKs6.out)).trans HKs6.out)
  have HOa7 := Lib.hid (HOa6.out.next hb)
  have HKt7 := Lib.hid hk
  replace HZ7 : Hid (w6.heap.size < w7.heap.size) := Lib.hid (by omega)
  have HE7 := Lib.hid hz
  clear hb hk hz
  clear cf0 cf1 cf2 ff0 ff1 ff2 ltf cz0 cz1 cz2 cz3 cz4 cz5 cz6 cz7 cz8 fz0 fz1 fz2 fz3 fz4 fz5 fz6 fz7 fz8 ltz cs0 cs1 cs2 cs3 fs0 fs1 fs2 fs3 lts
  have ltf := lt_of_block HKf7.out
  obtain ⟨cf0, cf1, cf2, ff0, ff1, ff2⟩ := cell3 HKf7.out
  have ltz := lt_of_block HKz7.out
  obtain ⟨cz0, cz1, cz2, cz3, cz4, cz5, cz6, cz7, cz8, fz0, fz1, fz2, fz3, fz4, fz5, fz6, fz7, fz8⟩ := cell9 HKz7.out
  have lts := lt_of_block HKs7.out
  obtain ⟨cs0, cs1, cs2, cs3, fs0, fs1, fs2, fs3⟩ := cell4 HKs7.out
  have ltt := lt_of_block HKt7.out
  obtain ⟨ct0, ct1, ct2, ft0, ft1, ft2⟩ := cell3 HKt7.out
  go_wp2_with fail
  try simp only [hw1]
  try simp only [hw2]
  refine (HF2.out _).mono ?_
  rintro e w8 ⟨⟨v2, rfl, oa⟩, hb⟩
  have HB8 : Hid (Below w.heap.size w w8) := Lib.hid (HB7.out.trans (hb.mono HB7.out.size))
  have HZ8 : Hid (w7.heap.size ≤ w8.heap.size) := Lib.hid hb.size
  have HRf8 := Lib.hid (HRf0.out.below HB8.out (Nat.le_refl _))
  have HKf8 := Lib.hid ((hb.block _ (lt_of_block HKf7.out)).trans HKf7.out)
  have HKz8 := Lib.hid ((hb.block _ (lt_of_block HKz7.out)).trans HKz7.out)
  have HKs8 := Lib.hid ((hb.block _ (lt_of_block HKs7.out)).trans HKs7.out)
  have HOa8 := Lib.hid (HOa7.out.next hb)
  have HKt8 := Lib.hid ((hb.block _ (lt_of_block HKt7.out)).trans HKt7.out)
  clear hb
  obtain ⟨p2, k2, rfl⟩ := own_form oa
  clear oa
  clear hw1 hw2
  obtain ⟨w9, hW⟩ : ∃ W, w8.alloc (.cells #[.int .i64 f2, .int .i64 l2, .slice p2 q2.length k2] 42) = W := ⟨_, rfl⟩
  have hb : Below w8.heap.size w8 w9 := hW ▸ (Below.refl _ _).alloc (Nat.le_refl _) _
  have HB9 : Hid (Below w.heap.size w w9) := Lib.hid (HB8.out.trans (hb.mono HB8.out.size))
  have HZ9 : Hid (w8.heap.size ≤ w9.heap.size) := Lib.hid hb.size
  have HRf9 := Lib.hid (HRf0.out.below HB9.out (Nat.le_refl _))
  have HKf9 := Lib.hid ((hb.block _ (lt_of_block HKf8.out)).trans HKf8.out)
  have HKz9 := Lib.hid ((hb.block _ (lt_of_block HKz8.out)).trans HKz8.out)
  have HKs9 := Lib.hid ((hb.block _ (lt_of_block HKs8.out)).trans HKs8.out)
  have HOa9 := Lib.hid (HOa8.out.next hb)
  have HKt9 := Lib.hid ((hb.block _ (lt_of_block HKt8.out)).trans HKt8.out)
  clear hb
  cases st with
  | false =>
    clear cf0 cf1 cf2 ff0 ff1 ff2 ltf cz0 cz1 cz2 cz3 cz4 cz5 cz6 cz7 cz8 fz0 fz1 fz2 fz3 fz4 fz5 fz6 fz7 fz8 ltz cs0 cs1 cs2 cs3 fs0 fs1 fs2 fs3 lts ct0 ct1 ct2 ft0 ft1 ft2 ltt
    have ltf := lt_of_block HKf9.out
    obtain ⟨cf0, cf1, cf2, ff0, ff1, ff2⟩ := cell3 HKf9.out
    have ltz := lt_of_block HKz9.out
    obtain ⟨cz0, cz1, cz2, cz3, cz4, cz5, cz6, cz7, cz8, fz0, fz1, fz2, fz3, fz4, fz5, fz6, fz7, fz8⟩ := cell9 HKz9.out
    have lts := lt_of_block HKs9.out
    obtain ⟨cs0, cs1, cs2, cs3, fs0, fs1, fs2, fs3⟩ := cell4 HKs9.out
    have ltt := lt_of_block HKt9.out
    obtain ⟨ct0, ct1, ct2, ft0, ft1, ft2⟩ := cell3 HKt9.out
    go_wp2_with fail
    exact bodyPost_ret (v := .tuple #[.agg #[.int .i64 0, .int .i64 0, .slice none 0 0, .slice none 0 0, .int .i64 0, .int .i64 0, .int .i64 0, .int .i64 0, .int .i64 0], .bool false]) (by simp [results, Try.results81, go_sem, cz0, cz1, cz2, cz3, cz4, cz5, cz6, cz7, cz8]) rfl ⟨rfl, bl_set9 HB9.out (Nat.le_succ _) _ _ _ _ _ _ _ _ _⟩
  | true =>
    cases ok1 with
    | false =>
      clear cf0 cf1 cf2 ff0 ff1 ff2 ltf cz0 cz1 cz2 cz3 cz4 cz5 cz6 cz7 cz8 fz0 fz1 fz2 fz3 fz4 fz5 fz6 fz7 fz8 ltz cs0 cs1 cs2 cs3 fs0 fs1 fs2 fs3 lts ct0 ct1 ct2 ft0 ft1 ft2 ltt
      have ltf := lt_of_block HKf9.out
      obtain ⟨cf0, cf1, cf2, ff0, ff1, ff2⟩ := cell3 HKf9.out
      have ltz := lt_of_block HKz9.out
      obtain ⟨cz0, cz1, cz2, cz3, cz4, cz5, cz6, cz7, cz8, fz0, fz1, fz2, fz3, fz4, fz5, fz6, fz7, fz8⟩ := cell9 HKz9.out
      have lts := lt_of_block HKs9.out
      obtain ⟨cs0, cs1, cs2, cs3, fs0, fs1, fs2, fs3⟩ := cell4 HKs9.out
      have ltt := lt_of_block HKt9.out
      obtain ⟨ct0, ct1, ct2, ft0, ft1, ft2⟩ := cell3 HKt9.out
      go_wp2_with fail
      exact bodyPost_ret (v := .tuple #[.agg #[.int .i64 0, .int .i64 0, .slice none 0 0, .slice none 0 0, .int .i64 0, .int .i64 0, .int .i64 0, .int .i64 0, .int .i64 0], .bool false]) (by simp [results, Try.results81, go_sem, cz0, cz1, cz2, cz3, cz4, cz5, cz6, cz7, cz8]) rfl ⟨rfl, bl_set9 HB9.out (Nat.le_succ _) _ _ _ _ _ _ _ _ _⟩
    | true =>
      obtain rfl : ok2 = false := by simpa using hno
      clear cf0 cf1 cf2 ff0 ff1 ff2 ltf cz0 cz1 cz2 cz3 cz4 cz5 cz6 cz7 cz8 fz0 fz1 fz2 fz3 fz4 fz5 fz6 fz7 fz8 ltz cs0 cs1 cs2 cs3 fs0 fs1 fs2 fs3 lts ct0 ct1 ct2 ft0 ft1 ft2 ltt
      have ltf := lt_of_block HKf9.out
      obtain ⟨cf0, cf1, cf2, ff0, ff1, ff2⟩ := cell3 HKf9.out
      have ltz := lt_of_block HKz9.out
      obtain ⟨cz0, cz1, cz2, cz3, cz4, cz5, cz6, cz7, cz8, fz0, fz1, fz2, fz3, fz4, fz5, fz6, fz7, fz8⟩ := cell9 HKz9.out
      have lts := lt_of_block HKs9.out
      obtain ⟨cs0, cs1, cs2, cs3, fs0, fs1, fs2, fs3⟩ := cell4 HKs9.out
      have ltt := lt_of_block HKt9.out
      obtain ⟨ct0, ct1, ct2, ft0, ft1, ft2⟩ := cell3 HKt9.out
      go_wp2_with fail
      exact bodyPost_ret (v := .tuple #[.agg #[.int .i64 0, .int .i64 0, .slice none 0 0, .slice none 0 0, .int .i64 0, .int .i64 0, .int .i64 0, .int .i64 0, .int .i64 0], .bool false]) (by simp [results, Try.results81, go_sem, cz0, cz1, cz2, cz3, cz4, cz5, cz6, cz7, cz8]) rfl ⟨rfl, bl_set9 HB9.out (Nat.le_succ _) _ _ _ _ _ _ _ _ _⟩

set_option maxRecDepth 100000 in
set_option maxHeartbeats 800000 in
theorem adOf_yes (up lo : Int) (sv : Value) (rs : List (Int × Int)) (m : Int) (w : World) (h : RodsR w sv rs) (hc : canF up lo rs m) :
    Calls Try.prog 81 #[.agg #[.int .i64 up, .int .i64 lo, sv], .int .i64 m] w fun e w' => (∃ (s1 : Value) (g1 k1 : Nat) (j0 j1 j2 j3 : Int), e = .returned (.tuple #[.agg #[.int .i64 up, .int .i64 lo, s1, .slice (some ⟨g1, 0, none⟩) (goM 0 (digs rs.length m) rs).length k1, .int .i64 ((goC 0 (digs rs.length m) rs : Nat) : Int), .int .i64 j0, .int .i64 j1, .int .i64 j2, .int .i64 j3], .bool true]) ∧
      [j0, j1, j2, j3] = goK 0 (digs rs.length m) rs [0, 0, 0, 0] ∧ w'.ownsRow w.heap.size 77 2 s1 (goR 0 (digs rs.length m) rs).length (flat (goR 0 (digs rs.length m) rs)) ∧
      w'.ownsRow w.heap.size 138 3 (.slice (some ⟨g1, 0, none⟩) (goM 0 (digs rs.length m) rs).length k1) (goM 0 (digs rs.length m) rs).length (flatC mvC (goM 0 (digs rs.length m) rs))) ∧ Below w.heap.size w w' := by
  have hb : -9223372036854775808 ≤ m ∧ m ≤ 9223372036854775807 := by have := pow_bd rs.length hc.1.2.2.2.2; have := hc.2.2; omega
  obtain ⟨a, cp, rfl⟩ : ∃ a c, sv = .slice a rs.length c := by obtain ⟨a, c, e, _⟩ := h; exact ⟨a, c, e⟩
  have hm : rs.length ≤ 9223372036854775807 := by obtain ⟨_, _, _, ⟨m, _⟩, _⟩ := h; exact m
  obtain ⟨u0, l0, st, hst, hS⟩ := courseI_any up lo rs
  obtain ⟨sn, t1, hsn, hsb, hN⟩ := numI_any up lo rs
  obtain ⟨y, hy⟩ : ∃ y, y = IntKind.i64.wrap (sn + m) := ⟨_, rfl⟩
  have hyb : y ≤ 9223372036854775807 := by rw [hy, IntKind.wrap_i64]; omega
  obtain ⟨f1, l1, q1, ok1, ho1, hq1, -, hl1, hF1⟩ := forI_any up lo rs.length m hb.2
  obtain ⟨f2, l2, q2, ok2, ho2, hq2, -, hl2, hF2⟩ := forI_any up lo rs.length y hyb
  have hgo := GoAt.start hc
  have hms := goM_small rs.length m rs hc.1.2.2.2.2
  have hcs := goC_small rs.length m rs hc.1.2.2.2.2
  generalize goR 0 (digs rs.length m) rs = RT at hgo ⊢
  generalize goM 0 (digs rs.length m) rs = MT at hgo hms ⊢
  generalize goC 0 (digs rs.length m) rs = CT at hgo hcs ⊢
  generalize goK 0 (digs rs.length m) rs [0, 0, 0, 0] = KT at hgo ⊢
  obtain ⟨hc1, hc2, hc3, hc4, hc5⟩ := hc
  have hlen : 0 < rs.length ∧ rs.length ≤ 8 := by have := hc1.2.2.2; omega
  have hp8 := pow_bd rs.length hlen.2
  have hdim : (1 ≤ up ∧ up ≤ 2) ∧ (4 ≤ lo ∧ lo ≤ 5) := ⟨hc1.2.1, hc1.2.2.1⟩
  have HGG := Lib.hid hc1
  have HSS := Lib.hid hc2
  obtain ⟨hsn1, rfl⟩ := hsn hc1
  have hk1 : okFor up lo rs.length m := ⟨hc1.2.1, hc1.2.2.1, by omega, hc3, by rw [Int.toNat_natCast]; omega⟩
  obtain rfl : ok1 = true := ho1.2 hk1
  have HQ1 := Lib.hid (hq1 rfl).2.2
  have e : y = numF rs + m := by rw [hy, hsn1, IntKind.wrap_i64]; omega
  have hk2 : okFor up lo rs.length y := ⟨hc1.2.1, hc1.2.2.1, by omega, by omega, by rw [Int.toNat_natCast]; omega⟩
  obtain rfl : ok2 = true := ho2.2 hk2
  have HGO := Lib.hid hgo
  have HDM := Lib.hid hdim
  clear hc1 hc2 hc3 hc4 hc5 hk1 hk2 hp8 e hgo hdim hsn1
  have HS := Lib.hid hS
  have HN := Lib.hid hN
  have HF1 := Lib.hid hF1
  have HF2 := Lib.hid hF2
  have hw1 : IntKind.i64.wrap (sn + m) = y := hy.symm
  have hw2 : wrap64 (sn + m) = y := by rw [hy, IntKind.wrap_i64]; unfold wrap64; omega
  have HB0 : Hid (Below w.heap.size w w) := Lib.hid (Below.refl _ _)
  have HRf0 := Lib.hid (h)
  clear h hS hN hF1 hF2 hst hsn hb hsb hy hyb ho1 hq1 ho2 hq2
  go_enter Try.func81, Try.ntmps81
  go_wp2_with fail
  have hb : Below w.heap.size w (w.alloc (.cells #[.int .i64 up, .int .i64 lo, .slice a rs.length cp] 42)) := (Below.refl _ _).alloc (Nat.le_refl _) _
  have hk : (w.alloc (.cells #[.int .i64 up, .int .i64 lo, .slice a rs.length cp] 42)).heap[w.heap.size]? = some (.cells #[.int .i64 up, .int .i64 lo, .slice a rs.length cp] 42 (0, 0)) := alloc_at rfl
  have hz : (w.alloc (.cells #[.int .i64 up, .int .i64 lo, .slice a rs.length cp] 42)).heap.size = w.heap.size + 1 := by simp
  generalize w.alloc (.cells #[.int .i64 up, .int .i64 lo, .slice a rs.length cp] 42) = w1 at hb hk hz ⊢
  have HB1 : Hid (Below w.heap.size w w1) := Lib.hid (HB0.out.trans (hb.mono HB0.out.size))
  have HZ1 : Hid (w.heap.size ≤ w1.heap.size) := Lib.hid hb.size
  have HRf1 := Lib.hid (HRf0.out.below HB1.out (Nat.le_refl _))
  have HKf1 := Lib.hid hk
  replace HZ1 : Hid (w.heap.size < w1.heap.size) := Lib.hid (by omega)
  have HE1 := Lib.hid hz
  clear hb hk hz
  have hb : Below w1.heap.size w1 (w1.alloc (.cells #[.int .i64 0, .int .i64 0, .slice none 0 0, .slice none 0 0, .int .i64 0, .int .i64 0, .int .i64 0, .int .i64 0, .int .i64 0] 86)) := (Below.refl _ _).alloc (Nat.le_refl _) _
  have hk : (w1.alloc (.cells #[.int .i64 0, .int .i64 0, .slice none 0 0, .slice none 0 0, .int .i64 0, .int .i64 0, .int .i64 0, .int .i64 0, .int .i64 0] 86)).heap[w.heap.size + 1]? = some (.cells #[.int .i64 0, .int .i64 0, .slice none 0 0, .slice none 0 0, .int .i64 0, .int .i64 0, .int .i64 0, .int .i64 0, .int .i64 0] 86 (0, 0)) := alloc_at (by have := HE1.out; omega)
  have hz : (w1.alloc (.cells #[.int .i64 0, .int .i64 0, .slice none 0 0, .slice none 0 0, .int .i64 0, .int .i64 0, .int .i64 0, .int .i64 0, .int .i64 0] 86)).heap.size = w1.heap.size + 1 := by simp
  generalize w1.alloc (.cells #[.int .i64 0, .int .i64 0, .slice none 0 0, .slice none 0 0, .int .i64 0, .int .i64 0, .int .i64 0, .int .i64 0, .int .i64 0] 86) = w2 at hb hk hz ⊢
  have HB2 : Hid (Below w.heap.size w w2) := Lib.hid (HB1.out.trans (hb.mono HB1.out.size))
  have HZ2 : Hid (w1.heap.size ≤ w2.heap.size) := Lib.hid hb.size
  have HRf2 := Lib.hid (HRf0.out.below HB2.out (Nat.le_refl _))
  have HKf2 := Lib.hid ((hb.block _ (lt_of_block HKf1.out)).trans HKf1.out)
  have HKz2 := Lib.hid hk
  replace HZ2 : Hid (w1.heap.size < w2.heap.size) := Lib.hid (by omega)
  have HE2 := Lib.hid hz
  clear hb hk hz
  have ltf := lt_of_block HKf2.out
  obtain ⟨cf0, cf1, cf2, ff0, ff1, ff2⟩ := cell3 HKf2.out
  have ltz := lt_of_block HKz2.out
  obtain ⟨cz0, cz1, cz2, cz3, cz4, cz5, cz6, cz7, cz8, fz0, fz1, fz2, fz3, fz4, fz5, fz6, fz7, fz8⟩ := cell9 HKz2.out
  go_wp2_with fail
  have HZB : Hid (w.heap.size + 1 < w2.heap.size) := Lib.hid ltz
  have HWB := Lib.hid HB2.out.size
  obtain ⟨B, hB⟩ : ∃ B, B = w2.heap.size := ⟨_, rfl⟩
  have HBE := Lib.hid hB
  clear hB
  refine (courseOn_yes up lo _ rs _ HRf2.out HGG.out HSS.out).mono ?_
  rintro e w3 ⟨⟨g, cap, mg, rfl, hor, hom⟩, hb⟩
  have HB3 : Hid (Below w.heap.size w w3) := Lib.hid (HB2.out.trans (hb.mono HB2.out.size))
  have HZ3 : Hid (w2.heap.size ≤ w3.heap.size) := Lib.hid hb.size
  have HRf3 := Lib.hid (HRf0.out.below HB3.out (Nat.le_refl _))
  have HKf3 := Lib.hid ((hb.block _ (lt_of_block HKf2.out)).trans HKf2.out)
  have HKz3 := Lib.hid ((hb.block _ (lt_of_block HKz2.out)).trans HKz2.out)
  clear hb
  rw [← HBE.out] at hor hom
  have HOr3 := Lib.hid (Ow.mk' hor)
  have HOm3 := Lib.hid (Ow.mk' hom)
  have HBLO : Hid (B ≤ w3.heap.size) := Lib.hid (by rw [HBE.out]; exact HZ3.out)
  clear hor hom
  clear cf0 cf1 cf2 ff0 ff1 ff2 ltf cz0 cz1 cz2 cz3 cz4 cz5 cz6 cz7 cz8 fz0 fz1 fz2 fz3 fz4 fz5 fz6 fz7 fz8 ltz
  have ltf := lt_of_block HKf3.out
  obtain ⟨cf0, cf1, cf2, ff0, ff1, ff2⟩ := cell3 HKf3.out
  have ltz := lt_of_block HKz3.out
  obtain ⟨cz0, cz1, cz2, cz3, cz4, cz5, cz6, cz7, cz8, fz0, fz1, fz2, fz3, fz4, fz5, fz6, fz7, fz8⟩ := cell9 HKz3.out
  go_wp2_with fail
  have hb : Below w3.heap.size w3 (w3.alloc (.cells #[.int .i64 up, .int .i64 lo, .slice (some ⟨g, 0, none⟩) rs.length cap, .slice (some ⟨mg, 0, none⟩) 0 0] 83)) := (Below.refl _ _).alloc (Nat.le_refl _) _
  have hk : (w3.alloc (.cells #[.int .i64 up, .int .i64 lo, .slice (some ⟨g, 0, none⟩) rs.length cap, .slice (some ⟨mg, 0, none⟩) 0 0] 83)).heap[w3.heap.size]? = some (.cells #[.int .i64 up, .int .i64 lo, .slice (some ⟨g, 0, none⟩) rs.length cap, .slice (some ⟨mg, 0, none⟩) 0 0] 83 (0, 0)) := alloc_at rfl
  have hz : (w3.alloc (.cells #[.int .i64 up, .int .i64 lo, .slice (some ⟨g, 0, none⟩) rs.length cap, .slice (some ⟨mg, 0, none⟩) 0 0] 83)).heap.size = w3.heap.size + 1 := by simp
  generalize w3.alloc (.cells #[.int .i64 up, .int .i64 lo, .slice (some ⟨g, 0, none⟩) rs.length cap, .slice (some ⟨mg, 0, none⟩) 0 0] 83) = w4 at hb hk hz ⊢
  have HB4 : Hid (Below w.heap.size w w4) := Lib.hid (HB3.out.trans (hb.mono HB3.out.size))
  have HZ4 : Hid (w3.heap.size ≤ w4.heap.size) := Lib.hid hb.size
  have HRf4 := Lib.hid (HRf0.out.below HB4.out (Nat.le_refl _))
  have HKf4 := Lib.hid ((hb.block _ (lt_of_block HKf3.out)).trans HKf3.out)
  have HKz4 := Lib.hid ((hb.block _ (lt_of_block HKz3.out)).trans HKz3.out)
  have HOr4 := Lib.hid (HOr3.out.next hb)
  have HOm4 := Lib.hid (HOm3.out.next hb)
  have HKs4 := Lib.hid hk
  replace HZ4 : Hid (w3.heap.size < w4.heap.size) := Lib.hid (by omega)
  have HE4 := Lib.hid hz
  clear hb hk hz
  refine (HN.out _ _ HRf4.out).mono ?_
  rintro e w5 ⟨rfl, hb⟩
  have HB5 : Hid (Below w.heap.size w w5) := Lib.hid (HB4.out.trans (hb.mono HB4.out.size))
  have HZ5 : Hid (w4.heap.size ≤ w5.heap.size) := Lib.hid hb.size
  have HRf5 := Lib.hid (HRf0.out.below HB5.out (Nat.le_refl _))
  have HKf5 := Lib.hid ((hb.block _ (lt_of_block HKf4.out)).trans HKf4.out)
  have HKz5 := Lib.hid ((hb.block _ (lt_of_block HKz4.out)).trans HKz4.out)
  have HOr5 := Lib.hid (HOr4.out.next hb)
  have HOm5 := Lib.hid (HOm4.out.next hb)
  have HKs5 := Lib.hid ((hb.block _ (lt_of_block HKs4.out)).trans HKs4.out)
  clear hb
  clear cf0 cf1 cf2 ff0 ff1 ff2 ltf cz0 cz1 cz2 cz3 cz4 cz5 cz6 cz7 cz8 fz0 fz1 fz2 fz3 fz4 fz5 fz6 fz7 fz8 ltz
  have ltf := lt_of_block HKf5.out
  obtain ⟨cf0, cf1, cf2, ff0, ff1, ff2⟩ := cell3 HKf5.out
  have ltz := lt_of_block HKz5.out
  obtain ⟨cz0, cz1, cz2, cz3, cz4, cz5, cz6, cz7, cz8, fz0, fz1, fz2, fz3, fz4, fz5, fz6, fz7, fz8⟩ := cell9 HKz5.out
  have lts := lt_of_block HKs5.out
  obtain ⟨cs0, cs1, cs2, cs3, fs0, fs1, fs2, fs3⟩ := cell4 HKs5.out
  go_wp2_with fail
  refine (HF1.out _).mono ?_
  rintro e w6 ⟨⟨v1, rfl, oa⟩, hb⟩
  have HB6 : Hid (Below w.heap.size w w6) := Lib.hid (HB5.out.trans (hb.mono HB5.out.size))
  have HZ6 : Hid (w5.heap.size ≤ w6.heap.size) := Lib.hid hb.size
  have HRf6 := Lib.hid (HRf0.out.below HB6.out (Nat.le_refl _))
  have HKf6 := Lib.hid ((hb.block _ (lt_of_block HKf5.out)).trans HKf5.out)
  have HKz6 := Lib.hid ((hb.block _ (lt_of_block HKz5.out)).trans HKz5.out)
  have HOr6 := Lib.hid (HOr5.out.next hb)
  have HOm6 := Lib.hid (HOm5.out.next hb)
  have HKs6 := Lib.hid ((hb.block _ (lt_of_block HKs5.out)).trans HKs5.out)
  clear hb
  obtain ⟨p1, k1, rfl⟩ := own_form oa
  have HOa6 := Lib.hid (Ow.mk' oa)
  clear oa
  clear cf0 cf1 cf2 ff0 ff1 ff2 ltf cz0 cz1 cz2 cz3 cz4 cz5 cz6 cz7 cz8 fz0 fz1 fz2 fz3 fz4 fz5 fz6 fz7 fz8 ltz cs0 cs1 cs2 cs3 fs0 fs1 fs2 fs3 lts
  have ltf := lt_of_block HKf6.out
  obtain ⟨cf0, cf1, cf2, ff0, ff1, ff2⟩ := cell3 HKf6.out
  have ltz := lt_of_block HKz6.out
  obtain ⟨cz0, cz1, cz2, cz3, cz4, cz5, cz6, cz7, cz8, fz0, fz1, fz2, fz3, fz4, fz5, fz6, fz7, fz8⟩ := cell9 HKz6.out
  have lts := lt_of_block HKs6.out
  obtain ⟨cs0, cs1, cs2, cs3, fs0, fs1, fs2, fs3⟩ := cell4 HKs6.out
  go_wp2_with fail
  have hb : Below w6.heap.size w6 (w6.alloc (.cells #[.int .i64 f1, .int .i64 l1, .slice p1 q1.length k1] 42)) := (Below.refl _ _).alloc (Nat.le_refl _) _
  have hk : (w6.alloc (.cells #[.int .i64 f1, .int .i64 l1, .slice p1 q1.length k1] 42)).heap[w6.heap.size]? = some (.cells #[.int .i64 f1, .int .i64 l1, .slice p1 q1.length k1] 42 (0, 0)) := alloc_at rfl
  have hz : (w6.alloc (.cells #[.int .i64 f1, .int .i64 l1, .slice p1 q1.length k1] 42)).heap.size = w6.heap.size + 1 := by simp
  generalize w6.alloc (.cells #[.int .i64 f1, .int .i64 l1, .slice p1 q1.length k1] 42) = w7 at hb hk hz ⊢
  have HB7 : Hid (Below w.heap.size w w7) := Lib.hid (HB6.out.trans (hb.mono HB6.out.size))
  have HZ7 : Hid (w6.heap.size ≤ w7.heap.size) := Lib.hid hb.size
  have HRf7 := Lib.hid (HRf0.out.below HB7.out (Nat.le_refl _))
  have HKf7 := Lib.hid ((hb.block _ (lt_of_block HKf6.out)).trans HKf6.out)
  have HKz7 := Lib.hid ((hb.block _ (lt_of_block HKz6.out)).trans HKz6.out)
  have HOr7 := Lib.hid (HOr6.out.next hb)
  have HOm7 := Lib.hid (HOm6.out.next hb)
  have HKs7 := Lib.hid ((hb.block _ (lt_of_block HKs6.out)).trans HKs6.out)
  have HOa7 := Lib.hid (HOa6.out.next hb)
  have HKt7 := Lib.hid hk
  replace HZ7 : Hid (w6.heap.size < w7.heap.size) := Lib.hid (by omega)
  have HE7 := Lib.hid hz
  clear hb hk hz
  clear cf0 cf1 cf2 ff0 ff1 ff2 ltf cz0 cz1 cz2 cz3 cz4 cz5 cz6 cz7 cz8 fz0 fz1 fz2 fz3 fz4 fz5 fz6 fz7 fz8 ltz cs0 cs1 cs2 cs3 fs0 fs1 fs2 fs3 lts
  have ltf := lt_of_block HKf7.out
  obtain ⟨cf0, cf1, cf2, ff0, ff1, ff2⟩ := cell3 HKf7.out
  have ltz := lt_of_block HKz7.out
  obtain ⟨cz0, cz1, cz2, cz3, cz4, cz5, cz6, cz7, cz8, fz0, fz1, fz2, fz3, fz4, fz5, fz6, fz7, fz8⟩ := cell9 HKz7.out
  have lts := lt_of_block HKs7.out
  obtain ⟨cs0, cs1, cs2, cs3, fs0, fs1, fs2, fs3⟩ := cell4 HKs7.out
  have ltt := lt_of_block HKt7.out
  obtain ⟨ct0, ct1, ct2, ft0, ft1, ft2⟩ := cell3 HKt7.out
  go_wp2_with fail
  try simp only [hw1]
  try simp only [hw2]
  refine (HF2.out _).mono ?_
  rintro e w8 ⟨⟨v2, rfl, oa⟩, hb⟩
  have HB8 : Hid (Below w.heap.size w w8) := Lib.hid (HB7.out.trans (hb.mono HB7.out.size))
  have HZ8 : Hid (w7.heap.size ≤ w8.heap.size) := Lib.hid hb.size
  have HRf8 := Lib.hid (HRf0.out.below HB8.out (Nat.le_refl _))
  have HKf8 := Lib.hid ((hb.block _ (lt_of_block HKf7.out)).trans HKf7.out)
  have HKz8 := Lib.hid ((hb.block _ (lt_of_block HKz7.out)).trans HKz7.out)
  have HOr8 := Lib.hid (HOr7.out.next hb)
  have HOm8 := Lib.hid (HOm7.out.next hb)
  have HKs8 := Lib.hid ((hb.block _ (lt_of_block HKs7.out)).trans HKs7.out)
  have HOa8 := Lib.hid (HOa7.out.next hb)
  have HKt8 := Lib.hid ((hb.block _ (lt_of_block HKt7.out)).trans HKt7.out)
  clear hb
  obtain ⟨p2, k2, rfl⟩ := own_form oa
  clear oa
  clear hw1 hw2
  obtain ⟨w9, hW⟩ : ∃ W, w8.alloc (.cells #[.int .i64 f2, .int .i64 l2, .slice p2 q2.length k2] 42) = W := ⟨_, rfl⟩
  have hb : Below w8.heap.size w8 w9 := hW ▸ (Below.refl _ _).alloc (Nat.le_refl _) _
  have HB9 : Hid (Below w.heap.size w w9) := Lib.hid (HB8.out.trans (hb.mono HB8.out.size))
  have HZ9 : Hid (w8.heap.size ≤ w9.heap.size) := Lib.hid hb.size
  have HRf9 := Lib.hid (HRf0.out.below HB9.out (Nat.le_refl _))
  have HKf9 := Lib.hid ((hb.block _ (lt_of_block HKf8.out)).trans HKf8.out)
  have HKz9 := Lib.hid ((hb.block _ (lt_of_block HKz8.out)).trans HKz8.out)
  have HOr9 := Lib.hid (HOr8.out.next hb)
  have HOm9 := Lib.hid (HOm8.out.next hb)
  have HKs9 := Lib.hid ((hb.block _ (lt_of_block HKs8.out)).trans HKs8.out)
  have HOa9 := Lib.hid (HOa8.out.next hb)
  have HKt9 := Lib.hid ((hb.block _ (lt_of_block HKt8.out)).trans HKt8.out)
  clear hb
  clear cf0 cf1 cf2 ff0 ff1 ff2 ltf cz0 cz1 cz2 cz3 cz4 cz5 cz6 cz7 cz8 fz0 fz1 fz2 fz3 fz4 fz5 fz6 fz7 fz8 ltz cs0 cs1 cs2 cs3 fs0 fs1 fs2 fs3 lts ct0 ct1 ct2 ft0 ft1 ft2 ltt
  have ltf := lt_of_block HKf9.out
  obtain ⟨cf0, cf1, cf2, ff0, ff1, ff2⟩ := cell3 HKf9.out
  have ltz := lt_of_block HKz9.out
  obtain ⟨cz0, cz1, cz2, cz3, cz4, cz5, cz6, cz7, cz8, fz0, fz1, fz2, fz3, fz4, fz5, fz6, fz7, fz8⟩ := cell9 HKz9.out
  have lts := lt_of_block HKs9.out
  obtain ⟨cs0, cs1, cs2, cs3, fs0, fs1, fs2, fs3⟩ := cell4 HKs9.out
  have ltt := lt_of_block HKt9.out
  obtain ⟨ct0, ct1, ct2, ft0, ft1, ft2⟩ := cell3 HKt9.out
  go_wp2_with fail
  clear hW
  have hbX : Below w9.heap.size w9 (w9.alloc (.cells #[.int .i64 up, .int .i64 lo, .slice (some ⟨g, 0, none⟩) rs.length cap, .slice (some ⟨mg, 0, none⟩) 0 0, .int .i64 0, .int .i64 0, .int .i64 0, .int .i64 0, .int .i64 0] 86)) := (Below.refl _ _).alloc (Nat.le_refl _) _
  have hlo : B ≤ w9.heap.size := by have := HBLO.out; have := HZ1.out; have := HZ2.out; have := HZ3.out; have := HZ4.out; have := HZ5.out; have := HZ6.out; have := HZ7.out; have := HZ8.out; have := HZ9.out;  omega
  have haX : AdAt B (w9.alloc (.cells #[.int .i64 up, .int .i64 lo, .slice (some ⟨g, 0, none⟩) rs.length cap, .slice (some ⟨mg, 0, none⟩) 0 0, .int .i64 0, .int .i64 0, .int .i64 0, .int .i64 0, .int .i64 0] 86)) w9.heap.size up lo (.slice (some ⟨g, 0, none⟩) rs.length cap) mg 0 rs [] 0 0 0 0 0 :=
    ⟨hlo, alloc_at rfl, own_below HOr9.out.1 hbX, own_below HOm9.out.1 hbX⟩
  have hql : q1.length = rs.length := by rw [HQ1.out, forR_len]
  obtain ⟨ga, ca, hpa⟩ := own_block HOa9.out.1 (by omega)
  obtain ⟨rfl, rfl⟩ : p1 = some ⟨ga, 0, none⟩ ∧ k1 = ca := by injection hpa with h1 h2 h3; exact ⟨h1, h3⟩
  have hgaA : ∀ q, (Value.slice (some ⟨ga, 0, none⟩) q1.length k1).ownBlock = some q → q ≠ w9.heap.size := fun q hq e => by have := (HOa9.out.1.lt q hq).2; omega
  have htA : w6.heap.size ≠ w9.heap.size := by have := lt_of_block HKt9.out; omega
  generalize hA : w9.heap.size = A at haX hgaA htA ⊢
  generalize (w9.alloc (.cells #[.int .i64 up, .int .i64 lo, .slice (some ⟨g, 0, none⟩) rs.length cap, .slice (some ⟨mg, 0, none⟩) 0 0, .int .i64 0, .int .i64 0, .int .i64 0, .int .i64 0, .int .i64 0] 86)) = X at hbX haX ⊢
  clear hA
  have HAX := Lib.hid haX
  have HGA := Lib.hid hgaA
  have HTA := Lib.hid htA
  have HBX : Hid (Below B w9 X) := Lib.hid (hbX.mono hlo)
  have HKX : Hid (KeepT w9 X A) := Lib.hid (KeepT.of_below hbX)
  have HKT : Hid (w9.heap[w6.heap.size]? = some (.cells #[.int .i64 f1, .int .i64 l1, .slice (some ⟨ga, 0, none⟩) q1.length k1] 42 (0, 0))) := Lib.hid HKt9.out
  have HKZ : Hid (w9.heap[w.heap.size + 1]? = some (.cells #[.int .i64 0, .int .i64 0, .slice none 0 0, .slice none 0 0, .int .i64 0, .int .i64 0, .int .i64 0, .int .i64 0, .int .i64 0] 86 (0, 0))) := Lib.hid HKz9.out
  have HOA := Lib.hid HOa9.out.1
  have HQL := Lib.hid hql
  have HZB : Hid (w.heap.size + 1 < B) := Lib.hid (by rw [HBE.out]; exact HZB.out)
  have HWB' : Hid (w.heap.size ≤ B) := Lib.hid (by rw [HBE.out]; exact HWB.out)
  have HB10 := Lib.hid HB9.out
  generalize hx10 : w9 = w10' at HBX HKX HKT HKZ HOA HB10
  clear hx10 hbX haX hlo hql hpa hgaA htA
  clear cz0 cz1 cz2 cz3 cz4 cz5 cz6 cz7 cz8 fz0 fz1 fz2 fz3 fz4 fz5 fz6 fz7 fz8 ct0 ct1 ct2 ft0 ft1 ft2
  go_loopw [69] (fun i wr => ∃ (k : Nat) (sv' : Value) (mg' mc' : Nat) (rs' : List (Int × Int)) (ms' : List Mv) (c' i0 i1 i2 i3 : Int), i = .int .i64 k ∧ AdAt B wr A up lo sv' mg' mc' rs' ms' c' i0 i1 i2 i3 ∧ Below B w10' wr ∧ KeepT w10' wr A ∧ GoAt rs.length m RT MT CT KT k rs' ms' c' [i0, i1, i2, i3]) (fun i _ => rs.length - (intOf i).toNat)
  case atStart => exact ⟨0, _, _, _, _, _, _, _, _, _, _, rfl, HAX.out, HBX.out, HKX.out, HGO.out⟩
  case round =>
    obtain ⟨k, sv', mg', mc', rs', ms', c', i0, i1, i2, i3, rfl, ha, hb, hkt, hg⟩ := hrel
    have HK0 := Lib.hid hkt
    have HA0 := Lib.hid ha
    have HB0 := Lib.hid hb
    have HG0 := Lib.hid hg
    obtain ⟨t0', t1', t2', -, -, -⟩ := cell3 ((hkt _ _ _ _ HKT.out (by decide) HTA.out).trans HKT.out)
    by_cases hlt : k < rs.length
    · have hkq : k < q1.length := by have := HQL.out; omega
      have ho := own_keepT HOA.out hkt (by decide) HGA.out
      have x0 := (ho.cellAt (k * 2) (by omega)).trans (flat_at q1 k hkq).1
      have x1 := (ho.cellAt (k * 2 + 1) (by omega)).trans (flat_at q1 k hkq).2
      obtain ⟨dd, hdd⟩ : ∃ dd, m / 10 ^ (rs.length - 1 - k) % 10 = dd := ⟨_, rfl⟩
      have hq : q1[k] = digR dd := by
        have h1 := forR_at rs.length m k (by rw [forR_len]; exact hlt)
        rw [hdd] at h1
        rw [← h1]
        congr 1
        try exact HQ1.out
      have HV : Hid (5 * q1[k].1 + q1[k].2 = dd) := Lib.hid (by rw [hq]; exact valF_digR dd)
      have hd9 : 0 ≤ dd ∧ dd ≤ 9 := by omega
      have HR : Hid ((0 ≤ q1[k].1 ∧ q1[k].1 ≤ 1) ∧ (0 ≤ q1[k].2 ∧ q1[k].2 ≤ 4)) := Lib.hid (by rw [hq]; exact digR_bd dd hd9.1 hd9.2)
      have HDD := Lib.hid hdd
      have z1 : (0 : Int) ≤ (k : Int) := by omega
      have z2 : (k : Int) < (q1.length : Int) := by omega
      clear ha hb hg hkt ho hq hdd
      go_wp2_with fail
      refine (valueOf_sgn q1[k].1 q1[k].2 _ ⟨by have := HR.out; omega, by have := HR.out; omega⟩).mono ?_
      rintro e w2 ⟨rfl, hb⟩
      rw [HV.out]
      have HA1 := Lib.hid (HA0.out.next hb)
      have HB1 : Hid (Below B w10' w2) := Lib.hid (HB0.out.trans (hb.mono (by have := HA0.out.ord; have := HA0.out.lt; omega)))
      have HK1 : Hid (KeepT w10' w2 A) := Lib.hid (HK0.out.trans (KeepT.of_below hb))
      clear hb x0 x1 t0' t1' t2'
      by_cases h0 : 0 < dd
      · go_wp2_with fail
        have hkl := HG0.out.len
        refine (adDigit_any B A mg' mc' up lo sv' rs' ms' c' i0 i1 i2 i3 k dd _ HA1.out (stdF_good HG0.out.std HDM.out.1 HDM.out.2 (by rw [hkl]; omega)) HG0.out.std (by rw [hkl]; exact hlt) (by omega) hd9.2 (by have := HG0.out.short; omega) ⟨HG0.out.c0, by have := HG0.out.cle; omega⟩ (fun x hx => by have := HG0.out.kb x hx; omega) (by have := HG0.out.digit hlt; rw [HDD.out] at this; rw [hkl]; exact this)).mono ?_
        rintro e w3 ⟨rfl, ⟨s4, g4, c4, n0, n1, n2, n3, ha, hn⟩, hb, hkt⟩
        have hg := HG0.out.some hlt dd HDD.out h0
        rw [← hn] at hg
        have HA3 := Lib.hid ha
        have HB3 := Lib.hid (HB1.out.trans hb)
        have HG3 := Lib.hid hg
        have HK3 := Lib.hid (HK1.out.trans hkt)
        clear ha hb hg hn hkl hkt
        go_wp2_with fail
        go_roundw
        case rel => exact ⟨k + 1, _, _, _, _, _, _, _, _, _, _, by go_num, HA3.out, HB3.out, HK3.out, HG3.out⟩
        case measure => simp [intOf]; omega
      · have HG3 := Lib.hid (HG0.out.zero hlt (by rw [HDD.out]; omega))
        go_wp2_with fail
        go_roundw
        case rel => exact ⟨k + 1, _, _, _, _, _, _, _, _, _, _, by go_num, HA1.out, HB1.out, HK1.out, HG3.out⟩
        case measure => simp [intOf]; omega
    · have hke : k = rs.length := by have := hg.le; omega
      subst hke
      obtain ⟨e1, e2, e3, e4⟩ := hg.done
      subst e1 e2 e3
      obtain ⟨sa, sc, rfl⟩ := own_form ha.rods
      have z2 : ¬ ((rs.length : Int) < (q1.length : Int)) := by have := HQL.out; omega
      obtain ⟨c0, c1, c2, c3, c4, c5, c6, c7, c8, f0, f1, f2, f3, f4, f5, f6, f7, f8⟩ := cell9 ha.box
      obtain ⟨cz0, cz1, cz2, cz3, cz4, cz5, cz6, cz7, cz8, fz0, fz1, fz2, fz3, fz4, fz5, fz6, fz7, fz8⟩ := cell9 ((hb.block _ HZB.out).trans HKZ.out)
      have HK4 := Lib.hid e4
      clear ha hb hg e4 hkt
      go_wp2_with fail
      have hwB : w.heap.size ≤ B := HWB'.out
      exact bodyPost_ret (v := .tuple #[.agg #[.int .i64 up, .int .i64 lo, .slice sa rs'.length sc, .slice (some ⟨mg', 0, none⟩) ms'.length mc', .int .i64 (CT : Int), .int .i64 i0, .int .i64 i1, .int .i64 i2, .int .i64 i3], .bool true]) (by simp [results, Try.results81, go_sem, cz0, cz1, cz2, cz3, cz4, cz5, cz6, cz7, cz8]) rfl
        ⟨⟨_, _, _, _, _, _, _, rfl, HK4.out, own_mono (own_set9 HA0.out.rods HZB.out _ _ _ _ _ _ _ _ _) hwB, own_mono (own_set9 HA0.out.moves HZB.out _ _ _ _ _ _ _ _ _) hwB⟩, bl_set9 (HB10.out.trans (HB0.out.mono hwB)) (Nat.le_succ _) _ _ _ _ _ _ _ _ _⟩
end Go.Proofs.Ythmbehknacjodaa

/-! Adod -/
namespace Go.Proofs.Ythmbehknacjodaa
set_option linter.unusedVariables false
open Go.RowKit

theorem not_good0 (u l : Int) : ¬ goodF u l [] := fun h => by have := h.2.2.2; simp at this
theorem setI_any (up lo : Int) (rs : List (Int × Int)) (q d : Int) : ∃ (fu fl : Int) (qs : List (Int × Int)) (t : Bool), (goodF up lo rs → ∀ k : Nat, q = k → k < rs.length → 0 ≤ d → d ≤ 9 → fu = up ∧ fl = lo ∧ qs = rs.set k (digR d)) ∧ (¬ (goodF up lo rs ∧ (0 ≤ q ∧ q ≤ (rs.length : Int) - 1) ∧ (0 ≤ d ∧ d ≤ 9)) → ¬ goodF fu fl qs) ∧
    ∀ sv w, RodsR w sv rs → Calls Try.prog 140 #[.agg #[.int .i64 up, .int .i64 lo, sv], .int .i64 q, .int .i64 d] w fun e w' => (∃ v, e = .returned (.tuple #[.agg #[.int .i64 fu, .int .i64 fl, v], .bool t]) ∧ w'.ownsRow w.heap.size 77 2 v qs.length (flat qs)) ∧ Below w.heap.size w w' := by
  by_cases hg : goodF up lo rs
  · by_cases hq : 0 ≤ q ∧ q ≤ (rs.length : Int) - 1
    · by_cases hd : 0 ≤ d ∧ d ≤ 9
      · obtain ⟨k, rfl⟩ : ∃ k : Nat, q = (k : Int) := ⟨q.toNat, by omega⟩
        refine ⟨up, lo, rs.set k (digR d), true, fun _ j hj _ _ _ => ?_, fun h => absurd ⟨hg, hq, hd⟩ h, fun sv w h => implSetRod_ok up lo sv rs w h k d hg (by omega) hd.1 hd.2⟩
        obtain rfl : k = j := by omega
        exact ⟨rfl, rfl, rfl⟩
      · exact ⟨0, 0, [], false, fun _ _ _ _ h1 h2 => absurd ⟨h1, h2⟩ hd, fun _ => not_good0 _ _, fun sv w h => implSetRod_dig up lo sv rs w h q d hg hq hd⟩
    · exact ⟨0, 0, [], false, fun _ k hk hl _ _ => absurd ⟨by omega, by omega⟩ hq, fun _ => not_good0 _ _, fun sv w h => implSetRod_out up lo sv rs w h q d hg hq⟩
  · exact ⟨0, 0, [], false, fun h => absurd h hg, fun _ => not_good0 _ _, fun sv w h => implSetRod_bad up lo sv rs w h q d hg⟩
theorem nmI_any (up lo : Int) (rs : List (Int × Int)) : ∃ (n : Int) (t : Bool), (goodF up lo rs → n = numF rs ∧ t = true) ∧ (¬ goodF up lo rs → t = false) ∧ (0 ≤ n ∧ n ≤ 200000000) ∧ ∀ sv w, RodsR w sv rs → Calls Try.prog 34 #[.agg #[.int .i64 up, .int .i64 lo, sv]] w fun e w' => e = .returned (.tuple #[.int .i64 n, .bool t]) ∧ Below w.heap.size w w' := by
  by_cases hg : goodF up lo rs
  · exact ⟨numF rs, true, fun _ => ⟨rfl, rfl⟩, fun h => absurd hg h, numF_top up lo rs hg, fun sv w h => implNumberOn_yes up lo sv rs w h hg⟩
  · exact ⟨0, false, fun h => absurd h hg, fun _ => rfl, by omega, fun sv w h => implNumberOn_no up lo sv rs w h hg⟩

end Go.Proofs.Ythmbehknacjodaa
