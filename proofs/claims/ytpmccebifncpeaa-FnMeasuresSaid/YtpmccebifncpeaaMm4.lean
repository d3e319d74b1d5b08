/- The model's TimesOf, ConvertTo, UnitsIn, PartOf. -/
import Derived.Test.YtpmccebifncpeaaMm3
namespace Go.Proofs.Ytpmccebifncpeaa
set_option linter.unusedVariables false
open Go.RowKit

theorem mul_bd {x y X Y : Int} (x0 : 0 ≤ x) (x1 : x ≤ X) (y0 : 0 ≤ y) (y1 : y ≤ Y) : 0 ≤ x * y ∧ x * y ≤ X * Y := ⟨Int.mul_nonneg x0 y0, Int.mul_le_mul x1 y1 y0 (by omega)⟩
/-- The model's way to the converted value. -/
theorem conv_eq (x num d : Int) (hd : 0 < d) : x / d * num + x % d * num / d = x * num / d := by
  have h1 : x * num = x % d * num + d * (x / d * num) := by
    have h2 := Int.emod_add_mul_ediv x d
    calc x * num = (x % d + d * (x / d)) * num := by rw [h2]
      _ = x % d * num + d * (x / d * num) := by rw [Int.add_mul, Int.mul_assoc]
  rw [h1, Int.add_mul_ediv_left _ _ (by omega)]
  omega
/-- How many of the first unit one of the unit at place k - 1 makes. -/
def unP (us : List Un) : Nat → Int
  | 0 => 1
  | k + 1 => unP us k * szU us k
theorem unP_bound {us : List Un} (hs : okS us) : ∀ k, 1 ≤ unP us k ∧ unP us k ≤ 100 ^ k
  | 0 => by simp [unP]
  | k + 1 => by
    obtain ⟨h1, h2⟩ := unP_bound hs k
    have h3 := okS_sz hs k
    rw [unP, Int.pow_succ]
    generalize unP us k = u at h1 h2 ⊢
    generalize szU us k = s at h3 ⊢
    generalize (100 : Int) ^ k = P at h2 ⊢
    have e1 : u * s ≤ P * 100 := Int.mul_le_mul h2 h3.2 (by omega) (by omega)
    have e2 : 1 * 1 ≤ u * s := Int.mul_le_mul h1 h3.1 (by omega) (by omega)
    omega
theorem unP_lt {us : List Un} (hs : okS us) (k : Nat) (hk : k ≤ 6) : 1 ≤ unP us k ∧ unP us k ≤ 1000000000000 := by
  obtain ⟨h1, h2⟩ := unP_bound hs k
  have : (100 : Int) ^ k ≤ 100 ^ 6 := by
    have hd' : k = 0 ∨ k = 1 ∨ k = 2 ∨ k = 3 ∨ k = 4 ∨ k = 5 ∨ k = 6 := by omega
    rcases hd' with rfl | rfl | rfl | rfl | rfl | rfl | rfl <;> decide
  have e5 : (100 : Int) ^ 6 = 1000000000000 := by decide
  omega
/-- Where the first unit with a name is. -/
def fstU (us : List Un) (nm : ByteArray) (k : Nat) : Prop := ∃ h : k < us.length, us[k].nm = nm ∧ ∀ j (hj : j < us.length), j < k → us[j].nm ≠ nm
/-- The answer of UnitsIn. -/
def UnF (us : List Un) (nm : ByteArray) (x : Int) (r : Bool) : Prop := (okS us ∧ ∃ k, fstU us nm k ∧ x = unP us (k + 1) ∧ r = true) ∨ (okS us ∧ (∀ j (hj : j < us.length), us[j].nm ≠ nm) ∧ x = 0 ∧ r = false) ∨ (¬ okS us ∧ x = 0 ∧ r = false)
theorem unF_or (us : List Un) (nm : ByteArray) : ∃ x r, UnF us nm x r := by
  by_cases ho : okS us
  · obtain ⟨p, hp, h1, h2⟩ := first_bad' us.length (fun i h => us[i].nm ≠ nm)
    by_cases hlt : p < us.length
    · exact ⟨_, _, .inl ⟨ho, p, ⟨hlt, Classical.not_not.1 (h2 hlt), h1⟩, rfl, rfl⟩⟩
    · exact ⟨_, _, .inr (.inl ⟨ho, fun j hj => h1 j hj (by omega), rfl, rfl⟩)⟩
  · exact ⟨_, _, .inr (.inr ⟨ho, rfl, rfl⟩)⟩
/-- The answer of PartOf. -/
def PartF (us : List Un) (cs : List Int) (n : Int) (q1 q2 : List Int) (r : Bool) : Prop :=
  ((okAm us cs ∧ (1 ≤ n ∧ n ≤ 1000)) ∧ ((okP us (valA us cs / n) ∧ okP us (valA us cs % n)) ∧ q1 = propL us (valA us cs / n) ∧ q2 = propL us (valA us cs % n) ∧ r = true ∨ ¬ (okP us (valA us cs / n) ∧ okP us (valA us cs % n)) ∧ q1 = [] ∧ q2 = [] ∧ r = false)) ∨
  (¬ (okAm us cs ∧ (1 ≤ n ∧ n ≤ 1000)) ∧ q1 = [] ∧ q2 = [] ∧ r = false)
theorem partF_or (us : List Un) (cs : List Int) (n : Int) : ∃ q1 q2 r, PartF us cs n q1 q2 r := by
  by_cases h : okAm us cs ∧ (1 ≤ n ∧ n ≤ 1000)
  · by_cases h2 : okP us (valA us cs / n) ∧ okP us (valA us cs % n)
    · exact ⟨_, _, _, .inl ⟨h, .inl ⟨h2, rfl, rfl, rfl⟩⟩⟩
    · exact ⟨_, _, _, .inl ⟨h, .inr ⟨h2, rfl, rfl, rfl⟩⟩⟩
  · exact ⟨_, _, _, .inr ⟨h, rfl, rfl, rfl⟩⟩
theorem partF_len {us : List Un} {cs : List Int} {n : Int} {q1 q2 : List Int} {r : Bool} (h : PartF us cs n q1 q2 r) : q1.length ≤ 1000 ∧ q2.length ≤ 1000 := by
  rcases h with ⟨h1, ⟨_, rfl, rfl, _⟩ | ⟨_, rfl, rfl, _⟩⟩ | ⟨_, rfl, rfl, _⟩
  · rw [propL_len, propL_len]; have := h1.1.1.1.2; omega
  · simp
  · simp
theorem OwB.of {lo1 hi1 lo2 hi2 : Nat} {w : World} {v1 v2 : Value} {ls ss : List Int} (h1 : OwA lo1 hi1 w v1 ls) (h2 : OwA lo2 hi2 w v2 ss) (ha : hi1 ≤ lo2) (hb : lo1 ≤ lo2) (hc : hi1 ≤ hi2) : OwB lo1 hi2 w v1 v2 ls ss :=
  ⟨Ow.widen h1 (Nat.le_refl _) hc, Ow.widen h2 hb (Nat.le_refl _), fun g hg hg2 => by have h3 := h1.2 g hg; have h4 := (h2.1.lt g hg2).1; omega⟩
theorem OwB.nil7 (lo hi : Nat) (w : World) : OwB lo hi w (.slice none 0 0) (.slice none 0 0) [] [] := ⟨OwA.nil _ _ _, OwA.nil _ _ _, fun g hg => by cases hg⟩
theorem ret_ib {a b : Int} {r s : Bool} (h : a = b) (h2 : r = s) : Ending.returned (.tuple #[.int .i64 a, .bool r]) = .returned (.tuple #[.int .i64 b, .bool s]) := by rw [h, h2]
set_option maxRecDepth 100000 in
set_option maxHeartbeats 3200000 in
theorem sPartOf_any (v sx : Value) (us : List Un) (xs : List Int) (n : Int) (w : World) (h : RowsR 2 unC w v us) (hs : ∀ u ∈ us, u.nm.size ≤ maxLen) (hx : RowsR 1 inC w sx xs) (q1 q2 : List Int) (r : Bool) (hk : PartF us xs n q1 q2 r) :
    Calls Try.prog 34 #[v, .agg #[sx], .int .i64 n] w fun e w' => (∃ s1 s2, e = .returned (.tuple #[.agg #[s1], .agg #[s2], .bool r]) ∧ OwB w.heap.size w'.heap.size w' s1 s2 q1 q2) ∧ Below w.heap.size w w' := by
  obtain ⟨a, cp, rfl⟩ := h.form
  have HS := Lib.hid hs
  obtain ⟨a1, c1, rfl⟩ := hx.form
  rcases hk with ⟨ho, hp⟩ | ⟨ho, rfl, rfl, rfl⟩
  · have HO := Lib.hid ho
    have hvx := valA_lt ho.1
    obtain ⟨x, hx9⟩ : ∃ x, x = valA us xs := ⟨_, rfl⟩
    rw [← hx9] at hvx hp
    have HX9 := Lib.hid hx9
    obtain ⟨n1, n2⟩ : 1 ≤ n ∧ n ≤ 1000 := ho.2
    obtain ⟨q, hq⟩ : ∃ q, IntKind.i64.wrap (x.tdiv n) = q := ⟨_, rfl⟩
    obtain ⟨m, hm⟩ : ∃ m, x.tmod n = m := ⟨_, rfl⟩
    have hq1 : 0 ≤ x / n ∧ x / n ≤ x := ⟨Int.ediv_nonneg hvx.1 (by omega), Int.ediv_le_self _ hvx.1⟩
    have hqe : q = x / n := by rw [← hq, Int.tdiv_eq_ediv_of_nonneg hvx.1, wrap_small _ (by omega) (by omega)]
    have hme : m = x % n := by rw [← hm, Int.tmod_eq_emod_of_nonneg hvx.1]
    have hm1 : 0 ≤ m ∧ m < n := by rw [hme]; exact ⟨Int.emod_nonneg _ (by omega), Int.emod_lt_of_pos _ (by omega)⟩
    have hb1 : -9223372036854775808 ≤ q ∧ q ≤ 9223372036854775807 := by omega
    have hb2 : -9223372036854775808 ≤ m ∧ m ≤ 9223372036854775807 := by omega
    rw [← hqe, ← hme] at hp
    have y3 : (n == 0) = false := beq_eq_false_iff_ne.2 (by omega)
    have y4 : n ≠ 0 := by omega
    have HNM := Lib.hid ho.2
    rcases hp with ⟨hop, rfl, rfl, rfl⟩ | ⟨hop, rfl, rfl, rfl⟩
    · obtain ⟨hp1, hp2⟩ := hop
      have HP1 : Hid (PropF us q (propL us q) true) := Lib.hid (.inl ⟨hp1, rfl, rfl⟩)
      have HP2 : Hid (PropF us m (propL us m) true) := Lib.hid (.inl ⟨hp2, rfl, rfl⟩)
      have HQ1 := Lib.hid hb1
      have HQ2 := Lib.hid hb2
      clear hp1 hp2 hm1 hqe hme hq1 hx9 n1 n2 hb1 hb2 hvx
      have HB0 : Hid (Below w.heap.size w w) := Lib.hid (Below.refl _ _)
      have HRu0 := Lib.hid (h)
      have HRx0 := Lib.hid (hx)
      clear h hs hx ho
      go_enter Try.func34, Try.ntmps34
      go_wp2_with fail
      have hb : Below w.heap.size w (w.alloc (.cells #[.slice a1 xs.length c1] 50)) := (Below.refl _ _).alloc (Nat.le_refl _) _
      have hk : (w.alloc (.cells #[.slice a1 xs.length c1] 50)).heap[w.heap.size]? = some (.cells #[.slice a1 xs.length c1] 50 (0, 0)) := alloc_at rfl
      have hz : (w.alloc (.cells #[.slice a1 xs.length c1] 50)).heap.size = w.heap.size + 1 := by simp
      generalize w.alloc (.cells #[.slice a1 xs.length c1] 50) = w1 at hb hk hz ⊢
      have HB1 : Hid (Below w.heap.size w w1) := Lib.hid (HB0.out.trans (hb.mono HB0.out.size))
      have HZ1 : Hid (w.heap.size ≤ w1.heap.size) := Lib.hid hb.size
      have HRu1 := Lib.hid (HRu0.out.below HB1.out (Nat.le_refl _))
      have HRx1 := Lib.hid (HRx0.out.below HB1.out (Nat.le_refl _))
      have HKx1 := Lib.hid hk
      replace HZ1 : Hid (w.heap.size < w1.heap.size) := Lib.hid (by omega)
      have HE1 := Lib.hid hz
      clear hb hk hz
      have hb : Below w1.heap.size w1 (w1.alloc (.cells #[.slice none 0 0] 50)) := (Below.refl _ _).alloc (Nat.le_refl _) _
      have hk : (w1.alloc (.cells #[.slice none 0 0] 50)).heap[w.heap.size + 1]? = some (.cells #[.slice none 0 0] 50 (0, 0)) := alloc_at (by have := HE1.out; omega)
      have hz : (w1.alloc (.cells #[.slice none 0 0] 50)).heap.size = w1.heap.size + 1 := by simp
      generalize w1.alloc (.cells #[.slice none 0 0] 50) = w2 at hb hk hz ⊢
      have HB2 : Hid (Below w.heap.size w w2) := Lib.hid (HB1.out.trans (hb.mono HB1.out.size))
      have HZ2 : Hid (w1.heap.size ≤ w2.heap.size) := Lib.hid hb.size
      have HRu2 := Lib.hid (HRu0.out.below HB2.out (Nat.le_refl _))
      have HRx2 := Lib.hid (HRx0.out.below HB2.out (Nat.le_refl _))
      have HKx2 := Lib.hid ((hb.block _ (lt_of_block HKx1.out)).trans HKx1.out)
      have HKz2 := Lib.hid hk
      replace HZ2 : Hid (w1.heap.size < w2.heap.size) := Lib.hid (by omega)
      have HE2 := Lib.hid hz
      clear hb hk hz
      have hb : Below w2.heap.size w2 (w2.alloc (.cells #[.slice none 0 0] 50)) := (Below.refl _ _).alloc (Nat.le_refl _) _
      have hk : (w2.alloc (.cells #[.slice none 0 0] 50)).heap[w.heap.size + 2]? = some (.cells #[.slice none 0 0] 50 (0, 0)) := alloc_at (by have := HE1.out; have := HE2.out; omega)
      have hz : (w2.alloc (.cells #[.slice none 0 0] 50)).heap.size = w2.heap.size + 1 := by simp
      generalize w2.alloc (.cells #[.slice none 0 0] 50) = w3 at hb hk hz ⊢
      have HB3 : Hid (Below w.heap.size w w3) := Lib.hid (HB2.out.trans (hb.mono HB2.out.size))
      have HZ3 : Hid (w2.heap.size ≤ w3.heap.size) := Lib.hid hb.size
      have HRu3 := Lib.hid (HRu0.out.below HB3.out (Nat.le_refl _))
      have HRx3 := Lib.hid (HRx0.out.below HB3.out (Nat.le_refl _))
      have HKx3 := Lib.hid ((hb.block _ (lt_of_block HKx2.out)).trans HKx2.out)
      have HKz3 := Lib.hid ((hb.block _ (lt_of_block HKz2.out)).trans HKz2.out)
      have HKy3 := Lib.hid hk
      replace HZ3 : Hid (w2.heap.size < w3.heap.size) := Lib.hid (by omega)
      have HE3 := Lib.hid hz
      clear hb hk hz
      have hlz : w.heap.size + 2 < w3.heap.size := lt_of_block HKy3.out
      have ltx := lt_of_block HKx3.out
      obtain ⟨cx0, fx0⟩ := cell1 HKx3.out
      have ltz := lt_of_block HKz3.out
      obtain ⟨cz0, fz0⟩ := cell1 HKz3.out
      have lty := lt_of_block HKy3.out
      obtain ⟨cy0, fy0⟩ := cell1 HKy3.out
      refine (l7Amount_any _ _ us xs _ HRu3.out HS.out HRx3.out true ⟨fun _ => HO.out.1, fun _ => rfl⟩).mono ?_
      rintro e w4 ⟨rfl, hb⟩
      have HB4 : Hid (Below w.heap.size w w4) := Lib.hid (HB3.out.trans (hb.mono HB3.out.size))
      have HZ4 : Hid (w3.heap.size ≤ w4.heap.size) := Lib.hid hb.size
      have HRu4 := Lib.hid (HRu0.out.below HB4.out (Nat.le_refl _))
      have HRx4 := Lib.hid (HRx0.out.below HB4.out (Nat.le_refl _))
      have HKx4 := Lib.hid ((hb.block _ (lt_of_block HKx3.out)).trans HKx3.out)
      have HKz4 := Lib.hid ((hb.block _ (lt_of_block HKz3.out)).trans HKz3.out)
      have HKy4 := Lib.hid ((hb.block _ (lt_of_block HKy3.out)).trans HKy3.out)
      clear hb
      clear cx0 fx0 ltx cz0 fz0 ltz cy0 fy0 lty
      have ltx := lt_of_block HKx4.out
      obtain ⟨cx0, fx0⟩ := cell1 HKx4.out
      have ltz := lt_of_block HKz4.out
      obtain ⟨cz0, fz0⟩ := cell1 HKz4.out
      have lty := lt_of_block HKy4.out
      obtain ⟨cy0, fy0⟩ := cell1 HKy4.out
      go_wp2_with fail
      refine (l1In_yesq _ _ _ _ HNM.out).mono ?_
      rintro e w' ⟨rfl, hw'⟩
      subst w'
      go_wp2_with fail
      refine (l7Value_any _ _ us xs _ HRu4.out HRx4.out HO.out.1).mono ?_
      rintro e w5 ⟨rfl, hb⟩
      have HB5 : Hid (Below w.heap.size w w5) := Lib.hid (HB4.out.trans (hb.mono HB4.out.size))
      have HZ5 : Hid (w4.heap.size ≤ w5.heap.size) := Lib.hid hb.size
      have HRu5 := Lib.hid (HRu0.out.below HB5.out (Nat.le_refl _))
      have HRx5 := Lib.hid (HRx0.out.below HB5.out (Nat.le_refl _))
      have HKx5 := Lib.hid ((hb.block _ (lt_of_block HKx4.out)).trans HKx4.out)
      have HKz5 := Lib.hid ((hb.block _ (lt_of_block HKz4.out)).trans HKz4.out)
      have HKy5 := Lib.hid ((hb.block _ (lt_of_block HKy4.out)).trans HKy4.out)
      clear hb
      rw [← HX9.out]
      clear cx0 fx0 ltx cz0 fz0 ltz cy0 fy0 lty
      have ltx := lt_of_block HKx5.out
      obtain ⟨cx0, fx0⟩ := cell1 HKx5.out
      have ltz := lt_of_block HKz5.out
      obtain ⟨cz0, fz0⟩ := cell1 HKz5.out
      have lty := lt_of_block HKy5.out
      obtain ⟨cy0, fy0⟩ := cell1 HKy5.out
      go_wp2_with fail
      refine (l7Proper_any _ us q _ HRu5.out HS.out HO.out.1.1 HQ1.out.2 (propL us q) true HP1.out).mono ?_
      rintro e w6 ⟨⟨s1, rfl, ho⟩, hb⟩
      have HB6 : Hid (Below w.heap.size w w6) := Lib.hid (HB5.out.trans (hb.mono HB5.out.size))
      have HZ6 : Hid (w5.heap.size ≤ w6.heap.size) := Lib.hid hb.size
      have HRu6 := Lib.hid (HRu0.out.below HB6.out (Nat.le_refl _))
      have HRx6 := Lib.hid (HRx0.out.below HB6.out (Nat.le_refl _))
      have HKx6 := Lib.hid ((hb.block _ (lt_of_block HKx5.out)).trans HKx5.out)
      have HKz6 := Lib.hid ((hb.block _ (lt_of_block HKz5.out)).trans HKz5.out)
      have HKy6 := Lib.hid ((hb.block _ (lt_of_block HKy5.out)).trans HKy5.out)
      clear hb
      obtain ⟨pp, kp, rfl⟩ := ho.form
      have HOp6 := Lib.hid (ho)
      clear ho
      clear cx0 fx0 ltx cz0 fz0 ltz cy0 fy0 lty
      have ltx := lt_of_block HKx6.out
      obtain ⟨cx0, fx0⟩ := cell1 HKx6.out
      have ltz := lt_of_block HKz6.out
      obtain ⟨cz0, fz0⟩ := cell1 HKz6.out
      have lty := lt_of_block HKy6.out
      obtain ⟨cy0, fy0⟩ := cell1 HKy6.out
      go_wp2_with fail
      have hb : Below w6.heap.size w6 (w6.alloc (.cells #[.slice pp ((propL us q)).length kp] 50)) := (Below.refl _ _).alloc (Nat.le_refl _) _
      have hk : (w6.alloc (.cells #[.slice pp ((propL us q)).length kp] 50)).heap[w6.heap.size]? = some (.cells #[.slice pp ((propL us q)).length kp] 50 (0, 0)) := alloc_at rfl
      have hz : (w6.alloc (.cells #[.slice pp ((propL us q)).length kp] 50)).heap.size = w6.heap.size + 1 := by simp
      generalize w6.alloc (.cells #[.slice pp ((propL us q)).length kp] 50) = w7 at hb hk hz ⊢
      have HB7 : Hid (Below w.heap.size w w7) := Lib.hid (HB6.out.trans (hb.mono HB6.out.size))
      have HZ7 : Hid (w6.heap.size ≤ w7.heap.size) := Lib.hid hb.size
      have HRu7 := Lib.hid (HRu0.out.below HB7.out (Nat.le_refl _))
      have HRx7 := Lib.hid (HRx0.out.below HB7.out (Nat.le_refl _))
      have HKx7 := Lib.hid ((hb.block _ (lt_of_block HKx6.out)).trans HKx6.out)
      have HKz7 := Lib.hid ((hb.block _ (lt_of_block HKz6.out)).trans HKz6.out)
      have HKy7 := Lib.hid ((hb.block _ (lt_of_block HKy6.out)).trans HKy6.out)
      have HOp7 := Lib.hid (HOp6.out.next hb)
      have HKo7 := Lib.hid hk
      replace HZ7 : Hid (w6.heap.size < w7.heap.size) := Lib.hid (by omega)
      have HE7 := Lib.hid hz
      clear hb hk hz
      clear cx0 fx0 ltx cz0 fz0 ltz cy0 fy0 lty
      have ltx := lt_of_block HKx7.out
      obtain ⟨cx0, fx0⟩ := cell1 HKx7.out
      have ltz := lt_of_block HKz7.out
      obtain ⟨cz0, fz0⟩ := cell1 HKz7.out
      have lty := lt_of_block HKy7.out
      obtain ⟨cy0, fy0⟩ := cell1 HKy7.out
      have lto := lt_of_block HKo7.out
      obtain ⟨co0, fo0⟩ := cell1 HKo7.out
      refine (l7Proper_any _ us m _ HRu7.out HS.out HO.out.1.1 HQ2.out.2 (propL us m) true HP2.out).mono ?_
      rintro e w8 ⟨⟨s1, rfl, ho⟩, hb⟩
      have HB8 : Hid (Below w.heap.size w w8) := Lib.hid (HB7.out.trans (hb.mono HB7.out.size))
      have HZ8 : Hid (w7.heap.size ≤ w8.heap.size) := Lib.hid hb.size
      have HRu8 := Lib.hid (HRu0.out.below HB8.out (Nat.le_refl _))
      have HRx8 := Lib.hid (HRx0.out.below HB8.out (Nat.le_refl _))
      have HKx8 := Lib.hid ((hb.block _ (lt_of_block HKx7.out)).trans HKx7.out)
      have HKz8 := Lib.hid ((hb.block _ (lt_of_block HKz7.out)).trans HKz7.out)
      have HKy8 := Lib.hid ((hb.block _ (lt_of_block HKy7.out)).trans HKy7.out)
      have HOp8 := Lib.hid (HOp7.out.next hb)
      have HKo8 := Lib.hid ((hb.block _ (lt_of_block HKo7.out)).trans HKo7.out)
      clear hb
      obtain ⟨pq, kq, rfl⟩ := ho.form
      have HOq8 := Lib.hid (ho)
      clear ho
      clear cx0 fx0 ltx cz0 fz0 ltz cy0 fy0 lty co0 fo0 lto
      have ltx := lt_of_block HKx8.out
      obtain ⟨cx0, fx0⟩ := cell1 HKx8.out
      have ltz := lt_of_block HKz8.out
      obtain ⟨cz0, fz0⟩ := cell1 HKz8.out
      have lty := lt_of_block HKy8.out
      obtain ⟨cy0, fy0⟩ := cell1 HKy8.out
      have lto := lt_of_block HKo8.out
      obtain ⟨co0, fo0⟩ := cell1 HKo8.out
      go_wp2_with fail
      have hb : Below w8.heap.size w8 (w8.alloc (.cells #[.slice pq ((propL us m)).length kq] 50)) := (Below.refl _ _).alloc (Nat.le_refl _) _
      have hk : (w8.alloc (.cells #[.slice pq ((propL us m)).length kq] 50)).heap[w8.heap.size]? = some (.cells #[.slice pq ((propL us m)).length kq] 50 (0, 0)) := alloc_at rfl
      have hz : (w8.alloc (.cells #[.slice pq ((propL us m)).length kq] 50)).heap.size = w8.heap.size + 1 := by simp
      generalize w8.alloc (.cells #[.slice pq ((propL us m)).length kq] 50) = w9 at hb hk hz ⊢
      have HB9 : Hid (Below w.heap.size w w9) := Lib.hid (HB8.out.trans (hb.mono HB8.out.size))
      have HZ9 : Hid (w8.heap.size ≤ w9.heap.size) := Lib.hid hb.size
      have HRu9 := Lib.hid (HRu0.out.below HB9.out (Nat.le_refl _))
      have HRx9 := Lib.hid (HRx0.out.below HB9.out (Nat.le_refl _))
      have HKx9 := Lib.hid ((hb.block _ (lt_of_block HKx8.out)).trans HKx8.out)
      have HKz9 := Lib.hid ((hb.block _ (lt_of_block HKz8.out)).trans HKz8.out)
      have HKy9 := Lib.hid ((hb.block _ (lt_of_block HKy8.out)).trans HKy8.out)
      have HOp9 := Lib.hid (HOp8.out.next hb)
      have HKo9 := Lib.hid ((hb.block _ (lt_of_block HKo8.out)).trans HKo8.out)
      have HOq9 := Lib.hid (HOq8.out.next hb)
      have HKb9 := Lib.hid hk
      replace HZ9 : Hid (w8.heap.size < w9.heap.size) := Lib.hid (by omega)
      have HE9 := Lib.hid hz
      clear hb hk hz
      clear cx0 fx0 ltx cz0 fz0 ltz cy0 fy0 lty co0 fo0 lto
      have ltx := lt_of_block HKx9.out
      obtain ⟨cx0, fx0⟩ := cell1 HKx9.out
      have ltz := lt_of_block HKz9.out
      obtain ⟨cz0, fz0⟩ := cell1 HKz9.out
      have lty := lt_of_block HKy9.out
      obtain ⟨cy0, fy0⟩ := cell1 HKy9.out
      have lto := lt_of_block HKo9.out
      obtain ⟨co0, fo0⟩ := cell1 HKo9.out
      have ltb := lt_of_block HKb9.out
      obtain ⟨cb0, fb0⟩ := cell1 HKb9.out
      try go_wp2_with fail
      refine wp_region_held_drew (S := (fun w' => w'.cell? ⟨w6.heap.size, 0, none⟩ = some (.slice pp (propL us q).length kp) ∧ w'.cell? ⟨w8.heap.size, 0, none⟩ = some (.slice pq (propL us m).length kq))) (by kernel_rfl) (⟨co0, cb0⟩) (fun hHeld => ?_)
      have hb : Below w9.heap.size w9 w9.drew := (Below.refl _ _).drew
      generalize w9.drew = w10 at hb hHeld ⊢
      have HB10 : Hid (Below w.heap.size w w10) := Lib.hid (HB9.out.trans (hb.mono HB9.out.size))
      have HZ10 : Hid (w9.heap.size ≤ w10.heap.size) := Lib.hid hb.size
      have HRu10 := Lib.hid (HRu0.out.below HB10.out (Nat.le_refl _))
      have HRx10 := Lib.hid (HRx0.out.below HB10.out (Nat.le_refl _))
      have HKx10 := Lib.hid ((hb.block _ (lt_of_block HKx9.out)).trans HKx9.out)
      have HKz10 := Lib.hid ((hb.block _ (lt_of_block HKz9.out)).trans HKz9.out)
      have HKy10 := Lib.hid ((hb.block _ (lt_of_block HKy9.out)).trans HKy9.out)
      have HOp10 := Lib.hid (HOp9.out.next hb)
      have HKo10 := Lib.hid ((hb.block _ (lt_of_block HKo9.out)).trans HKo9.out)
      have HOq10 := Lib.hid (HOq9.out.next hb)
      have HKb10 := Lib.hid ((hb.block _ (lt_of_block HKb9.out)).trans HKb9.out)
      clear hb
      clear cx0 fx0 ltx cz0 fz0 ltz cy0 fy0 lty co0 fo0 lto cb0 fb0 ltb
      have ltx := lt_of_block HKx10.out
      obtain ⟨cx0, fx0⟩ := cell1 HKx10.out
      have ltz := lt_of_block HKz10.out
      obtain ⟨cz0, fz0⟩ := cell1 HKz10.out
      have lty := lt_of_block HKy10.out
      obtain ⟨cy0, fy0⟩ := cell1 HKy10.out
      have lto := lt_of_block HKo10.out
      obtain ⟨co0, fo0⟩ := cell1 HKo10.out
      have ltb := lt_of_block HKb10.out
      obtain ⟨cb0, fb0⟩ := cell1 HKb10.out
      refine take1 (i := 0) (v := ?v23) (some 52) rfl rfl (by kernel_rfl) (by kernel_rfl) (by kernel_rfl) (fun _ _ _ h => h) (Or.inl ⟨by rfl, ?y23⟩) (by assumption) ?r23
      case y23 => (intro w hSw; (try dsimp only at hSw); go_simp; (first | done | with_reducible rfl))
      try simp only [Act.put, List.setIfInBounds_toArray, List.set_cons_zero, List.set_cons_succ]
      refine take1 (i := 1) (v := ?v24) (some 53) rfl rfl (by kernel_rfl) (by kernel_rfl) (by kernel_rfl) (fun _ _ _ h => h) (Or.inl ⟨by rfl, ?y24⟩) (by assumption) ?r24
      case y24 => (intro w hSw; (try dsimp only at hSw); go_simp; (first | done | with_reducible rfl))
      try simp only [Act.put, List.setIfInBounds_toArray, List.set_cons_zero, List.set_cons_succ]
      refine wpAnyH_ready (rs := [2]) (by kernel_rfl) (by simp) ?_
      refine AllReadyH.cons rfl (fun K hK => ?_) AllReadyH.nil
      go_simp
      have hkz := box1_set HKz10.out (.slice pp (propL us q).length kp)
      have hm : Btw (w.heap.size + 1) (w.heap.size + 1 + 1) w10 (w10.setCell ⟨w.heap.size + 1, 0, none⟩ (.slice pp (propL us q).length kp)) := (Btw.refl (w.heap.size + 1) (w.heap.size + 1 + 1) w10).setCell (p := ⟨w.heap.size + 1, 0, none⟩) (Nat.le_refl _) (Nat.lt_succ_self _) _
      generalize w10.setCell ⟨w.heap.size + 1, 0, none⟩ (.slice pp (propL us q).length kp) = w11 at hkz hm ⊢
      have HZ11 : Hid (w10.heap.size ≤ w11.heap.size) := Lib.hid hm.size
      have HB11 : Hid (Below w.heap.size w w11) := Lib.hid (HB10.out.trans (hm.below.mono (by have := HZ1.out; have := HZ2.out; have := HZ3.out; have := HZ4.out; have := HZ5.out; have := HZ6.out; have := HZ7.out; have := HZ8.out; have := HZ9.out; have := HZ10.out; have := HB0.out.size; omega)))
      have HRu11 := Lib.hid (HRu0.out.below HB11.out (Nat.le_refl _))
      have HRx11 := Lib.hid (HRx0.out.below HB11.out (Nat.le_refl _))
      have HKx11 := Lib.hid ((hm.block _ (by have := lt_of_block HKx10.out; have := HZ1.out; have := HZ2.out; have := HZ3.out; have := HZ4.out; have := HZ5.out; have := HZ6.out; have := HZ7.out; have := HZ8.out; have := HZ9.out; have := HZ10.out; omega)).trans HKx10.out)
      have HKy11 := Lib.hid ((hm.block _ (by have := lt_of_block HKy10.out; have := HZ1.out; have := HZ2.out; have := HZ3.out; have := HZ4.out; have := HZ5.out; have := HZ6.out; have := HZ7.out; have := HZ8.out; have := HZ9.out; have := HZ10.out; omega)).trans HKy10.out)
      have HOp11 := Lib.hid (HOp10.out.btw hm (by have := HZ1.out; have := HZ2.out; have := HZ3.out; have := HZ4.out; have := HZ5.out; have := HZ6.out; have := HZ7.out; have := HZ8.out; have := HZ9.out; have := HZ10.out; omega))
      have HKo11 := Lib.hid ((hm.block _ (by have := lt_of_block HKo10.out; have := HZ1.out; have := HZ2.out; have := HZ3.out; have := HZ4.out; have := HZ5.out; have := HZ6.out; have := HZ7.out; have := HZ8.out; have := HZ9.out; have := HZ10.out; omega)).trans HKo10.out)
      have HOq11 := Lib.hid (HOq10.out.btw hm (by have := HZ1.out; have := HZ2.out; have := HZ3.out; have := HZ4.out; have := HZ5.out; have := HZ6.out; have := HZ7.out; have := HZ8.out; have := HZ9.out; have := HZ10.out; omega))
      have HKb11 := Lib.hid ((hm.block _ (by have := lt_of_block HKb10.out; have := HZ1.out; have := HZ2.out; have := HZ3.out; have := HZ4.out; have := HZ5.out; have := HZ6.out; have := HZ7.out; have := HZ8.out; have := HZ9.out; have := HZ10.out; omega)).trans HKb10.out)
      clear hm
      have HKz11 := Lib.hid (hkz)
      clear hkz
      clear cx0 fx0 ltx cz0 fz0 ltz cy0 fy0 lty co0 fo0 lto cb0 fb0 ltb
      have ltx := lt_of_block HKx11.out
      obtain ⟨cx0, fx0⟩ := cell1 HKx11.out
      have lty := lt_of_block HKy11.out
      obtain ⟨cy0, fy0⟩ := cell1 HKy11.out
      have lto := lt_of_block HKo11.out
      obtain ⟨co0, fo0⟩ := cell1 HKo11.out
      have ltb := lt_of_block HKb11.out
      obtain ⟨cb0, fb0⟩ := cell1 HKb11.out
      have ltz := lt_of_block HKz11.out
      obtain ⟨cz0, fz0⟩ := cell1 HKz11.out
      refine hK.out _ _ (⟨co0, cb0⟩) (fun hHeld => ?_)
      clear hK K
      try simp only [Act.put]
      refine wpAnyH_ready (rs := [3]) (by kernel_rfl) (by simp) ?_
      refine AllReadyH.cons rfl (fun K hK => ?_) AllReadyH.nil
      go_simp
      have hkz := box1_set HKy11.out (.slice pq (propL us m).length kq)
      have hm : Btw (w.heap.size + 2) (w.heap.size + 2 + 1) w11 (w11.setCell ⟨w.heap.size + 2, 0, none⟩ (.slice pq (propL us m).length kq)) := (Btw.refl (w.heap.size + 2) (w.heap.size + 2 + 1) w11).setCell (p := ⟨w.heap.size + 2, 0, none⟩) (Nat.le_refl _) (Nat.lt_succ_self _) _
      generalize w11.setCell ⟨w.heap.size + 2, 0, none⟩ (.slice pq (propL us m).length kq) = w12 at hkz hm ⊢
      have HZ12 : Hid (w11.heap.size ≤ w12.heap.size) := Lib.hid hm.size
      have HB12 : Hid (Below w.heap.size w w12) := Lib.hid (HB11.out.trans (hm.below.mono (by have := HZ1.out; have := HZ2.out; have := HZ3.out; have := HZ4.out; have := HZ5.out; have := HZ6.out; have := HZ7.out; have := HZ8.out; have := HZ9.out; have := HZ10.out; have := HZ11.out; have := HB0.out.size; omega)))
      have HRu12 := Lib.hid (HRu0.out.below HB12.out (Nat.le_refl _))
      have HRx12 := Lib.hid (HRx0.out.below HB12.out (Nat.le_refl _))
      have HKx12 := Lib.hid ((hm.block _ (by have := lt_of_block HKx11.out; have := HZ1.out; have := HZ2.out; have := HZ3.out; have := HZ4.out; have := HZ5.out; have := HZ6.out; have := HZ7.out; have := HZ8.out; have := HZ9.out; have := HZ10.out; have := HZ11.out; omega)).trans HKx11.out)
      have HOp12 := Lib.hid (HOp11.out.btw hm (by have := HZ1.out; have := HZ2.out; have := HZ3.out; have := HZ4.out; have := HZ5.out; have := HZ6.out; have := HZ7.out; have := HZ8.out; have := HZ9.out; have := HZ10.out; have := HZ11.out; omega))
      have HKo12 := Lib.hid ((hm.block _ (by have := lt_of_block HKo11.out; have := HZ1.out; have := HZ2.out; have := HZ3.out; have := HZ4.out; have := HZ5.out; have := HZ6.out; have := HZ7.out; have := HZ8.out; have := HZ9.out; have := HZ10.out; have := HZ11.out; omega)).trans HKo11.out)
      have HOq12 := Lib.hid (HOq11.out.btw hm (by have := HZ1.out; have := HZ2.out; have := HZ3.out; have := HZ4.out; have := HZ5.out; have := HZ6.out; have := HZ7.out; have := HZ8.out; have := HZ9.out; have := HZ10.out; have := HZ11.out; omega))
      have HKb12 := Lib.hid ((hm.block _ (by have := lt_of_block HKb11.out; have := HZ1.out; have := HZ2.out; have := HZ3.out; have := HZ4.out; have := HZ5.out; have := HZ6.out; have := HZ7.out; have := HZ8.out; have := HZ9.out; have := HZ10.out; have := HZ11.out; omega)).trans HKb11.out)
      have HKz12 := Lib.hid ((hm.block _ (by have := lt_of_block HKz11.out; have := HZ1.out; have := HZ2.out; have := HZ3.out; have := HZ4.out; have := HZ5.out; have := HZ6.out; have := HZ7.out; have := HZ8.out; have := HZ9.out; have := HZ10.out; have := HZ11.out; omega)).trans HKz11.out)
      clear hm
      have HKy12 := Lib.hid (hkz)
      clear hkz
      clear cx0 fx0 ltx cy0 fy0 lty co0 fo0 lto cb0 fb0 ltb cz0 fz0 ltz
      have ltx := lt_of_block HKx12.out
      obtain ⟨cx0, fx0⟩ := cell1 HKx12.out
      have lto := lt_of_block HKo12.out
      obtain ⟨co0, fo0⟩ := cell1 HKo12.out
      have ltb := lt_of_block HKb12.out
      obtain ⟨cb0, fb0⟩ := cell1 HKb12.out
      have ltz := lt_of_block HKz12.out
      obtain ⟨cz0, fz0⟩ := cell1 HKz12.out
      have lty := lt_of_block HKy12.out
      obtain ⟨cy0, fy0⟩ := cell1 HKy12.out
      refine hK.out _ _ (⟨co0, cb0⟩) (fun hHeld => ?_)
      clear hK K
      try simp only [Act.put]
      refine take1 (i := 4) (v := ?v25) (some 8) rfl rfl (by kernel_rfl) (by kernel_rfl) (by kernel_rfl) (fun _ _ _ h => h) (Or.inl ⟨by rfl, ?y25⟩) (by assumption) ?r25
      case y25 => (intro w hSw; (try dsimp only at hSw); go_simp; (first | done | with_reducible rfl))
      try simp only [Act.put, List.setIfInBounds_toArray, List.set_cons_zero, List.set_cons_succ]
      refine wpAnyH_done (by kernel_rfl) ?_ _
      go_wp2_with fail
      exact bodyPost_ret (v := .tuple #[.agg #[.slice pp (propL us q).length kp], .agg #[.slice pq (propL us m).length kq], .bool true]) (by simp [results, Try.results34, go_sem, cz0, cy0]) rfl ⟨⟨_, _, rfl, (OwB.of HOp12.out HOq12.out (by have := HZ1.out; have := HZ2.out; have := HZ3.out; have := HZ4.out; have := HZ5.out; have := HZ6.out; have := HZ7.out; have := HZ8.out; have := HZ9.out; have := HZ10.out; have := HZ11.out; have := HZ12.out;  omega) (by have := HZ1.out; have := HZ2.out; have := HZ3.out; have := HZ4.out; have := HZ5.out; have := HZ6.out; have := HZ7.out; have := HZ8.out; have := HZ9.out; have := HZ10.out; have := HZ11.out; have := HZ12.out;  omega) (by have := HZ1.out; have := HZ2.out; have := HZ3.out; have := HZ4.out; have := HZ5.out; have := HZ6.out; have := HZ7.out; have := HZ8.out; have := HZ9.out; have := HZ10.out; have := HZ11.out; have := HZ12.out;  omega)).mono (by have := HZ1.out; have := HZ2.out; have := HZ3.out; have := HZ4.out; have := HZ5.out; have := HZ6.out; have := HZ7.out; have := HZ8.out; have := HZ9.out; have := HZ10.out; have := HZ11.out; have := HZ12.out;  omega) (by have := HZ1.out; have := HZ2.out; have := HZ3.out; have := HZ4.out; have := HZ5.out; have := HZ6.out; have := HZ7.out; have := HZ8.out; have := HZ9.out; have := HZ10.out; have := HZ11.out; have := HZ12.out;  omega)⟩, HB12.out⟩
    · by_cases hp1 : okP us q
      · have HP1 : Hid (PropF us q (propL us q) true) := Lib.hid (.inl ⟨hp1, rfl, rfl⟩)
        have HP2 : Hid (PropF us m [] false) := Lib.hid (.inr ⟨fun h => hop ⟨hp1, h⟩, rfl, rfl⟩)
        have HQ1 := Lib.hid hb1
        have HQ2 := Lib.hid hb2
        clear hp1 hop hm1 hqe hme hq1 hx9 n1 n2 hb1 hb2 hvx
        have HB0 : Hid (Below w.heap.size w w) := Lib.hid (Below.refl _ _)
        have HRu0 := Lib.hid (h)
        have HRx0 := Lib.hid (hx)
        clear h hs hx ho
        go_enter Try.func34, Try.ntmps34
        go_wp2_with fail
        have hb : Below w.heap.size w (w.alloc (.cells #[.slice a1 xs.length c1] 50)) := (Below.refl _ _).alloc (Nat.le_refl _) _
        have hk : (w.alloc (.cells #[.slice a1 xs.length c1] 50)).heap[w.heap.size]? = some (.cells #[.slice a1 xs.length c1] 50 (0, 0)) := alloc_at rfl
        have hz : (w.alloc (.cells #[.slice a1 xs.length c1] 50)).heap.size = w.heap.size + 1 := by simp
        generalize w.alloc (.cells #[.slice a1 xs.length c1] 50) = w1 at hb hk hz ⊢
        have HB1 : Hid (Below w.heap.size w w1) := Lib.hid (HB0.out.trans (hb.mono HB0.out.size))
        have HZ1 : Hid (w.heap.size ≤ w1.heap.size) := Lib.hid hb.size
        have HRu1 := Lib.hid (HRu0.out.below HB1.out (Nat.le_refl _))
        have HRx1 := Lib.hid (HRx0.out.below HB1.out (Nat.le_refl _))
        have HKx1 := Lib.hid hk
        replace HZ1 : Hid (w.heap.size < w1.heap.size) := Lib.hid (by omega)
        have HE1 := Lib.hid hz
        clear hb hk hz
        have hb : Below w1.heap.size w1 (w1.alloc (.cells #[.slice none 0 0] 50)) := (Below.refl _ _).alloc (Nat.le_refl _) _
        have hk : (w1.alloc (.cells #[.slice none 0 0] 50)).heap[w.heap.size + 1]? = some (.cells #[.slice none 0 0] 50 (0, 0)) := alloc_at (by have := HE1.out; omega)
        have hz : (w1.alloc (.cells #[.slice none 0 0] 50)).heap.size = w1.heap.size + 1 := by simp
        generalize w1.alloc (.cells #[.slice none 0 0] 50) = w2 at hb hk hz ⊢
        have HB2 : Hid (Below w.heap.size w w2) := Lib.hid (HB1.out.trans (hb.mono HB1.out.size))
        have HZ2 : Hid (w1.heap.size ≤ w2.heap.size) := Lib.hid hb.size
        have HRu2 := Lib.hid (HRu0.out.below HB2.out (Nat.le_refl _))
        have HRx2 := Lib.hid (HRx0.out.below HB2.out (Nat.le_refl _))
        have HKx2 := Lib.hid ((hb.block _ (lt_of_block HKx1.out)).trans HKx1.out)
        have HKz2 := Lib.hid hk
        replace HZ2 : Hid (w1.heap.size < w2.heap.size) := Lib.hid (by omega)
        have HE2 := Lib.hid hz
        clear hb hk hz
        have hb : Below w2.heap.size w2 (w2.alloc (.cells #[.slice none 0 0] 50)) := (Below.refl _ _).alloc (Nat.le_refl _) _
        have hk : (w2.alloc (.cells #[.slice none 0 0] 50)).heap[w.heap.size + 2]? = some (.cells #[.slice none 0 0] 50 (0, 0)) := alloc_at (by have := HE1.out; have := HE2.out; omega)
        have hz : (w2.alloc (.cells #[.slice none 0 0] 50)).heap.size = w2.heap.size + 1 := by simp
        generalize w2.alloc (.cells #[.slice none 0 0] 50) = w3 at hb hk hz ⊢
        have HB3 : Hid (Below w.heap.size w w3) := Lib.hid (HB2.out.trans (hb.mono HB2.out.size))
        have HZ3 : Hid (w2.heap.size ≤ w3.heap.size) := Lib.hid hb.size
        have HRu3 := Lib.hid (HRu0.out.below HB3.out (Nat.le_refl _))
        have HRx3 := Lib.hid (HRx0.out.below HB3.out (Nat.le_refl _))
        have HKx3 := Lib.hid ((hb.block _ (lt_of_block HKx2.out)).trans HKx2.out)
        have HKz3 := Lib.hid ((hb.block _ (lt_of_block HKz2.out)).trans HKz2.out)
        have HKy3 := Lib.hid hk
        replace HZ3 : Hid (w2.heap.size < w3.heap.size) := Lib.hid (by omega)
        have HE3 := Lib.hid hz
        clear hb hk hz
        have hlz : w.heap.size + 2 < w3.heap.size := lt_of_block HKy3.out
        have ltx := lt_of_block HKx3.out
        obtain ⟨cx0, fx0⟩ := cell1 HKx3.out
        have ltz := lt_of_block HKz3.out
        obtain ⟨cz0, fz0⟩ := cell1 HKz3.out
        have lty := lt_of_block HKy3.out
        obtain ⟨cy0, fy0⟩ := cell1 HKy3.out
        refine (l7Amount_any _ _ us xs _ HRu3.out HS.out HRx3.out true ⟨fun _ => HO.out.1, fun _ => rfl⟩).mono ?_
        rintro e w4 ⟨rfl, hb⟩
        have HB4 : Hid (Below w.heap.size w w4) := Lib.hid (HB3.out.trans (hb.mono HB3.out.size))
        have HZ4 : Hid (w3.heap.size ≤ w4.heap.size) := Lib.hid hb.size
        have HRu4 := Lib.hid (HRu0.out.below HB4.out (Nat.le_refl _))
        have HRx4 := Lib.hid (HRx0.out.below HB4.out (Nat.le_refl _))
        have HKx4 := Lib.hid ((hb.block _ (lt_of_block HKx3.out)).trans HKx3.out)
        have HKz4 := Lib.hid ((hb.block _ (lt_of_block HKz3.out)).trans HKz3.out)
        have HKy4 := Lib.hid ((hb.block _ (lt_of_block HKy3.out)).trans HKy3.out)
        clear hb
        clear cx0 fx0 ltx cz0 fz0 ltz cy0 fy0 lty
        have ltx := lt_of_block HKx4.out
        obtain ⟨cx0, fx0⟩ := cell1 HKx4.out
        have ltz := lt_of_block HKz4.out
        obtain ⟨cz0, fz0⟩ := cell1 HKz4.out
        have lty := lt_of_block HKy4.out
        obtain ⟨cy0, fy0⟩ := cell1 HKy4.out
        go_wp2_with fail
        refine (l1In_yesq _ _ _ _ HNM.out).mono ?_
        rintro e w' ⟨rfl, hw'⟩
        subst w'
        go_wp2_with fail
        refine (l7Value_any _ _ us xs _ HRu4.out HRx4.out HO.out.1).mono ?_
        rintro e w5 ⟨rfl, hb⟩
        have HB5 : Hid (Below w.heap.size w w5) := Lib.hid (HB4.out.trans (hb.mono HB4.out.size))
        have HZ5 : Hid (w4.heap.size ≤ w5.heap.size) := Lib.hid hb.size
        have HRu5 := Lib.hid (HRu0.out.below HB5.out (Nat.le_refl _))
        have HRx5 := Lib.hid (HRx0.out.below HB5.out (Nat.le_refl _))
        have HKx5 := Lib.hid ((hb.block _ (lt_of_block HKx4.out)).trans HKx4.out)
        have HKz5 := Lib.hid ((hb.block _ (lt_of_block HKz4.out)).trans HKz4.out)
        have HKy5 := Lib.hid ((hb.block _ (lt_of_block HKy4.out)).trans HKy4.out)
        clear hb
        rw [← HX9.out]
        clear cx0 fx0 ltx cz0 fz0 ltz cy0 fy0 lty
        have ltx := lt_of_block HKx5.out
        obtain ⟨cx0, fx0⟩ := cell1 HKx5.out
        have ltz := lt_of_block HKz5.out
        obtain ⟨cz0, fz0⟩ := cell1 HKz5.out
        have lty := lt_of_block HKy5.out
        obtain ⟨cy0, fy0⟩ := cell1 HKy5.out
        go_wp2_with fail
        refine (l7Proper_any _ us q _ HRu5.out HS.out HO.out.1.1 HQ1.out.2 (propL us q) true HP1.out).mono ?_
        rintro e w6 ⟨⟨s1, rfl, ho⟩, hb⟩
        have HB6 : Hid (Below w.heap.size w w6) := Lib.hid (HB5.out.trans (hb.mono HB5.out.size))
        have HZ6 : Hid (w5.heap.size ≤ w6.heap.size) := Lib.hid hb.size
        have HRu6 := Lib.hid (HRu0.out.below HB6.out (Nat.le_refl _))
        have HRx6 := Lib.hid (HRx0.out.below HB6.out (Nat.le_refl _))
        have HKx6 := Lib.hid ((hb.block _ (lt_of_block HKx5.out)).trans HKx5.out)
        have HKz6 := Lib.hid ((hb.block _ (lt_of_block HKz5.out)).trans HKz5.out)
        have HKy6 := Lib.hid ((hb.block _ (lt_of_block HKy5.out)).trans HKy5.out)
        clear hb
        obtain ⟨pp, kp, rfl⟩ := ho.form
        have HOp6 := Lib.hid (ho)
        clear ho
        clear cx0 fx0 ltx cz0 fz0 ltz cy0 fy0 lty
        have ltx := lt_of_block HKx6.out
        obtain ⟨cx0, fx0⟩ := cell1 HKx6.out
        have ltz := lt_of_block HKz6.out
        obtain ⟨cz0, fz0⟩ := cell1 HKz6.out
        have lty := lt_of_block HKy6.out
        obtain ⟨cy0, fy0⟩ := cell1 HKy6.out
        go_wp2_with fail
        have hb : Below w6.heap.size w6 (w6.alloc (.cells #[.slice pp ((propL us q)).length kp] 50)) := (Below.refl _ _).alloc (Nat.le_refl _) _
        have hk : (w6.alloc (.cells #[.slice pp ((propL us q)).length kp] 50)).heap[w6.heap.size]? = some (.cells #[.slice pp ((propL us q)).length kp] 50 (0, 0)) := alloc_at rfl
        have hz : (w6.alloc (.cells #[.slice pp ((propL us q)).length kp] 50)).heap.size = w6.heap.size + 1 := by simp
        generalize w6.alloc (.cells #[.slice pp ((propL us q)).length kp] 50) = w7 at hb hk hz ⊢
        have HB7 : Hid (Below w.heap.size w w7) := Lib.hid (HB6.out.trans (hb.mono HB6.out.size))
        have HZ7 : Hid (w6.heap.size ≤ w7.heap.size) := Lib.hid hb.size
        have HRu7 := Lib.hid (HRu0.out.below HB7.out (Nat.le_refl _))
        have HRx7 := Lib.hid (HRx0.out.below HB7.out (Nat.le_refl _))
        have HKx7 := Lib.hid ((hb.block _ (lt_of_block HKx6.out)).trans HKx6.out)
        have HKz7 := Lib.hid ((hb.block _ (lt_of_block HKz6.out)).trans HKz6.out)
        have HKy7 := Lib.hid ((hb.block _ (lt_of_block HKy6.out)).trans HKy6.out)
        have HOp7 := Lib.hid (HOp6.out.next hb)
        have HKo7 := Lib.hid hk
        replace HZ7 : Hid (w6.heap.size < w7.heap.size) := Lib.hid (by omega)
        have HE7 := Lib.hid hz
        clear hb hk hz
        clear cx0 fx0 ltx cz0 fz0 ltz cy0 fy0 lty
        have ltx := lt_of_block HKx7.out
        obtain ⟨cx0, fx0⟩ := cell1 HKx7.out
        have ltz := lt_of_block HKz7.out
        obtain ⟨cz0, fz0⟩ := cell1 HKz7.out
        have lty := lt_of_block HKy7.out
        obtain ⟨cy0, fy0⟩ := cell1 HKy7.out
        have lto := lt_of_block HKo7.out
        obtain ⟨co0, fo0⟩ := cell1 HKo7.out
        refine (l7Proper_any _ us m _ HRu7.out HS.out HO.out.1.1 HQ2.out.2 [] false HP2.out).mono ?_
        rintro e w8 ⟨⟨s1, rfl, ho⟩, hb⟩
        have HB8 : Hid (Below w.heap.size w w8) := Lib.hid (HB7.out.trans (hb.mono HB7.out.size))
        have HZ8 : Hid (w7.heap.size ≤ w8.heap.size) := Lib.hid hb.size
        have HRu8 := Lib.hid (HRu0.out.below HB8.out (Nat.le_refl _))
        have HRx8 := Lib.hid (HRx0.out.below HB8.out (Nat.le_refl _))
        have HKx8 := Lib.hid ((hb.block _ (lt_of_block HKx7.out)).trans HKx7.out)
        have HKz8 := Lib.hid ((hb.block _ (lt_of_block HKz7.out)).trans HKz7.out)
        have HKy8 := Lib.hid ((hb.block _ (lt_of_block HKy7.out)).trans HKy7.out)
        have HOp8 := Lib.hid (HOp7.out.next hb)
        have HKo8 := Lib.hid ((hb.block _ (lt_of_block HKo7.out)).trans HKo7.out)
        clear hb
        obtain ⟨pq, kq, rfl⟩ := ho.form
        have HOq8 := Lib.hid (ho)
        clear ho
        clear cx0 fx0 ltx cz0 fz0 ltz cy0 fy0 lty co0 fo0 lto
        have ltx := lt_of_block HKx8.out
        obtain ⟨cx0, fx0⟩ := cell1 HKx8.out
        have ltz := lt_of_block HKz8.out
        obtain ⟨cz0, fz0⟩ := cell1 HKz8.out
        have lty := lt_of_block HKy8.out
        obtain ⟨cy0, fy0⟩ := cell1 HKy8.out
        have lto := lt_of_block HKo8.out
        obtain ⟨co0, fo0⟩ := cell1 HKo8.out
        go_wp2_with fail
        have hkz := box1_set HKz8.out (.slice none 0 0)
        have hm : Btw (w.heap.size + 1) (w.heap.size + 1 + 1) w8 (w8.setCell ⟨w.heap.size + 1, 0, none⟩ (.slice none 0 0)) := (Btw.refl (w.heap.size + 1) (w.heap.size + 1 + 1) w8).setCell (p := ⟨w.heap.size + 1, 0, none⟩) (Nat.le_refl _) (Nat.lt_succ_self _) _
        generalize w8.setCell ⟨w.heap.size + 1, 0, none⟩ (.slice none 0 0) = w9 at hkz hm ⊢
        have HZ9 : Hid (w8.heap.size ≤ w9.heap.size) := Lib.hid hm.size
        have HB9 : Hid (Below w.heap.size w w9) := Lib.hid (HB8.out.trans (hm.below.mono (by have := HZ1.out; have := HZ2.out; have := HZ3.out; have := HZ4.out; have := HZ5.out; have := HZ6.out; have := HZ7.out; have := HZ8.out; have := HB0.out.size; omega)))
        have HRu9 := Lib.hid (HRu0.out.below HB9.out (Nat.le_refl _))
        have HRx9 := Lib.hid (HRx0.out.below HB9.out (Nat.le_refl _))
        have HKx9 := Lib.hid ((hm.block _ (by have := lt_of_block HKx8.out; have := HZ1.out; have := HZ2.out; have := HZ3.out; have := HZ4.out; have := HZ5.out; have := HZ6.out; have := HZ7.out; have := HZ8.out; omega)).trans HKx8.out)
        have HKy9 := Lib.hid ((hm.block _ (by have := lt_of_block HKy8.out; have := HZ1.out; have := HZ2.out; have := HZ3.out; have := HZ4.out; have := HZ5.out; have := HZ6.out; have := HZ7.out; have := HZ8.out; omega)).trans HKy8.out)
        have HOp9 := Lib.hid (HOp8.out.btw hm (by have := HZ1.out; have := HZ2.out; have := HZ3.out; have := HZ4.out; have := HZ5.out; have := HZ6.out; have := HZ7.out; have := HZ8.out; omega))
        have HKo9 := Lib.hid ((hm.block _ (by have := lt_of_block HKo8.out; have := HZ1.out; have := HZ2.out; have := HZ3.out; have := HZ4.out; have := HZ5.out; have := HZ6.out; have := HZ7.out; have := HZ8.out; omega)).trans HKo8.out)
        have HOq9 := Lib.hid (HOq8.out.btw hm (by have := HZ1.out; have := HZ2.out; have := HZ3.out; have := HZ4.out; have := HZ5.out; have := HZ6.out; have := HZ7.out; have := HZ8.out; omega))
        clear hm
        have HKz9 := Lib.hid (hkz)
        clear hkz
        clear cx0 fx0 ltx cz0 fz0 ltz cy0 fy0 lty co0 fo0 lto
        have ltx := lt_of_block HKx9.out
        obtain ⟨cx0, fx0⟩ := cell1 HKx9.out
        have lty := lt_of_block HKy9.out
        obtain ⟨cy0, fy0⟩ := cell1 HKy9.out
        have lto := lt_of_block HKo9.out
        obtain ⟨co0, fo0⟩ := cell1 HKo9.out
        have ltz := lt_of_block HKz9.out
        obtain ⟨cz0, fz0⟩ := cell1 HKz9.out
        have hkz := box1_set HKy9.out (.slice none 0 0)
        have hm : Btw (w.heap.size + 2) (w.heap.size + 2 + 1) w9 (w9.setCell ⟨w.heap.size + 2, 0, none⟩ (.slice none 0 0)) := (Btw.refl (w.heap.size + 2) (w.heap.size + 2 + 1) w9).setCell (p := ⟨w.heap.size + 2, 0, none⟩) (Nat.le_refl _) (Nat.lt_succ_self _) _
        generalize w9.setCell ⟨w.heap.size + 2, 0, none⟩ (.slice none 0 0) = w10 at hkz hm ⊢
        have HZ10 : Hid (w9.heap.size ≤ w10.heap.size) := Lib.hid hm.size
        have HB10 : Hid (Below w.heap.size w w10) := Lib.hid (HB9.out.trans (hm.below.mono (by have := HZ1.out; have := HZ2.out; have := HZ3.out; have := HZ4.out; have := HZ5.out; have := HZ6.out; have := HZ7.out; have := HZ8.out; have := HZ9.out; have := HB0.out.size; omega)))
        have HRu10 := Lib.hid (HRu0.out.below HB10.out (Nat.le_refl _))
        have HRx10 := Lib.hid (HRx0.out.below HB10.out (Nat.le_refl _))
        have HKx10 := Lib.hid ((hm.block _ (by have := lt_of_block HKx9.out; have := HZ1.out; have := HZ2.out; have := HZ3.out; have := HZ4.out; have := HZ5.out; have := HZ6.out; have := HZ7.out; have := HZ8.out; have := HZ9.out; omega)).trans HKx9.out)
        have HOp10 := Lib.hid (HOp9.out.btw hm (by have := HZ1.out; have := HZ2.out; have := HZ3.out; have := HZ4.out; have := HZ5.out; have := HZ6.out; have := HZ7.out; have := HZ8.out; have := HZ9.out; omega))
        have HKo10 := Lib.hid ((hm.block _ (by have := lt_of_block HKo9.out; have := HZ1.out; have := HZ2.out; have := HZ3.out; have := HZ4.out; have := HZ5.out; have := HZ6.out; have := HZ7.out; have := HZ8.out; have := HZ9.out; omega)).trans HKo9.out)
        have HOq10 := Lib.hid (HOq9.out.btw hm (by have := HZ1.out; have := HZ2.out; have := HZ3.out; have := HZ4.out; have := HZ5.out; have := HZ6.out; have := HZ7.out; have := HZ8.out; have := HZ9.out; omega))
        have HKz10 := Lib.hid ((hm.block _ (by have := lt_of_block HKz9.out; have := HZ1.out; have := HZ2.out; have := HZ3.out; have := HZ4.out; have := HZ5.out; have := HZ6.out; have := HZ7.out; have := HZ8.out; have := HZ9.out; omega)).trans HKz9.out)
        clear hm
        have HKy10 := Lib.hid (hkz)
        clear hkz
        clear cx0 fx0 ltx cy0 fy0 lty co0 fo0 lto cz0 fz0 ltz
        have ltx := lt_of_block HKx10.out
        obtain ⟨cx0, fx0⟩ := cell1 HKx10.out
        have lto := lt_of_block HKo10.out
        obtain ⟨co0, fo0⟩ := cell1 HKo10.out
        have ltz := lt_of_block HKz10.out
        obtain ⟨cz0, fz0⟩ := cell1 HKz10.out
        have lty := lt_of_block HKy10.out
        obtain ⟨cy0, fy0⟩ := cell1 HKy10.out
        have hb : Below w10.heap.size w10 (w10.alloc (.cells #[.slice pq 0 kq] 50)) := (Below.refl _ _).alloc (Nat.le_refl _) _
        have hk : (w10.alloc (.cells #[.slice pq 0 kq] 50)).heap[w10.heap.size]? = some (.cells #[.slice pq 0 kq] 50 (0, 0)) := alloc_at rfl
        have hz : (w10.alloc (.cells #[.slice pq 0 kq] 50)).heap.size = w10.heap.size + 1 := by simp
        generalize w10.alloc (.cells #[.slice pq 0 kq] 50) = w11 at hb hk hz ⊢
        have HB11 : Hid (Below w.heap.size w w11) := Lib.hid (HB10.out.trans (hb.mono HB10.out.size))
        have HZ11 : Hid (w10.heap.size ≤ w11.heap.size) := Lib.hid hb.size
        have HRu11 := Lib.hid (HRu0.out.below HB11.out (Nat.le_refl _))
        have HRx11 := Lib.hid (HRx0.out.below HB11.out (Nat.le_refl _))
        have HKx11 := Lib.hid ((hb.block _ (lt_of_block HKx10.out)).trans HKx10.out)
        have HOp11 := Lib.hid (HOp10.out.next hb)
        have HKo11 := Lib.hid ((hb.block _ (lt_of_block HKo10.out)).trans HKo10.out)
        have HOq11 := Lib.hid (HOq10.out.next hb)
        have HKz11 := Lib.hid ((hb.block _ (lt_of_block HKz10.out)).trans HKz10.out)
        have HKy11 := Lib.hid ((hb.block _ (lt_of_block HKy10.out)).trans HKy10.out)
        have HKb11 := Lib.hid hk
        replace HZ11 : Hid (w10.heap.size < w11.heap.size) := Lib.hid (by omega)
        have HE11 := Lib.hid hz
        clear hb hk hz
        clear cx0 fx0 ltx co0 fo0 lto cz0 fz0 ltz cy0 fy0 lty
        have ltx := lt_of_block HKx11.out
        obtain ⟨cx0, fx0⟩ := cell1 HKx11.out
        have lto := lt_of_block HKo11.out
        obtain ⟨co0, fo0⟩ := cell1 HKo11.out
        have ltz := lt_of_block HKz11.out
        obtain ⟨cz0, fz0⟩ := cell1 HKz11.out
        have lty := lt_of_block HKy11.out
        obtain ⟨cy0, fy0⟩ := cell1 HKy11.out
        have ltb := lt_of_block HKb11.out
        obtain ⟨cb0, fb0⟩ := cell1 HKb11.out
        exact bodyPost_ret (v := .tuple #[.agg #[.slice none 0 0], .agg #[.slice none 0 0], .bool false]) (by simp [results, Try.results34, go_sem, cz0, cy0]) rfl ⟨⟨_, _, rfl, OwB.nil7 _ _ _⟩, by first | exact HB11.out | exact (HB11.out.setCell (p := ⟨w.heap.size + 1, 0, none⟩) (by show w.heap.size ≤ w.heap.size + 1; omega) _).setCell (p := ⟨w.heap.size + 2, 0, none⟩) (by show w.heap.size ≤ w.heap.size + 2; omega) _⟩
      · obtain ⟨q2, r2, hp2⟩ := propF_or us m
        have HP1 : Hid (PropF us q [] false) := Lib.hid (.inr ⟨hp1, rfl, rfl⟩)
        have HP2 := Lib.hid hp2
        have HQ1 := Lib.hid hb1
        have HQ2 := Lib.hid hb2
        clear hp1 hp2 hop hm1 hqe hme hq1 hx9 n1 n2 hb1 hb2 hvx
        have HB0 : Hid (Below w.heap.size w w) := Lib.hid (Below.refl _ _)
        have HRu0 := Lib.hid (h)
        have HRx0 := Lib.hid (hx)
        clear h hs hx ho
        go_enter Try.func34, Try.ntmps34
        go_wp2_with fail
        have hb : Below w.heap.size w (w.alloc (.cells #[.slice a1 xs.length c1] 50)) := (Below.refl _ _).alloc (Nat.le_refl _) _
        have hk : (w.alloc (.cells #[.slice a1 xs.length c1] 50)).heap[w.heap.size]? = some (.cells #[.slice a1 xs.length c1] 50 (0, 0)) := alloc_at rfl
        have hz : (w.alloc (.cells #[.slice a1 xs.length c1] 50)).heap.size = w.heap.size + 1 := by simp
        generalize w.alloc (.cells #[.slice a1 xs.length c1] 50) = w1 at hb hk hz ⊢
        have HB1 : Hid (Below w.heap.size w w1) := Lib.hid (HB0.out.trans (hb.mono HB0.out.size))
        have HZ1 : Hid (w.heap.size ≤ w1.heap.size) := Lib.hid hb.size
        have HRu1 := Lib.hid (HRu0.out.below HB1.out (Nat.le_refl _))
        have HRx1 := Lib.hid (HRx0.out.below HB1.out (Nat.le_refl _))
        have HKx1 := Lib.hid hk
        replace HZ1 : Hid (w.heap.size < w1.heap.size) := Lib.hid (by omega)
        have HE1 := Lib.hid hz
        clear hb hk hz
        have hb : Below w1.heap.size w1 (w1.alloc (.cells #[.slice none 0 0] 50)) := (Below.refl _ _).alloc (Nat.le_refl _) _
        have hk : (w1.alloc (.cells #[.slice none 0 0] 50)).heap[w.heap.size + 1]? = some (.cells #[.slice none 0 0] 50 (0, 0)) := alloc_at (by have := HE1.out; omega)
        have hz : (w1.alloc (.cells #[.slice none 0 0] 50)).heap.size = w1.heap.size + 1 := by simp
        generalize w1.alloc (.cells #[.slice none 0 0] 50) = w2 at hb hk hz ⊢
        have HB2 : Hid (Below w.heap.size w w2) := Lib.hid (HB1.out.trans (hb.mono HB1.out.size))
        have HZ2 : Hid (w1.heap.size ≤ w2.heap.size) := Lib.hid hb.size
        have HRu2 := Lib.hid (HRu0.out.below HB2.out (Nat.le_refl _))
        have HRx2 := Lib.hid (HRx0.out.below HB2.out (Nat.le_refl _))
        have HKx2 := Lib.hid ((hb.block _ (lt_of_block HKx1.out)).trans HKx1.out)
        have HKz2 := Lib.hid hk
        replace HZ2 : Hid (w1.heap.size < w2.heap.size) := Lib.hid (by omega)
        have HE2 := Lib.hid hz
        clear hb hk hz
        have hb : Below w2.heap.size w2 (w2.alloc (.cells #[.slice none 0 0] 50)) := (Below.refl _ _).alloc (Nat.le_refl _) _
        have hk : (w2.alloc (.cells #[.slice none 0 0] 50)).heap[w.heap.size + 2]? = some (.cells #[.slice none 0 0] 50 (0, 0)) := alloc_at (by have := HE1.out; have := HE2.out; omega)
        have hz : (w2.alloc (.cells #[.slice none 0 0] 50)).heap.size = w2.heap.size + 1 := by simp
        generalize w2.alloc (.cells #[.slice none 0 0] 50) = w3 at hb hk hz ⊢
        have HB3 : Hid (Below w.heap.size w w3) := Lib.hid (HB2.out.trans (hb.mono HB2.out.size))
        have HZ3 : Hid (w2.heap.size ≤ w3.heap.size) := Lib.hid hb.size
        have HRu3 := Lib.hid (HRu0.out.below HB3.out (Nat.le_refl _))
        have HRx3 := Lib.hid (HRx0.out.below HB3.out (Nat.le_refl _))
        have HKx3 := Lib.hid ((hb.block _ (lt_of_block HKx2.out)).trans HKx2.out)
        have HKz3 := Lib.hid ((hb.block _ (lt_of_block HKz2.out)).trans HKz2.out)
        have HKy3 := Lib.hid hk
        replace HZ3 : Hid (w2.heap.size < w3.heap.size) := Lib.hid (by omega)
        have HE3 := Lib.hid hz
        clear hb hk hz
        have hlz : w.heap.size + 2 < w3.heap.size := lt_of_block HKy3.out
        have ltx := lt_of_block HKx3.out
        obtain ⟨cx0, fx0⟩ := cell1 HKx3.out
        have ltz := lt_of_block HKz3.out
        obtain ⟨cz0, fz0⟩ := cell1 HKz3.out
        have lty := lt_of_block HKy3.out
        obtain ⟨cy0, fy0⟩ := cell1 HKy3.out
        refine (l7Amount_any _ _ us xs _ HRu3.out HS.out HRx3.out true ⟨fun _ => HO.out.1, fun _ => rfl⟩).mono ?_
        rintro e w4 ⟨rfl, hb⟩
        have HB4 : Hid (Below w.heap.size w w4) := Lib.hid (HB3.out.trans (hb.mono HB3.out.size))
        have HZ4 : Hid (w3.heap.size ≤ w4.heap.size) := Lib.hid hb.size
        have HRu4 := Lib.hid (HRu0.out.below HB4.out (Nat.le_refl _))
        have HRx4 := Lib.hid (HRx0.out.below HB4.out (Nat.le_refl _))
        have HKx4 := Lib.hid ((hb.block _ (lt_of_block HKx3.out)).trans HKx3.out)
        have HKz4 := Lib.hid ((hb.block _ (lt_of_block HKz3.out)).trans HKz3.out)
        have HKy4 := Lib.hid ((hb.block _ (lt_of_block HKy3.out)).trans HKy3.out)
        clear hb
        clear cx0 fx0 ltx cz0 fz0 ltz cy0 fy0 lty
        have ltx := lt_of_block HKx4.out
        obtain ⟨cx0, fx0⟩ := cell1 HKx4.out
        have ltz := lt_of_block HKz4.out
        obtain ⟨cz0, fz0⟩ := cell1 HKz4.out
        have lty := lt_of_block HKy4.out
        obtain ⟨cy0, fy0⟩ := cell1 HKy4.out
        go_wp2_with fail
        refine (l1In_yesq _ _ _ _ HNM.out).mono ?_
        rintro e w' ⟨rfl, hw'⟩
        subst w'
        go_wp2_with fail
        refine (l7Value_any _ _ us xs _ HRu4.out HRx4.out HO.out.1).mono ?_
        rintro e w5 ⟨rfl, hb⟩
        have HB5 : Hid (Below w.heap.size w w5) := Lib.hid (HB4.out.trans (hb.mono HB4.out.size))
        have HZ5 : Hid (w4.heap.size ≤ w5.heap.size) := Lib.hid hb.size
        have HRu5 := Lib.hid (HRu0.out.below HB5.out (Nat.le_refl _))
        have HRx5 := Lib.hid (HRx0.out.below HB5.out (Nat.le_refl _))
        have HKx5 := Lib.hid ((hb.block _ (lt_of_block HKx4.out)).trans HKx4.out)
        have HKz5 := Lib.hid ((hb.block _ (lt_of_block HKz4.out)).trans HKz4.out)
        have HKy5 := Lib.hid ((hb.block _ (lt_of_block HKy4.out)).trans HKy4.out)
        clear hb
        rw [← HX9.out]
        clear cx0 fx0 ltx cz0 fz0 ltz cy0 fy0 lty
        have ltx := lt_of_block HKx5.out
        obtain ⟨cx0, fx0⟩ := cell1 HKx5.out
        have ltz := lt_of_block HKz5.out
        obtain ⟨cz0, fz0⟩ := cell1 HKz5.out
        have lty := lt_of_block HKy5.out
        obtain ⟨cy0, fy0⟩ := cell1 HKy5.out
        go_wp2_with fail
        refine (l7Proper_any _ us q _ HRu5.out HS.out HO.out.1.1 HQ1.out.2 [] false HP1.out).mono ?_
        rintro e w6 ⟨⟨s1, rfl, ho⟩, hb⟩
        have HB6 : Hid (Below w.heap.size w w6) := Lib.hid (HB5.out.trans (hb.mono HB5.out.size))
        have HZ6 : Hid (w5.heap.size ≤ w6.heap.size) := Lib.hid hb.size
        have HRu6 := Lib.hid (HRu0.out.below HB6.out (Nat.le_refl _))
        have HRx6 := Lib.hid (HRx0.out.below HB6.out (Nat.le_refl _))
        have HKx6 := Lib.hid ((hb.block _ (lt_of_block HKx5.out)).trans HKx5.out)
        have HKz6 := Lib.hid ((hb.block _ (lt_of_block HKz5.out)).trans HKz5.out)
        have HKy6 := Lib.hid ((hb.block _ (lt_of_block HKy5.out)).trans HKy5.out)
        clear hb
        obtain ⟨pp, kp, rfl⟩ := ho.form
        have HOp6 := Lib.hid (ho)
        clear ho
        clear cx0 fx0 ltx cz0 fz0 ltz cy0 fy0 lty
        have ltx := lt_of_block HKx6.out
        obtain ⟨cx0, fx0⟩ := cell1 HKx6.out
        have ltz := lt_of_block HKz6.out
        obtain ⟨cz0, fz0⟩ := cell1 HKz6.out
        have lty := lt_of_block HKy6.out
        obtain ⟨cy0, fy0⟩ := cell1 HKy6.out
        go_wp2_with fail
        have hb : Below w6.heap.size w6 (w6.alloc (.cells #[.slice pp 0 kp] 50)) := (Below.refl _ _).alloc (Nat.le_refl _) _
        have hk : (w6.alloc (.cells #[.slice pp 0 kp] 50)).heap[w6.heap.size]? = some (.cells #[.slice pp 0 kp] 50 (0, 0)) := alloc_at rfl
        have hz : (w6.alloc (.cells #[.slice pp 0 kp] 50)).heap.size = w6.heap.size + 1 := by simp
        generalize w6.alloc (.cells #[.slice pp 0 kp] 50) = w7 at hb hk hz ⊢
        have HB7 : Hid (Below w.heap.size w w7) := Lib.hid (HB6.out.trans (hb.mono HB6.out.size))
        have HZ7 : Hid (w6.heap.size ≤ w7.heap.size) := Lib.hid hb.size
        have HRu7 := Lib.hid (HRu0.out.below HB7.out (Nat.le_refl _))
        have HRx7 := Lib.hid (HRx0.out.below HB7.out (Nat.le_refl _))
        have HKx7 := Lib.hid ((hb.block _ (lt_of_block HKx6.out)).trans HKx6.out)
        have HKz7 := Lib.hid ((hb.block _ (lt_of_block HKz6.out)).trans HKz6.out)
        have HKy7 := Lib.hid ((hb.block _ (lt_of_block HKy6.out)).trans HKy6.out)
        have HOp7 := Lib.hid (HOp6.out.next hb)
        have HKo7 := Lib.hid hk
        replace HZ7 : Hid (w6.heap.size < w7.heap.size) := Lib.hid (by omega)
        have HE7 := Lib.hid hz
        clear hb hk hz
        clear cx0 fx0 ltx cz0 fz0 ltz cy0 fy0 lty
        have ltx := lt_of_block HKx7.out
        obtain ⟨cx0, fx0⟩ := cell1 HKx7.out
        have ltz := lt_of_block HKz7.out
        obtain ⟨cz0, fz0⟩ := cell1 HKz7.out
        have lty := lt_of_block HKy7.out
        obtain ⟨cy0, fy0⟩ := cell1 HKy7.out
        have lto := lt_of_block HKo7.out
        obtain ⟨co0, fo0⟩ := cell1 HKo7.out
        refine (l7Proper_any _ us m _ HRu7.out HS.out HO.out.1.1 HQ2.out.2 q2 r2 HP2.out).mono ?_
        rintro e w8 ⟨⟨s1, rfl, ho⟩, hb⟩
        have HB8 : Hid (Below w.heap.size w w8) := Lib.hid (HB7.out.trans (hb.mono HB7.out.size))
        have HZ8 : Hid (w7.heap.size ≤ w8.heap.size) := Lib.hid hb.size
        have HRu8 := Lib.hid (HRu0.out.below HB8.out (Nat.le_refl _))
        have HRx8 := Lib.hid (HRx0.out.below HB8.out (Nat.le_refl _))
        have HKx8 := Lib.hid ((hb.block _ (lt_of_block HKx7.out)).trans HKx7.out)
        have HKz8 := Lib.hid ((hb.block _ (lt_of_block HKz7.out)).trans HKz7.out)
        have HKy8 := Lib.hid ((hb.block _ (lt_of_block HKy7.out)).trans HKy7.out)
        have HOp8 := Lib.hid (HOp7.out.next hb)
        have HKo8 := Lib.hid ((hb.block _ (lt_of_block HKo7.out)).trans HKo7.out)
        clear hb
        obtain ⟨pq, kq, rfl⟩ := ho.form
        have HOq8 := Lib.hid (ho)
        clear ho
        clear cx0 fx0 ltx cz0 fz0 ltz cy0 fy0 lty co0 fo0 lto
        have ltx := lt_of_block HKx8.out
        obtain ⟨cx0, fx0⟩ := cell1 HKx8.out
        have ltz := lt_of_block HKz8.out
        obtain ⟨cz0, fz0⟩ := cell1 HKz8.out
        have lty := lt_of_block HKy8.out
        obtain ⟨cy0, fy0⟩ := cell1 HKy8.out
        have lto := lt_of_block HKo8.out
        obtain ⟨co0, fo0⟩ := cell1 HKo8.out
        go_wp2_with fail
        have hkz := box1_set HKz8.out (.slice none 0 0)
        have hm : Btw (w.heap.size + 1) (w.heap.size + 1 + 1) w8 (w8.setCell ⟨w.heap.size + 1, 0, none⟩ (.slice none 0 0)) := (Btw.refl (w.heap.size + 1) (w.heap.size + 1 + 1) w8).setCell (p := ⟨w.heap.size + 1, 0, none⟩) (Nat.le_refl _) (Nat.lt_succ_self _) _
        generalize w8.setCell ⟨w.heap.size + 1, 0, none⟩ (.slice none 0 0) = w9 at hkz hm ⊢
        have HZ9 : Hid (w8.heap.size ≤ w9.heap.size) := Lib.hid hm.size
        have HB9 : Hid (Below w.heap.size w w9) := Lib.hid (HB8.out.trans (hm.below.mono (by have := HZ1.out; have := HZ2.out; have := HZ3.out; have := HZ4.out; have := HZ5.out; have := HZ6.out; have := HZ7.out; have := HZ8.out; have := HB0.out.size; omega)))
        have HRu9 := Lib.hid (HRu0.out.below HB9.out (Nat.le_refl _))
        have HRx9 := Lib.hid (HRx0.out.below HB9.out (Nat.le_refl _))
        have HKx9 := Lib.hid ((hm.block _ (by have := lt_of_block HKx8.out; have := HZ1.out; have := HZ2.out; have := HZ3.out; have := HZ4.out; have := HZ5.out; have := HZ6.out; have := HZ7.out; have := HZ8.out; omega)).trans HKx8.out)
        have HKy9 := Lib.hid ((hm.block _ (by have := lt_of_block HKy8.out; have := HZ1.out; have := HZ2.out; have := HZ3.out; have := HZ4.out; have := HZ5.out; have := HZ6.out; have := HZ7.out; have := HZ8.out; omega)).trans HKy8.out)
        have HOp9 := Lib.hid (HOp8.out.btw hm (by have := HZ1.out; have := HZ2.out; have := HZ3.out; have := HZ4.out; have := HZ5.out; have := HZ6.out; have := HZ7.out; have := HZ8.out; omega))
        have HKo9 := Lib.hid ((hm.block _ (by have := lt_of_block HKo8.out; have := HZ1.out; have := HZ2.out; have := HZ3.out; have := HZ4.out; have := HZ5.out; have := HZ6.out; have := HZ7.out; have := HZ8.out; omega)).trans HKo8.out)
        have HOq9 := Lib.hid (HOq8.out.btw hm (by have := HZ1.out; have := HZ2.out; have := HZ3.out; have := HZ4.out; have := HZ5.out; have := HZ6.out; have := HZ7.out; have := HZ8.out; omega))
        clear hm
        have HKz9 := Lib.hid (hkz)
        clear hkz
        clear cx0 fx0 ltx cz0 fz0 ltz cy0 fy0 lty co0 fo0 lto
        have ltx := lt_of_block HKx9.out
        obtain ⟨cx0, fx0⟩ := cell1 HKx9.out
        have lty := lt_of_block HKy9.out
        obtain ⟨cy0, fy0⟩ := cell1 HKy9.out
        have lto := lt_of_block HKo9.out
        obtain ⟨co0, fo0⟩ := cell1 HKo9.out
        have ltz := lt_of_block HKz9.out
        obtain ⟨cz0, fz0⟩ := cell1 HKz9.out
        have hkz := box1_set HKy9.out (.slice none 0 0)
        have hm : Btw (w.heap.size + 2) (w.heap.size + 2 + 1) w9 (w9.setCell ⟨w.heap.size + 2, 0, none⟩ (.slice none 0 0)) := (Btw.refl (w.heap.size + 2) (w.heap.size + 2 + 1) w9).setCell (p := ⟨w.heap.size + 2, 0, none⟩) (Nat.le_refl _) (Nat.lt_succ_self _) _
        generalize w9.setCell ⟨w.heap.size + 2, 0, none⟩ (.slice none 0 0) = w10 at hkz hm ⊢
        have HZ10 : Hid (w9.heap.size ≤ w10.heap.size) := Lib.hid hm.size
        have HB10 : Hid (Below w.heap.size w w10) := Lib.hid (HB9.out.trans (hm.below.mono (by have := HZ1.out; have := HZ2.out; have := HZ3.out; have := HZ4.out; have := HZ5.out; have := HZ6.out; have := HZ7.out; have := HZ8.out; have := HZ9.out; have := HB0.out.size; omega)))
        have HRu10 := Lib.hid (HRu0.out.below HB10.out (Nat.le_refl _))
        have HRx10 := Lib.hid (HRx0.out.below HB10.out (Nat.le_refl _))
        have HKx10 := Lib.hid ((hm.block _ (by have := lt_of_block HKx9.out; have := HZ1.out; have := HZ2.out; have := HZ3.out; have := HZ4.out; have := HZ5.out; have := HZ6.out; have := HZ7.out; have := HZ8.out; have := HZ9.out; omega)).trans HKx9.out)
        have HOp10 := Lib.hid (HOp9.out.btw hm (by have := HZ1.out; have := HZ2.out; have := HZ3.out; have := HZ4.out; have := HZ5.out; have := HZ6.out; have := HZ7.out; have := HZ8.out; have := HZ9.out; omega))
        have HKo10 := Lib.hid ((hm.block _ (by have := lt_of_block HKo9.out; have := HZ1.out; have := HZ2.out; have := HZ3.out; have := HZ4.out; have := HZ5.out; have := HZ6.out; have := HZ7.out; have := HZ8.out; have := HZ9.out; omega)).trans HKo9.out)
        have HOq10 := Lib.hid (HOq9.out.btw hm (by have := HZ1.out; have := HZ2.out; have := HZ3.out; have := HZ4.out; have := HZ5.out; have := HZ6.out; have := HZ7.out; have := HZ8.out; have := HZ9.out; omega))
        have HKz10 := Lib.hid ((hm.block _ (by have := lt_of_block HKz9.out; have := HZ1.out; have := HZ2.out; have := HZ3.out; have := HZ4.out; have := HZ5.out; have := HZ6.out; have := HZ7.out; have := HZ8.out; have := HZ9.out; omega)).trans HKz9.out)
        clear hm
        have HKy10 := Lib.hid (hkz)
        clear hkz
        clear cx0 fx0 ltx cy0 fy0 lty co0 fo0 lto cz0 fz0 ltz
        have ltx := lt_of_block HKx10.out
        obtain ⟨cx0, fx0⟩ := cell1 HKx10.out
        have lto := lt_of_block HKo10.out
        obtain ⟨co0, fo0⟩ := cell1 HKo10.out
        have ltz := lt_of_block HKz10.out
        obtain ⟨cz0, fz0⟩ := cell1 HKz10.out
        have lty := lt_of_block HKy10.out
        obtain ⟨cy0, fy0⟩ := cell1 HKy10.out
        have hb : Below w10.heap.size w10 (w10.alloc (.cells #[.slice pq q2.length kq] 50)) := (Below.refl _ _).alloc (Nat.le_refl _) _
        have hk : (w10.alloc (.cells #[.slice pq q2.length kq] 50)).heap[w10.heap.size]? = some (.cells #[.slice pq q2.length kq] 50 (0, 0)) := alloc_at rfl
        have hz : (w10.alloc (.cells #[.slice pq q2.length kq] 50)).heap.size = w10.heap.size + 1 := by simp
        generalize w10.alloc (.cells #[.slice pq q2.length kq] 50) = w11 at hb hk hz ⊢
        have HB11 : Hid (Below w.heap.size w w11) := Lib.hid (HB10.out.trans (hb.mono HB10.out.size))
        have HZ11 : Hid (w10.heap.size ≤ w11.heap.size) := Lib.hid hb.size
        have HRu11 := Lib.hid (HRu0.out.below HB11.out (Nat.le_refl _))
        have HRx11 := Lib.hid (HRx0.out.below HB11.out (Nat.le_refl _))
        have HKx11 := Lib.hid ((hb.block _ (lt_of_block HKx10.out)).trans HKx10.out)
        have HOp11 := Lib.hid (HOp10.out.next hb)
        have HKo11 := Lib.hid ((hb.block _ (lt_of_block HKo10.out)).trans HKo10.out)
        have HOq11 := Lib.hid (HOq10.out.next hb)
        have HKz11 := Lib.hid ((hb.block _ (lt_of_block HKz10.out)).trans HKz10.out)
        have HKy11 := Lib.hid ((hb.block _ (lt_of_block HKy10.out)).trans HKy10.out)
        have HKb11 := Lib.hid hk
        replace HZ11 : Hid (w10.heap.size < w11.heap.size) := Lib.hid (by omega)
        have HE11 := Lib.hid hz
        clear hb hk hz
        clear cx0 fx0 ltx co0 fo0 lto cz0 fz0 ltz cy0 fy0 lty
        have ltx := lt_of_block HKx11.out
        obtain ⟨cx0, fx0⟩ := cell1 HKx11.out
        have lto := lt_of_block HKo11.out
        obtain ⟨co0, fo0⟩ := cell1 HKo11.out
        have ltz := lt_of_block HKz11.out
        obtain ⟨cz0, fz0⟩ := cell1 HKz11.out
        have lty := lt_of_block HKy11.out
        obtain ⟨cy0, fy0⟩ := cell1 HKy11.out
        have ltb := lt_of_block HKb11.out
        obtain ⟨cb0, fb0⟩ := cell1 HKb11.out
        exact bodyPost_ret (v := .tuple #[.agg #[.slice none 0 0], .agg #[.slice none 0 0], .bool false]) (by simp [results, Try.results34, go_sem, cz0, cy0]) rfl ⟨⟨_, _, rfl, OwB.nil7 _ _ _⟩, by first | exact HB11.out | exact (HB11.out.setCell (p := ⟨w.heap.size + 1, 0, none⟩) (by show w.heap.size ≤ w.heap.size + 1; omega) _).setCell (p := ⟨w.heap.size + 2, 0, none⟩) (by show w.heap.size ≤ w.heap.size + 2; omega) _⟩
  · by_cases hox : okAm us xs
    · have HO := Lib.hid hox
      have HN : Hid (¬ (1 ≤ n ∧ n ≤ 1000)) := Lib.hid (fun hy => ho ⟨hox, hy⟩)
      have HB0 : Hid (Below w.heap.size w w) := Lib.hid (Below.refl _ _)
      have HRu0 := Lib.hid (h)
      have HRx0 := Lib.hid (hx)
      clear h hs hx ho
      clear hox
      go_enter Try.func34, Try.ntmps34
      go_wp2_with fail
      have hb : Below w.heap.size w (w.alloc (.cells #[.slice a1 xs.length c1] 50)) := (Below.refl _ _).alloc (Nat.le_refl _) _
      have hk : (w.alloc (.cells #[.slice a1 xs.length c1] 50)).heap[w.heap.size]? = some (.cells #[.slice a1 xs.length c1] 50 (0, 0)) := alloc_at rfl
      have hz : (w.alloc (.cells #[.slice a1 xs.length c1] 50)).heap.size = w.heap.size + 1 := by simp
      generalize w.alloc (.cells #[.slice a1 xs.length c1] 50) = w1 at hb hk hz ⊢
      have HB1 : Hid (Below w.heap.size w w1) := Lib.hid (HB0.out.trans (hb.mono HB0.out.size))
      have HZ1 : Hid (w.heap.size ≤ w1.heap.size) := Lib.hid hb.size
      have HRu1 := Lib.hid (HRu0.out.below HB1.out (Nat.le_refl _))
      have HRx1 := Lib.hid (HRx0.out.below HB1.out (Nat.le_refl _))
      have HKx1 := Lib.hid hk
      replace HZ1 : Hid (w.heap.size < w1.heap.size) := Lib.hid (by omega)
      have HE1 := Lib.hid hz
      clear hb hk hz
      have hb : Below w1.heap.size w1 (w1.alloc (.cells #[.slice none 0 0] 50)) := (Below.refl _ _).alloc (Nat.le_refl _) _
      have hk : (w1.alloc (.cells #[.slice none 0 0] 50)).heap[w.heap.size + 1]? = some (.cells #[.slice none 0 0] 50 (0, 0)) := alloc_at (by have := HE1.out; omega)
      have hz : (w1.alloc (.cells #[.slice none 0 0] 50)).heap.size = w1.heap.size + 1 := by simp
      generalize w1.alloc (.cells #[.slice none 0 0] 50) = w2 at hb hk hz ⊢
      have HB2 : Hid (Below w.heap.size w w2) := Lib.hid (HB1.out.trans (hb.mono HB1.out.size))
      have HZ2 : Hid (w1.heap.size ≤ w2.heap.size) := Lib.hid hb.size
      have HRu2 := Lib.hid (HRu0.out.below HB2.out (Nat.le_refl _))
      have HRx2 := Lib.hid (HRx0.out.below HB2.out (Nat.le_refl _))
      have HKx2 := Lib.hid ((hb.block _ (lt_of_block HKx1.out)).trans HKx1.out)
      have HKz2 := Lib.hid hk
      replace HZ2 : Hid (w1.heap.size < w2.heap.size) := Lib.hid (by omega)
      have HE2 := Lib.hid hz
      clear hb hk hz
      have hb : Below w2.heap.size w2 (w2.alloc (.cells #[.slice none 0 0] 50)) := (Below.refl _ _).alloc (Nat.le_refl _) _
      have hk : (w2.alloc (.cells #[.slice none 0 0] 50)).heap[w.heap.size + 2]? = some (.cells #[.slice none 0 0] 50 (0, 0)) := alloc_at (by have := HE1.out; have := HE2.out; omega)
      have hz : (w2.alloc (.cells #[.slice none 0 0] 50)).heap.size = w2.heap.size + 1 := by simp
      generalize w2.alloc (.cells #[.slice none 0 0] 50) = w3 at hb hk hz ⊢
      have HB3 : Hid (Below w.heap.size w w3) := Lib.hid (HB2.out.trans (hb.mono HB2.out.size))
      have HZ3 : Hid (w2.heap.size ≤ w3.heap.size) := Lib.hid hb.size
      have HRu3 := Lib.hid (HRu0.out.below HB3.out (Nat.le_refl _))
      have HRx3 := Lib.hid (HRx0.out.below HB3.out (Nat.le_refl _))
      have HKx3 := Lib.hid ((hb.block _ (lt_of_block HKx2.out)).trans HKx2.out)
      have HKz3 := Lib.hid ((hb.block _ (lt_of_block HKz2.out)).trans HKz2.out)
      have HKy3 := Lib.hid hk
      replace HZ3 : Hid (w2.heap.size < w3.heap.size) := Lib.hid (by omega)
      have HE3 := Lib.hid hz
      clear hb hk hz
      have hlz : w.heap.size + 2 < w3.heap.size := lt_of_block HKy3.out
      have ltx := lt_of_block HKx3.out
      obtain ⟨cx0, fx0⟩ := cell1 HKx3.out
      have ltz := lt_of_block HKz3.out
      obtain ⟨cz0, fz0⟩ := cell1 HKz3.out
      have lty := lt_of_block HKy3.out
      obtain ⟨cy0, fy0⟩ := cell1 HKy3.out
      refine (l7Amount_any _ _ us xs _ HRu3.out HS.out HRx3.out true ⟨fun _ => HO.out, fun _ => rfl⟩).mono ?_
      rintro e w4 ⟨rfl, hb⟩
      have HB4 : Hid (Below w.heap.size w w4) := Lib.hid (HB3.out.trans (hb.mono HB3.out.size))
      have HZ4 : Hid (w3.heap.size ≤ w4.heap.size) := Lib.hid hb.size
      have HRu4 := Lib.hid (HRu0.out.below HB4.out (Nat.le_refl _))
      have HRx4 := Lib.hid (HRx0.out.below HB4.out (Nat.le_refl _))
      have HKx4 := Lib.hid ((hb.block _ (lt_of_block HKx3.out)).trans HKx3.out)
      have HKz4 := Lib.hid ((hb.block _ (lt_of_block HKz3.out)).trans HKz3.out)
      have HKy4 := Lib.hid ((hb.block _ (lt_of_block HKy3.out)).trans HKy3.out)
      clear hb
      clear cx0 fx0 ltx cz0 fz0 ltz cy0 fy0 lty
      have ltx := lt_of_block HKx4.out
      obtain ⟨cx0, fx0⟩ := cell1 HKx4.out
      have ltz := lt_of_block HKz4.out
      obtain ⟨cz0, fz0⟩ := cell1 HKz4.out
      have lty := lt_of_block HKy4.out
      obtain ⟨cy0, fy0⟩ := cell1 HKy4.out
      go_wp2_with fail
      refine (l1In_noq _ _ _ _ HN.out).mono ?_
      rintro e w' ⟨rfl, hw'⟩
      subst w'
      go_wp2_with fail
      exact bodyPost_ret (v := .tuple #[.agg #[.slice none 0 0], .agg #[.slice none 0 0], .bool false]) (by simp [results, Try.results34, go_sem, cz0, cy0]) rfl ⟨⟨_, _, rfl, OwB.nil7 _ _ _⟩, by first | exact HB4.out | exact (HB4.out.setCell (p := ⟨w.heap.size + 1, 0, none⟩) (by show w.heap.size ≤ w.heap.size + 1; omega) _).setCell (p := ⟨w.heap.size + 2, 0, none⟩) (by show w.heap.size ≤ w.heap.size + 2; omega) _⟩
    · have HN := Lib.hid hox
      have HB0 : Hid (Below w.heap.size w w) := Lib.hid (Below.refl _ _)
      have HRu0 := Lib.hid (h)
      have HRx0 := Lib.hid (hx)
      clear h hs hx ho
      clear hox
      go_enter Try.func34, Try.ntmps34
      go_wp2_with fail
      have hb : Below w.heap.size w (w.alloc (.cells #[.slice a1 xs.length c1] 50)) := (Below.refl _ _).alloc (Nat.le_refl _) _
      have hk : (w.alloc (.cells #[.slice a1 xs.length c1] 50)).heap[w.heap.size]? = some (.cells #[.slice a1 xs.length c1] 50 (0, 0)) := alloc_at rfl
      have hz : (w.alloc (.cells #[.slice a1 xs.length c1] 50)).heap.size = w.heap.size + 1 := by simp
      generalize w.alloc (.cells #[.slice a1 xs.length c1] 50) = w1 at hb hk hz ⊢
      have HB1 : Hid (Below w.heap.size w w1) := Lib.hid (HB0.out.trans (hb.mono HB0.out.size))
      have HZ1 : Hid (w.heap.size ≤ w1.heap.size) := Lib.hid hb.size
      have HRu1 := Lib.hid (HRu0.out.below HB1.out (Nat.le_refl _))
      have HRx1 := Lib.hid (HRx0.out.below HB1.out (Nat.le_refl _))
      have HKx1 := Lib.hid hk
      replace HZ1 : Hid (w.heap.size < w1.heap.size) := Lib.hid (by omega)
      have HE1 := Lib.hid hz
      clear hb hk hz
      have hb : Below w1.heap.size w1 (w1.alloc (.cells #[.slice none 0 0] 50)) := (Below.refl _ _).alloc (Nat.le_refl _) _
      have hk : (w1.alloc (.cells #[.slice none 0 0] 50)).heap[w.heap.size + 1]? = some (.cells #[.slice none 0 0] 50 (0, 0)) := alloc_at (by have := HE1.out; omega)
      have hz : (w1.alloc (.cells #[.slice none 0 0] 50)).heap.size = w1.heap.size + 1 := by simp
      generalize w1.alloc (.cells #[.slice none 0 0] 50) = w2 at hb hk hz ⊢
      have HB2 : Hid (Below w.heap.size w w2) := Lib.hid (HB1.out.trans (hb.mono HB1.out.size))
      have HZ2 : Hid (w1.heap.size ≤ w2.heap.size) := Lib.hid hb.size
      have HRu2 := Lib.hid (HRu0.out.below HB2.out (Nat.le_refl _))
      have HRx2 := Lib.hid (HRx0.out.below HB2.out (Nat.le_refl _))
      have HKx2 := Lib.hid ((hb.block _ (lt_of_block HKx1.out)).trans HKx1.out)
      have HKz2 := Lib.hid hk
      replace HZ2 : Hid (w1.heap.size < w2.heap.size) := Lib.hid (by omega)
      have HE2 := Lib.hid hz
      clear hb hk hz
      have hb : Below w2.heap.size w2 (w2.alloc (.cells #[.slice none 0 0] 50)) := (Below.refl _ _).alloc (Nat.le_refl _) _
      have hk : (w2.alloc (.cells #[.slice none 0 0] 50)).heap[w.heap.size + 2]? = some (.cells #[.slice none 0 0] 50 (0, 0)) := alloc_at (by have := HE1.out; have := HE2.out; omega)
      have hz : (w2.alloc (.cells #[.slice none 0 0] 50)).heap.size = w2.heap.size + 1 := by simp
      generalize w2.alloc (.cells #[.slice none 0 0] 50) = w3 at hb hk hz ⊢
      have HB3 : Hid (Below w.heap.size w w3) := Lib.hid (HB2.out.trans (hb.mono HB2.out.size))
      have HZ3 : Hid (w2.heap.size ≤ w3.heap.size) := Lib.hid hb.size
      have HRu3 := Lib.hid (HRu0.out.below HB3.out (Nat.le_refl _))
      have HRx3 := Lib.hid (HRx0.out.below HB3.out (Nat.le_refl _))
      have HKx3 := Lib.hid ((hb.block _ (lt_of_block HKx2.out)).trans HKx2.out)
      have HKz3 := Lib.hid ((hb.block _ (lt_of_block HKz2.out)).trans HKz2.out)
      have HKy3 := Lib.hid hk
      replace HZ3 : Hid (w2.heap.size < w3.heap.size) := Lib.hid (by omega)
      have HE3 := Lib.hid hz
      clear hb hk hz
      have hlz : w.heap.size + 2 < w3.heap.size := lt_of_block HKy3.out
      have ltx := lt_of_block HKx3.out
      obtain ⟨cx0, fx0⟩ := cell1 HKx3.out
      have ltz := lt_of_block HKz3.out
      obtain ⟨cz0, fz0⟩ := cell1 HKz3.out
      have lty := lt_of_block HKy3.out
      obtain ⟨cy0, fy0⟩ := cell1 HKy3.out
      refine (l7Amount_any _ _ us xs _ HRu3.out HS.out HRx3.out false ⟨fun e => (by simp at e), fun e => absurd e HN.out⟩).mono ?_
      rintro e w4 ⟨rfl, hb⟩
      have HB4 : Hid (Below w.heap.size w w4) := Lib.hid (HB3.out.trans (hb.mono HB3.out.size))
      have HZ4 : Hid (w3.heap.size ≤ w4.heap.size) := Lib.hid hb.size
      have HRu4 := Lib.hid (HRu0.out.below HB4.out (Nat.le_refl _))
      have HRx4 := Lib.hid (HRx0.out.below HB4.out (Nat.le_refl _))
      have HKx4 := Lib.hid ((hb.block _ (lt_of_block HKx3.out)).trans HKx3.out)
      have HKz4 := Lib.hid ((hb.block _ (lt_of_block HKz3.out)).trans HKz3.out)
      have HKy4 := Lib.hid ((hb.block _ (lt_of_block HKy3.out)).trans HKy3.out)
      clear hb
      clear cx0 fx0 ltx cz0 fz0 ltz cy0 fy0 lty
      have ltx := lt_of_block HKx4.out
      obtain ⟨cx0, fx0⟩ := cell1 HKx4.out
      have ltz := lt_of_block HKz4.out
      obtain ⟨cz0, fz0⟩ := cell1 HKz4.out
      have lty := lt_of_block HKy4.out
      obtain ⟨cy0, fy0⟩ := cell1 HKy4.out
      go_wp2_with fail
      exact bodyPost_ret (v := .tuple #[.agg #[.slice none 0 0], .agg #[.slice none 0 0], .bool false]) (by simp [results, Try.results34, go_sem, cz0, cy0]) rfl ⟨⟨_, _, rfl, OwB.nil7 _ _ _⟩, by first | exact HB4.out | exact (HB4.out.setCell (p := ⟨w.heap.size + 1, 0, none⟩) (by show w.heap.size ≤ w.heap.size + 1; omega) _).setCell (p := ⟨w.heap.size + 2, 0, none⟩) (by show w.heap.size ≤ w.heap.size + 2; omega) _⟩
end Go.Proofs.Ytpmccebifncpeaa
