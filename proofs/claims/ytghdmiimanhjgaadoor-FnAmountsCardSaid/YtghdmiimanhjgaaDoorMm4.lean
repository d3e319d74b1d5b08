/- The model's TimesOf, ConvertTo, UnitsIn, PartOf. -/
import Derived.Test.YtghdmiimanhjgaaDoorMm3
namespace Go.Proofs.YtghdmiimanhjgaaDoor
set_option linter.unusedVariables false
open Go.RowKit

theorem mul_bd {x y X Y : Int} (x0 : 0 ≤ x) (x1 : x ≤ X) (y0 : 0 ≤ y) (y1 : y ≤ Y) : 0 ≤ x * y ∧ x * y ≤ X * Y := ⟨Int.mul_nonneg x0 y0, Int.mul_le_mul x1 y1 y0 (by omega)⟩
/-- The model's way to the converted value. -/
theorem conv_eq (x num d : Int) (hd : 0 < d) : x / d * num + x % d * num / d = x * num / d := by
  have h1 : x * num = x % d * num + d * (x / d * num) := by
    have h2 := Int.emod_add_mul_ediv x d
    calc x * num = (x % d + d * (x / d)) * num := by rw [h2]
      _ = x % d * num + d * (x / d * num) := by rw [Int.add_mul, Int.mul_assoc]
  rw [h1, Int.add_mul_ediv_left _ _ (by omega)]
  omega
/-- How many of the first unit one of the unit at place k - 1 makes. -/
def unP (us : List Un) : Nat → Int
  | 0 => 1
  | k + 1 => unP us k * szU us k
theorem unP_bound {us : List Un} (hs : okS us) : ∀ k, 1 ≤ unP us k ∧ unP us k ≤ 100 ^ k
  | 0 => by simp [unP]
  | k + 1 => by
    obtain ⟨h1, h2⟩ := unP_bound hs k
    have h3 := okS_sz hs k
    rw [unP, Int.pow_succ]
    generalize unP us k = u at h1 h2 ⊢
    generalize szU us k = s at h3 ⊢
    generalize (100 : Int) ^ k = P at h2 ⊢
    have e1 : u * s ≤ P * 100 := Int.mul_le_mul h2 h3.2 (by omega) (by omega)
    have e2 : 1 * 1 ≤ u * s := Int.mul_le_mul h1 h3.1 (by omega) (by omega)
    omega
theorem unP_lt {us : List Un} (hs : okS us) (k : Nat) (hk : k ≤ 6) : 1 ≤ unP us k ∧ unP us k ≤ 1000000000000 := by
  obtain ⟨h1, h2⟩ := unP_bound hs k
  have : (100 : Int) ^ k ≤ 100 ^ 6 := by
    have hd' : k = 0 ∨ k = 1 ∨ k = 2 ∨ k = 3 ∨ k = 4 ∨ k = 5 ∨ k = 6 := by omega
    rcases hd' with rfl | rfl | rfl | rfl | rfl | rfl | rfl <;> decide
  have e5 : (100 : Int) ^ 6 = 1000000000000 := by decide
  omega
/-- Where the first unit with a name is. -/
def fstU (us : List Un) (nm : ByteArray) (k : Nat) : Prop := ∃ h : k < us.length, us[k].nm = nm ∧ ∀ j (hj : j < us.length), j < k → us[j].nm ≠ nm
/-- The answer of UnitsIn. -/
def UnF (us : List Un) (nm : ByteArray) (x : Int) (r : Bool) : Prop := (okS us ∧ ∃ k, fstU us nm k ∧ x = unP us (k + 1) ∧ r = true) ∨ (okS us ∧ (∀ j (hj : j < us.length), us[j].nm ≠ nm) ∧ x = 0 ∧ r = false) ∨ (¬ okS us ∧ x = 0 ∧ r = false)
theorem unF_or (us : List Un) (nm : ByteArray) : ∃ x r, UnF us nm x r := by
  by_cases ho : okS us
  · obtain ⟨p, hp, h1, h2⟩ := first_bad' us.length (fun i h => us[i].nm ≠ nm)
    by_cases hlt : p < us.length
    · exact ⟨_, _, .inl ⟨ho, p, ⟨hlt, Classical.not_not.1 (h2 hlt), h1⟩, rfl, rfl⟩⟩
    · exact ⟨_, _, .inr (.inl ⟨ho, fun j hj => h1 j hj (by omega), rfl, rfl⟩)⟩
  · exact ⟨_, _, .inr (.inr ⟨ho, rfl, rfl⟩)⟩
/-- The answer of PartOf. -/
def PartF (us : List Un) (cs : List Int) (n : Int) (q1 q2 : List Int) (r : Bool) : Prop :=
  ((okAm us cs ∧ (1 ≤ n ∧ n ≤ 1000)) ∧ ((okP us (valA us cs / n) ∧ okP us (valA us cs % n)) ∧ q1 = propL us (valA us cs / n) ∧ q2 = propL us (valA us cs % n) ∧ r = true ∨ ¬ (okP us (valA us cs / n) ∧ okP us (valA us cs % n)) ∧ q1 = [] ∧ q2 = [] ∧ r = false)) ∨
  (¬ (okAm us cs ∧ (1 ≤ n ∧ n ≤ 1000)) ∧ q1 = [] ∧ q2 = [] ∧ r = false)
theorem partF_or (us : List Un) (cs : List Int) (n : Int) : ∃ q1 q2 r, PartF us cs n q1 q2 r := by
  by_cases h : okAm us cs ∧ (1 ≤ n ∧ n ≤ 1000)
  · by_cases h2 : okP us (valA us cs / n) ∧ okP us (valA us cs % n)
    · exact ⟨_, _, _, .inl ⟨h, .inl ⟨h2, rfl, rfl, rfl⟩⟩⟩
    · exact ⟨_, _, _, .inl ⟨h, .inr ⟨h2, rfl, rfl, rfl⟩⟩⟩
  · exact ⟨_, _, _, .inr ⟨h, rfl, rfl, rfl⟩⟩
theorem partF_len {us : List Un} {cs : List Int} {n : Int} {q1 q2 : List Int} {r : Bool} (h : PartF us cs n q1 q2 r) : q1.length ≤ 1000 ∧ q2.length ≤ 1000 := by
  rcases h with ⟨h1, ⟨_, rfl, rfl, _⟩ | ⟨_, rfl, rfl, _⟩⟩ | ⟨_, rfl, rfl, _⟩
  · rw [propL_len, propL_len]; have := h1.1.1.1.2; omega
  · simp
  · simp
theorem OwB.of {lo1 hi1 lo2 hi2 : Nat} {w : World} {v1 v2 : Value} {ls ss : List Int} (h1 : OwA lo1 hi1 w v1 ls) (h2 : OwA lo2 hi2 w v2 ss) (ha : hi1 ≤ lo2) (hb : lo1 ≤ lo2) (hc : hi1 ≤ hi2) : OwB lo1 hi2 w v1 v2 ls ss :=
  ⟨Ow.widen h1 (Nat.le_refl _) hc, Ow.widen h2 hb (Nat.le_refl _), fun g hg hg2 => by have h3 := h1.2 g hg; have h4 := (h2.1.lt g hg2).1; omega⟩
theorem OwB.nil7 (lo hi : Nat) (w : World) : OwB lo hi w (.slice none 0 0) (.slice none 0 0) [] [] := ⟨OwA.nil _ _ _, OwA.nil _ _ _, fun g hg => by cases hg⟩
theorem ret_ib {a b : Int} {r s : Bool} (h : a = b) (h2 : r = s) : Ending.returned (.tuple #[.int .i64 a, .bool r]) = .returned (.tuple #[.int .i64 b, .bool s]) := by rw [h, h2]
set_option maxRecDepth 100000 in
set_option maxHeartbeats 3200000 in
theorem sTimesOf_any (v sx : Value) (us : List Un) (xs : List Int) (n : Int) (w : World) (h : RowsR 2 unC w v us) (hs : ∀ u ∈ us, u.nm.size ≤ maxLen) (hx : RowsR 1 inC w sx xs) (qs : List Int) (r : Bool) (hk : TestF (okAm us xs ∧ (0 ≤ n ∧ n ≤ 1000)) us (n * valA us xs) qs r) :
    Calls Tryd.prog 7 #[v, .agg #[sx], .int .i64 n] w fun e w' => (∃ s1, e = .returned (.tuple #[.agg #[s1], .bool r]) ∧ OwA w.heap.size w'.heap.size w' s1 qs) ∧ Below w.heap.size w w' := by
  obtain ⟨a, cp, rfl⟩ := h.form
  have HS := Lib.hid hs
  obtain ⟨a1, c1, rfl⟩ := hx.form
  rcases hk with ⟨ho, hp⟩ | ⟨ho, rfl, rfl⟩
  · have HO := Lib.hid ho
    have HP := Lib.hid hp
    have hvx := valA_lt ho.1
    have hmb := mul_bd ho.2.1 ho.2.2 hvx.1 hvx.2
    have hw : IntKind.i64.wrap (n * valA us xs) = n * valA us xs := wrap_small _ (by omega) (by omega)
    have hm9 : n * valA us xs ≤ 9223372036854775807 := by omega
    have HB0 : Hid (Below w.heap.size w w) := Lib.hid (Below.refl _ _)
    have HRu0 := Lib.hid (h)
    have HRx0 := Lib.hid (hx)
    clear h hs hx ho hp hmb
    go_enter Tryd.func7, Tryd.ntmps7
    go_wp2_with fail
    have hb : Below w.heap.size w (w.alloc (.cells #[.slice a1 xs.length c1] 27)) := (Below.refl _ _).alloc (Nat.le_refl _) _
    have hk : (w.alloc (.cells #[.slice a1 xs.length c1] 27)).heap[w.heap.size]? = some (.cells #[.slice a1 xs.length c1] 27 (0, 0)) := alloc_at rfl
    have hz : (w.alloc (.cells #[.slice a1 xs.length c1] 27)).heap.size = w.heap.size + 1 := by simp
    generalize w.alloc (.cells #[.slice a1 xs.length c1] 27) = w1 at hb hk hz ⊢
    have HB1 : Hid (Below w.heap.size w w1) := Lib.hid (HB0.out.trans (hb.mono HB0.out.size))
    have HZ1 : Hid (w.heap.size ≤ w1.heap.size) := Lib.hid hb.size
    have HRu1 := Lib.hid (HRu0.out.below HB1.out (Nat.le_refl _))
    have HRx1 := Lib.hid (HRx0.out.below HB1.out (Nat.le_refl _))
    have HKx1 := Lib.hid hk
    replace HZ1 : Hid (w.heap.size < w1.heap.size) := Lib.hid (by omega)
    have HE1 := Lib.hid hz
    clear hb hk hz
    have hb : Below w1.heap.size w1 (w1.alloc (.cells #[.slice none 0 0] 27)) := (Below.refl _ _).alloc (Nat.le_refl _) _
    have hk : (w1.alloc (.cells #[.slice none 0 0] 27)).heap[w.heap.size + 1]? = some (.cells #[.slice none 0 0] 27 (0, 0)) := alloc_at (by have := HE1.out; omega)
    have hz : (w1.alloc (.cells #[.slice none 0 0] 27)).heap.size = w1.heap.size + 1 := by simp
    generalize w1.alloc (.cells #[.slice none 0 0] 27) = w2 at hb hk hz ⊢
    have HB2 : Hid (Below w.heap.size w w2) := Lib.hid (HB1.out.trans (hb.mono HB1.out.size))
    have HZ2 : Hid (w1.heap.size ≤ w2.heap.size) := Lib.hid hb.size
    have HRu2 := Lib.hid (HRu0.out.below HB2.out (Nat.le_refl _))
    have HRx2 := Lib.hid (HRx0.out.below HB2.out (Nat.le_refl _))
    have HKx2 := Lib.hid ((hb.block _ (lt_of_block HKx1.out)).trans HKx1.out)
    have HKz2 := Lib.hid hk
    replace HZ2 : Hid (w1.heap.size < w2.heap.size) := Lib.hid (by omega)
    have HE2 := Lib.hid hz
    clear hb hk hz
    have hlz : w.heap.size + 1 < w2.heap.size := lt_of_block HKz2.out
    have ltx := lt_of_block HKx2.out
    obtain ⟨cx0, fx0⟩ := cell1 HKx2.out
    have ltz := lt_of_block HKz2.out
    obtain ⟨cz0, fz0⟩ := cell1 HKz2.out
    refine (l7Amount_any _ _ us xs _ HRu2.out HS.out HRx2.out true ⟨fun _ => HO.out.1, fun _ => rfl⟩).mono ?_
    rintro e w3 ⟨rfl, hb⟩
    have HB3 : Hid (Below w.heap.size w w3) := Lib.hid (HB2.out.trans (hb.mono HB2.out.size))
    have HZ3 : Hid (w2.heap.size ≤ w3.heap.size) := Lib.hid hb.size
    have HRu3 := Lib.hid (HRu0.out.below HB3.out (Nat.le_refl _))
    have HRx3 := Lib.hid (HRx0.out.below HB3.out (Nat.le_refl _))
    have HKx3 := Lib.hid ((hb.block _ (lt_of_block HKx2.out)).trans HKx2.out)
    have HKz3 := Lib.hid ((hb.block _ (lt_of_block HKz2.out)).trans HKz2.out)
    clear hb
    clear cx0 fx0 ltx cz0 fz0 ltz
    have ltx := lt_of_block HKx3.out
    obtain ⟨cx0, fx0⟩ := cell1 HKx3.out
    have ltz := lt_of_block HKz3.out
    obtain ⟨cz0, fz0⟩ := cell1 HKz3.out
    go_wp2_with fail
    refine (l1In_yesq _ _ _ _ HO.out.2).mono ?_
    rintro e w' ⟨rfl, hw'⟩
    subst w'
    go_wp2_with fail
    refine (l7Value_any _ _ us xs _ HRu3.out HRx3.out HO.out.1).mono ?_
    rintro e w4 ⟨rfl, hb⟩
    have HB4 : Hid (Below w.heap.size w w4) := Lib.hid (HB3.out.trans (hb.mono HB3.out.size))
    have HZ4 : Hid (w3.heap.size ≤ w4.heap.size) := Lib.hid hb.size
    have HRu4 := Lib.hid (HRu0.out.below HB4.out (Nat.le_refl _))
    have HRx4 := Lib.hid (HRx0.out.below HB4.out (Nat.le_refl _))
    have HKx4 := Lib.hid ((hb.block _ (lt_of_block HKx3.out)).trans HKx3.out)
    have HKz4 := Lib.hid ((hb.block _ (lt_of_block HKz3.out)).trans HKz3.out)
    clear hb
    clear cx0 fx0 ltx cz0 fz0 ltz
    have ltx := lt_of_block HKx4.out
    obtain ⟨cx0, fx0⟩ := cell1 HKx4.out
    have ltz := lt_of_block HKz4.out
    obtain ⟨cz0, fz0⟩ := cell1 HKz4.out
    go_wp2_with fail
    refine (l7Proper_any _ us (n * valA us xs) _ HRu4.out HS.out HO.out.1.1 hm9 qs r HP.out).mono ?_
    rintro e w5 ⟨⟨s1, rfl, ho⟩, hb⟩
    have HB5 : Hid (Below w.heap.size w w5) := Lib.hid (HB4.out.trans (hb.mono HB4.out.size))
    have HZ5 : Hid (w4.heap.size ≤ w5.heap.size) := Lib.hid hb.size
    have HRu5 := Lib.hid (HRu0.out.below HB5.out (Nat.le_refl _))
    have HRx5 := Lib.hid (HRx0.out.below HB5.out (Nat.le_refl _))
    have HKx5 := Lib.hid ((hb.block _ (lt_of_block HKx4.out)).trans HKx4.out)
    have HKz5 := Lib.hid ((hb.block _ (lt_of_block HKz4.out)).trans HKz4.out)
    clear hb
    obtain ⟨pv, kv, rfl⟩ := ho.form
    have HOv5 := Lib.hid (ho)
    clear ho
    clear cx0 fx0 ltx cz0 fz0 ltz
    have ltx := lt_of_block HKx5.out
    obtain ⟨cx0, fx0⟩ := cell1 HKx5.out
    have ltz := lt_of_block HKz5.out
    obtain ⟨cz0, fz0⟩ := cell1 HKz5.out
    go_wp2_with fail
    have hkz := box1_set HKz5.out (.slice pv qs.length kv)
    have hm : Btw (w.heap.size + 1) (w.heap.size + 1 + 1) w5 (w5.setCell ⟨w.heap.size + 1, 0, none⟩ (.slice pv qs.length kv)) := (Btw.refl (w.heap.size + 1) (w.heap.size + 1 + 1) w5).setCell (p := ⟨w.heap.size + 1, 0, none⟩) (Nat.le_refl _) (Nat.lt_succ_self _) _
    have hlz2 := hlz
    generalize w5.setCell ⟨w.heap.size + 1, 0, none⟩ (.slice pv qs.length kv) = w6 at hkz hm ⊢
    have HZ6 : Hid (w5.heap.size ≤ w6.heap.size) := Lib.hid hm.size
    have HB6 : Hid (Below w.heap.size w w6) := Lib.hid (HB5.out.trans (hm.below.mono (by have := HZ1.out; have := HZ2.out; have := HZ3.out; have := HZ4.out; have := HZ5.out; have := HB0.out.size; omega)))
    have HRu6 := Lib.hid (HRu0.out.below HB6.out (Nat.le_refl _))
    have HRx6 := Lib.hid (HRx0.out.below HB6.out (Nat.le_refl _))
    have HKx6 := Lib.hid ((hm.block _ (by have := lt_of_block HKx5.out; have := HZ1.out; have := HZ2.out; have := HZ3.out; have := HZ4.out; have := HZ5.out; omega)).trans HKx5.out)
    have HOv6 := Lib.hid (HOv5.out.btw hm (by have := HZ1.out; have := HZ2.out; have := HZ3.out; have := HZ4.out; have := HZ5.out; omega))
    clear hm
    have HKz6 := Lib.hid (hkz)
    clear hkz
    have hb : Below w6.heap.size w6 (w6.alloc (.cells #[.slice pv qs.length kv] 27)) := (Below.refl _ _).alloc (Nat.le_refl _) _
    have hk : (w6.alloc (.cells #[.slice pv qs.length kv] 27)).heap[w6.heap.size]? = some (.cells #[.slice pv qs.length kv] 27 (0, 0)) := alloc_at rfl
    have hz : (w6.alloc (.cells #[.slice pv qs.length kv] 27)).heap.size = w6.heap.size + 1 := by simp
    generalize w6.alloc (.cells #[.slice pv qs.length kv] 27) = w7 at hb hk hz ⊢
    have HB7 : Hid (Below w.heap.size w w7) := Lib.hid (HB6.out.trans (hb.mono HB6.out.size))
    have HZ7 : Hid (w6.heap.size ≤ w7.heap.size) := Lib.hid hb.size
    have HRu7 := Lib.hid (HRu0.out.below HB7.out (Nat.le_refl _))
    have HRx7 := Lib.hid (HRx0.out.below HB7.out (Nat.le_refl _))
    have HKx7 := Lib.hid ((hb.block _ (lt_of_block HKx6.out)).trans HKx6.out)
    have HOv7 := Lib.hid (HOv6.out.next hb)
    have HKz7 := Lib.hid ((hb.block _ (lt_of_block HKz6.out)).trans HKz6.out)
    have HKo7 := Lib.hid hk
    replace HZ7 : Hid (w6.heap.size < w7.heap.size) := Lib.hid (by omega)
    have HE7 := Lib.hid hz
    clear hb hk hz
    clear cx0 fx0 ltx cz0 fz0 ltz
    have ltx := lt_of_block HKx7.out
    obtain ⟨cx0, fx0⟩ := cell1 HKx7.out
    have ltz := lt_of_block HKz7.out
    obtain ⟨cz0, fz0⟩ := cell1 HKz7.out
    have lto := lt_of_block HKo7.out
    obtain ⟨co0, fo0⟩ := cell1 HKo7.out
    exact bodyPost_ret (v := .tuple #[.agg #[.slice pv qs.length kv], .bool r]) (by simp [results, Tryd.results7, go_sem, cz0]) rfl ⟨⟨_, rfl, OwA.mono HOv7.out (by have := HZ1.out; have := HZ2.out; have := HZ3.out; have := HZ4.out; have := HZ5.out; have := HZ6.out; have := HZ7.out;  omega) (by have := HZ1.out; have := HZ2.out; have := HZ3.out; have := HZ4.out; have := HZ5.out; have := HZ6.out; have := HZ7.out;  omega)⟩, HB7.out⟩
  · by_cases hox : okAm us xs
    · have HO := Lib.hid hox
      have HN : Hid (¬ (0 ≤ n ∧ n ≤ 1000)) := Lib.hid (fun hy => ho ⟨hox, hy⟩)
      have HB0 : Hid (Below w.heap.size w w) := Lib.hid (Below.refl _ _)
      have HRu0 := Lib.hid (h)
      have HRx0 := Lib.hid (hx)
      clear h hs hx ho
      clear hox
      go_enter Tryd.func7, Tryd.ntmps7
      go_wp2_with fail
      have hb : Below w.heap.size w (w.alloc (.cells #[.slice a1 xs.length c1] 27)) := (Below.refl _ _).alloc (Nat.le_refl _) _
      have hk : (w.alloc (.cells #[.slice a1 xs.length c1] 27)).heap[w.heap.size]? = some (.cells #[.slice a1 xs.length c1] 27 (0, 0)) := alloc_at rfl
      have hz : (w.alloc (.cells #[.slice a1 xs.length c1] 27)).heap.size = w.heap.size + 1 := by simp
      generalize w.alloc (.cells #[.slice a1 xs.length c1] 27) = w1 at hb hk hz ⊢
      have HB1 : Hid (Below w.heap.size w w1) := Lib.hid (HB0.out.trans (hb.mono HB0.out.size))
      have HZ1 : Hid (w.heap.size ≤ w1.heap.size) := Lib.hid hb.size
      have HRu1 := Lib.hid (HRu0.out.below HB1.out (Nat.le_refl _))
      have HRx1 := Lib.hid (HRx0.out.below HB1.out (Nat.le_refl _))
      have HKx1 := Lib.hid hk
      replace HZ1 : Hid (w.heap.size < w1.heap.size) := Lib.hid (by omega)
      have HE1 := Lib.hid hz
      clear hb hk hz
      have hb : Below w1.heap.size w1 (w1.alloc (.cells #[.slice none 0 0] 27)) := (Below.refl _ _).alloc (Nat.le_refl _) _
      have hk : (w1.alloc (.cells #[.slice none 0 0] 27)).heap[w.heap.size + 1]? = some (.cells #[.slice none 0 0] 27 (0, 0)) := alloc_at (by have := HE1.out; omega)
      have hz : (w1.alloc (.cells #[.slice none 0 0] 27)).heap.size = w1.heap.size + 1 := by simp
      generalize w1.alloc (.cells #[.slice none 0 0] 27) = w2 at hb hk hz ⊢
      have HB2 : Hid (Below w.heap.size w w2) := Lib.hid (HB1.out.trans (hb.mono HB1.out.size))
      have HZ2 : Hid (w1.heap.size ≤ w2.heap.size) := Lib.hid hb.size
      have HRu2 := Lib.hid (HRu0.out.below HB2.out (Nat.le_refl _))
      have HRx2 := Lib.hid (HRx0.out.below HB2.out (Nat.le_refl _))
      have HKx2 := Lib.hid ((hb.block _ (lt_of_block HKx1.out)).trans HKx1.out)
      have HKz2 := Lib.hid hk
      replace HZ2 : Hid (w1.heap.size < w2.heap.size) := Lib.hid (by omega)
      have HE2 := Lib.hid hz
      clear hb hk hz
      have hlz : w.heap.size + 1 < w2.heap.size := lt_of_block HKz2.out
      have ltx := lt_of_block HKx2.out
      obtain ⟨cx0, fx0⟩ := cell1 HKx2.out
      have ltz := lt_of_block HKz2.out
      obtain ⟨cz0, fz0⟩ := cell1 HKz2.out
      refine (l7Amount_any _ _ us xs _ HRu2.out HS.out HRx2.out true ⟨fun _ => HO.out, fun _ => rfl⟩).mono ?_
      rintro e w3 ⟨rfl, hb⟩
      have HB3 : Hid (Below w.heap.size w w3) := Lib.hid (HB2.out.trans (hb.mono HB2.out.size))
      have HZ3 : Hid (w2.heap.size ≤ w3.heap.size) := Lib.hid hb.size
      have HRu3 := Lib.hid (HRu0.out.below HB3.out (Nat.le_refl _))
      have HRx3 := Lib.hid (HRx0.out.below HB3.out (Nat.le_refl _))
      have HKx3 := Lib.hid ((hb.block _ (lt_of_block HKx2.out)).trans HKx2.out)
      have HKz3 := Lib.hid ((hb.block _ (lt_of_block HKz2.out)).trans HKz2.out)
      clear hb
      clear cx0 fx0 ltx cz0 fz0 ltz
      have ltx := lt_of_block HKx3.out
      obtain ⟨cx0, fx0⟩ := cell1 HKx3.out
      have ltz := lt_of_block HKz3.out
      obtain ⟨cz0, fz0⟩ := cell1 HKz3.out
      go_wp2_with fail
      refine (l1In_noq _ _ _ _ HN.out).mono ?_
      rintro e w' ⟨rfl, hw'⟩
      subst w'
      go_wp2_with fail
      exact bodyPost_ret (v := .tuple #[.agg #[.slice none 0 0], .bool false]) (by simp [results, Tryd.results7, go_sem, cz0]) rfl ⟨⟨_, rfl, OwA.nil _ _ _⟩, by first | exact HB3.out | exact HB3.out.setCell (p := ⟨w.heap.size + 1, 0, none⟩) (by show w.heap.size ≤ w.heap.size + 1; omega) _⟩
    · have HN := Lib.hid hox
      have HB0 : Hid (Below w.heap.size w w) := Lib.hid (Below.refl _ _)
      have HRu0 := Lib.hid (h)
      have HRx0 := Lib.hid (hx)
      clear h hs hx ho
      clear hox
      go_enter Tryd.func7, Tryd.ntmps7
      go_wp2_with fail
      have hb : Below w.heap.size w (w.alloc (.cells #[.slice a1 xs.length c1] 27)) := (Below.refl _ _).alloc (Nat.le_refl _) _
      have hk : (w.alloc (.cells #[.slice a1 xs.length c1] 27)).heap[w.heap.size]? = some (.cells #[.slice a1 xs.length c1] 27 (0, 0)) := alloc_at rfl
      have hz : (w.alloc (.cells #[.slice a1 xs.length c1] 27)).heap.size = w.heap.size + 1 := by simp
      generalize w.alloc (.cells #[.slice a1 xs.length c1] 27) = w1 at hb hk hz ⊢
      have HB1 : Hid (Below w.heap.size w w1) := Lib.hid (HB0.out.trans (hb.mono HB0.out.size))
      have HZ1 : Hid (w.heap.size ≤ w1.heap.size) := Lib.hid hb.size
      have HRu1 := Lib.hid (HRu0.out.below HB1.out (Nat.le_refl _))
      have HRx1 := Lib.hid (HRx0.out.below HB1.out (Nat.le_refl _))
      have HKx1 := Lib.hid hk
      replace HZ1 : Hid (w.heap.size < w1.heap.size) := Lib.hid (by omega)
      have HE1 := Lib.hid hz
      clear hb hk hz
      have hb : Below w1.heap.size w1 (w1.alloc (.cells #[.slice none 0 0] 27)) := (Below.refl _ _).alloc (Nat.le_refl _) _
      have hk : (w1.alloc (.cells #[.slice none 0 0] 27)).heap[w.heap.size + 1]? = some (.cells #[.slice none 0 0] 27 (0, 0)) := alloc_at (by have := HE1.out; omega)
      have hz : (w1.alloc (.cells #[.slice none 0 0] 27)).heap.size = w1.heap.size + 1 := by simp
      generalize w1.alloc (.cells #[.slice none 0 0] 27) = w2 at hb hk hz ⊢
      have HB2 : Hid (Below w.heap.size w w2) := Lib.hid (HB1.out.trans (hb.mono HB1.out.size))
      have HZ2 : Hid (w1.heap.size ≤ w2.heap.size) := Lib.hid hb.size
      have HRu2 := Lib.hid (HRu0.out.below HB2.out (Nat.le_refl _))
      have HRx2 := Lib.hid (HRx0.out.below HB2.out (Nat.le_refl _))
      have HKx2 := Lib.hid ((hb.block _ (lt_of_block HKx1.out)).trans HKx1.out)
      have HKz2 := Lib.hid hk
      replace HZ2 : Hid (w1.heap.size < w2.heap.size) := Lib.hid (by omega)
      have HE2 := Lib.hid hz
      clear hb hk hz
      have hlz : w.heap.size + 1 < w2.heap.size := lt_of_block HKz2.out
      have ltx := lt_of_block HKx2.out
      obtain ⟨cx0, fx0⟩ := cell1 HKx2.out
      have ltz := lt_of_block HKz2.out
      obtain ⟨cz0, fz0⟩ := cell1 HKz2.out
      refine (l7Amount_any _ _ us xs _ HRu2.out HS.out HRx2.out false ⟨fun e => (by simp at e), fun e => absurd e HN.out⟩).mono ?_
      rintro e w3 ⟨rfl, hb⟩
      have HB3 : Hid (Below w.heap.size w w3) := Lib.hid (HB2.out.trans (hb.mono HB2.out.size))
      have HZ3 : Hid (w2.heap.size ≤ w3.heap.size) := Lib.hid hb.size
      have HRu3 := Lib.hid (HRu0.out.below HB3.out (Nat.le_refl _))
      have HRx3 := Lib.hid (HRx0.out.below HB3.out (Nat.le_refl _))
      have HKx3 := Lib.hid ((hb.block _ (lt_of_block HKx2.out)).trans HKx2.out)
      have HKz3 := Lib.hid ((hb.block _ (lt_of_block HKz2.out)).trans HKz2.out)
      clear hb
      clear cx0 fx0 ltx cz0 fz0 ltz
      have ltx := lt_of_block HKx3.out
      obtain ⟨cx0, fx0⟩ := cell1 HKx3.out
      have ltz := lt_of_block HKz3.out
      obtain ⟨cz0, fz0⟩ := cell1 HKz3.out
      go_wp2_with fail
      exact bodyPost_ret (v := .tuple #[.agg #[.slice none 0 0], .bool false]) (by simp [results, Tryd.results7, go_sem, cz0]) rfl ⟨⟨_, rfl, OwA.nil _ _ _⟩, by first | exact HB3.out | exact HB3.out.setCell (p := ⟨w.heap.size + 1, 0, none⟩) (by show w.heap.size ≤ w.heap.size + 1; omega) _⟩
set_option maxRecDepth 100000 in
set_option maxHeartbeats 3200000 in
theorem sConvertTo_any (v sx v2 : Value) (us us2 : List Un) (xs : List Int) (num den : Int) (w : World) (h : RowsR 2 unC w v us) (hs : ∀ u ∈ us, u.nm.size ≤ maxLen) (hh : RowsR 2 unC w v2 us2) (hs2 : ∀ u ∈ us2, u.nm.size ≤ maxLen) (hx : RowsR 1 inC w sx xs) (qs : List Int) (r : Bool) (hk : TestF (okAm us xs ∧ okS us2 ∧ (1 ≤ num ∧ num ≤ 10000) ∧ (1 ≤ den ∧ den ≤ 10000)) us2 (valA us xs * num / den) qs r) :
    Calls Tryd.prog 16 #[v, .agg #[sx], v2, .int .i64 num, .int .i64 den] w fun e w' => (∃ s1, e = .returned (.tuple #[.agg #[s1], .bool r]) ∧ OwA w.heap.size w'.heap.size w' s1 qs) ∧ Below w.heap.size w w' := by
  obtain ⟨a, cp, rfl⟩ := h.form
  have HS := Lib.hid hs
  have HS2 := Lib.hid hs2
  obtain ⟨a1, c1, rfl⟩ := hx.form
  obtain ⟨a2, c2, rfl⟩ := hh.form
  rcases hk with ⟨ho, hp⟩ | ⟨ho, rfl, rfl⟩
  · have HO := Lib.hid ho
    have hvx := valA_lt ho.1
    obtain ⟨x, hx9⟩ : ∃ x, x = valA us xs := ⟨_, rfl⟩
    rw [← hx9] at hvx hp
    have HX9 := Lib.hid hx9
    obtain ⟨o1, ⟨n1, n2⟩, d1, d2⟩ : okS us2 ∧ (1 ≤ num ∧ num ≤ 10000) ∧ (1 ≤ den ∧ den ≤ 10000) := ho.2
    obtain ⟨q, hq⟩ : ∃ q, IntKind.i64.wrap (x.tdiv den) = q := ⟨_, rfl⟩
    obtain ⟨m, hm⟩ : ∃ m, x.tmod den = m := ⟨_, rfl⟩
    have hq1 : 0 ≤ x / den ∧ x / den ≤ x := ⟨Int.ediv_nonneg hvx.1 (by omega), Int.ediv_le_self _ hvx.1⟩
    have hqe : q = x / den := by rw [← hq, Int.tdiv_eq_ediv_of_nonneg hvx.1, wrap_small _ (by omega) (by omega)]
    have hme : m = x % den := by rw [← hm, Int.tmod_eq_emod_of_nonneg hvx.1]
    have hm1 : 0 ≤ m ∧ m < den := by rw [hme]; exact ⟨Int.emod_nonneg _ (by omega), Int.emod_lt_of_pos _ (by omega)⟩
    have hqb : 0 ≤ q ∧ q ≤ 101000000000000 := by omega
    have hb1 := mul_bd hqb.1 hqb.2 (show 0 ≤ num by omega) n2
    have hb2 := mul_bd hm1.1 (show m ≤ 10000 by omega) (show 0 ≤ num by omega) n2
    have hw1 : IntKind.i64.wrap (q * num) = q * num := wrap_small _ (by omega) (by omega)
    have hw2 : IntKind.i64.wrap (m * num) = m * num := wrap_small _ (by omega) (by omega)
    obtain ⟨t, ht⟩ : ∃ t, IntKind.i64.wrap ((m * num).tdiv den) = t := ⟨_, rfl⟩
    have ht1 : 0 ≤ m * num / den ∧ m * num / den ≤ m * num := ⟨Int.ediv_nonneg hb2.1 (by omega), Int.ediv_le_self _ hb2.1⟩
    have hte : t = m * num / den := by rw [← ht, Int.tdiv_eq_ediv_of_nonneg hb2.1, wrap_small _ (by omega) (by omega)]
    have hw3 : IntKind.i64.wrap (q * num + t) = q * num + t := wrap_small _ (by omega) (by omega)
    have hve : q * num + t = x * num / den := by rw [hte, hqe, hme]; exact conv_eq x num den (by omega)
    rw [← hve] at hp
    have HP := Lib.hid hp
    have h9 : q * num + t ≤ 9223372036854775807 := by omega
    have y3 : (den == 0) = false := beq_eq_false_iff_ne.2 (by omega)
    have y4 : den ≠ 0 := by omega
    have HO2 := Lib.hid o1
    have HNM : Hid ((1 ≤ num ∧ num ≤ 10000) ∧ (1 ≤ den ∧ den ≤ 10000)) := Lib.hid ⟨⟨n1, n2⟩, d1, d2⟩
    clear hp hve hte ht1 hb1 hb2 hqb hm1 hme hqe hq1 o1 hx9 n1 n2 d1 d2
    have HB0 : Hid (Below w.heap.size w w) := Lib.hid (Below.refl _ _)
    have HRu0 := Lib.hid (h)
    have HRt0 := Lib.hid (hh)
    have HRx0 := Lib.hid (hx)
    clear h hs hh hs2 hx ho
    go_enter Tryd.func16, Tryd.ntmps16
    go_wp2_with fail
    have hb : Below w.heap.size w (w.alloc (.cells #[.slice a1 xs.length c1] 27)) := (Below.refl _ _).alloc (Nat.le_refl _) _
    have hk : (w.alloc (.cells #[.slice a1 xs.length c1] 27)).heap[w.heap.size]? = some (.cells #[.slice a1 xs.length c1] 27 (0, 0)) := alloc_at rfl
    have hz : (w.alloc (.cells #[.slice a1 xs.length c1] 27)).heap.size = w.heap.size + 1 := by simp
    generalize w.alloc (.cells #[.slice a1 xs.length c1] 27) = w1 at hb hk hz ⊢
    have HB1 : Hid (Below w.heap.size w w1) := Lib.hid (HB0.out.trans (hb.mono HB0.out.size))
    have HZ1 : Hid (w.heap.size ≤ w1.heap.size) := Lib.hid hb.size
    have HRu1 := Lib.hid (HRu0.out.below HB1.out (Nat.le_refl _))
    have HRt1 := Lib.hid (HRt0.out.below HB1.out (Nat.le_refl _))
    have HRx1 := Lib.hid (HRx0.out.below HB1.out (Nat.le_refl _))
    have HKx1 := Lib.hid hk
    replace HZ1 : Hid (w.heap.size < w1.heap.size) := Lib.hid (by omega)
    have HE1 := Lib.hid hz
    clear hb hk hz
    have hb : Below w1.heap.size w1 (w1.alloc (.cells #[.slice none 0 0] 27)) := (Below.refl _ _).alloc (Nat.le_refl _) _
    have hk : (w1.alloc (.cells #[.slice none 0 0] 27)).heap[w.heap.size + 1]? = some (.cells #[.slice none 0 0] 27 (0, 0)) := alloc_at (by have := HE1.out; omega)
    have hz : (w1.alloc (.cells #[.slice none 0 0] 27)).heap.size = w1.heap.size + 1 := by simp
    generalize w1.alloc (.cells #[.slice none 0 0] 27) = w2 at hb hk hz ⊢
    have HB2 : Hid (Below w.heap.size w w2) := Lib.hid (HB1.out.trans (hb.mono HB1.out.size))
    have HZ2 : Hid (w1.heap.size ≤ w2.heap.size) := Lib.hid hb.size
    have HRu2 := Lib.hid (HRu0.out.below HB2.out (Nat.le_refl _))
    have HRt2 := Lib.hid (HRt0.out.below HB2.out (Nat.le_refl _))
    have HRx2 := Lib.hid (HRx0.out.below HB2.out (Nat.le_refl _))
    have HKx2 := Lib.hid ((hb.block _ (lt_of_block HKx1.out)).trans HKx1.out)
    have HKz2 := Lib.hid hk
    replace HZ2 : Hid (w1.heap.size < w2.heap.size) := Lib.hid (by omega)
    have HE2 := Lib.hid hz
    clear hb hk hz
    have hlz : w.heap.size + 1 < w2.heap.size := lt_of_block HKz2.out
    have ltx := lt_of_block HKx2.out
    obtain ⟨cx0, fx0⟩ := cell1 HKx2.out
    have ltz := lt_of_block HKz2.out
    obtain ⟨cz0, fz0⟩ := cell1 HKz2.out
    refine (l7Amount_any _ _ us xs _ HRu2.out HS.out HRx2.out true ⟨fun _ => HO.out.1, fun _ => rfl⟩).mono ?_
    rintro e w3 ⟨rfl, hb⟩
    have HB3 : Hid (Below w.heap.size w w3) := Lib.hid (HB2.out.trans (hb.mono HB2.out.size))
    have HZ3 : Hid (w2.heap.size ≤ w3.heap.size) := Lib.hid hb.size
    have HRu3 := Lib.hid (HRu0.out.below HB3.out (Nat.le_refl _))
    have HRt3 := Lib.hid (HRt0.out.below HB3.out (Nat.le_refl _))
    have HRx3 := Lib.hid (HRx0.out.below HB3.out (Nat.le_refl _))
    have HKx3 := Lib.hid ((hb.block _ (lt_of_block HKx2.out)).trans HKx2.out)
    have HKz3 := Lib.hid ((hb.block _ (lt_of_block HKz2.out)).trans HKz2.out)
    clear hb
    clear cx0 fx0 ltx cz0 fz0 ltz
    have ltx := lt_of_block HKx3.out
    obtain ⟨cx0, fx0⟩ := cell1 HKx3.out
    have ltz := lt_of_block HKz3.out
    obtain ⟨cz0, fz0⟩ := cell1 HKz3.out
    go_wp2_with fail
    refine (l7System_any _ us2 _ HRt3.out HS2.out true ⟨fun _ => HO2.out, fun _ => rfl⟩).mono ?_
    rintro e w4 ⟨rfl, hb⟩
    have HB4 : Hid (Below w.heap.size w w4) := Lib.hid (HB3.out.trans (hb.mono HB3.out.size))
    have HZ4 : Hid (w3.heap.size ≤ w4.heap.size) := Lib.hid hb.size
    have HRu4 := Lib.hid (HRu0.out.below HB4.out (Nat.le_refl _))
    have HRt4 := Lib.hid (HRt0.out.below HB4.out (Nat.le_refl _))
    have HRx4 := Lib.hid (HRx0.out.below HB4.out (Nat.le_refl _))
    have HKx4 := Lib.hid ((hb.block _ (lt_of_block HKx3.out)).trans HKx3.out)
    have HKz4 := Lib.hid ((hb.block _ (lt_of_block HKz3.out)).trans HKz3.out)
    clear hb
    clear cx0 fx0 ltx cz0 fz0 ltz
    have ltx := lt_of_block HKx4.out
    obtain ⟨cx0, fx0⟩ := cell1 HKx4.out
    have ltz := lt_of_block HKz4.out
    obtain ⟨cz0, fz0⟩ := cell1 HKz4.out
    go_wp2_with fail
    refine (l1In_yesq _ _ _ _ HNM.out.1).mono ?_
    rintro e w' ⟨rfl, hw'⟩
    subst w'
    go_wp2_with fail
    refine (l1In_yesq _ _ _ _ HNM.out.2).mono ?_
    rintro e w' ⟨rfl, hw'⟩
    subst w'
    go_wp2_with fail
    refine (l7Value_any _ _ us xs _ HRu4.out HRx4.out HO.out.1).mono ?_
    rintro e w5 ⟨rfl, hb⟩
    have HB5 : Hid (Below w.heap.size w w5) := Lib.hid (HB4.out.trans (hb.mono HB4.out.size))
    have HZ5 : Hid (w4.heap.size ≤ w5.heap.size) := Lib.hid hb.size
    have HRu5 := Lib.hid (HRu0.out.below HB5.out (Nat.le_refl _))
    have HRt5 := Lib.hid (HRt0.out.below HB5.out (Nat.le_refl _))
    have HRx5 := Lib.hid (HRx0.out.below HB5.out (Nat.le_refl _))
    have HKx5 := Lib.hid ((hb.block _ (lt_of_block HKx4.out)).trans HKx4.out)
    have HKz5 := Lib.hid ((hb.block _ (lt_of_block HKz4.out)).trans HKz4.out)
    clear hb
    rw [← HX9.out]
    clear cx0 fx0 ltx cz0 fz0 ltz
    have ltx := lt_of_block HKx5.out
    obtain ⟨cx0, fx0⟩ := cell1 HKx5.out
    have ltz := lt_of_block HKz5.out
    obtain ⟨cz0, fz0⟩ := cell1 HKz5.out
    go_wp2_with fail
    refine wp_region_held_drew (S := (fun w' => w'.cell? ⟨w.heap.size, 0, none⟩ = some (.slice a1 xs.length c1) ∧ w'.cell? ⟨w.heap.size + 1, 0, none⟩ = some (.slice none 0 0))) (by kernel_rfl) (⟨cx0, cz0⟩) (fun hHeld => ?_)
    have hb : Below w5.heap.size w5 w5.drew := (Below.refl _ _).drew
    generalize w5.drew = w6 at hb hHeld ⊢
    have HB6 : Hid (Below w.heap.size w w6) := Lib.hid (HB5.out.trans (hb.mono HB5.out.size))
    have HZ6 : Hid (w5.heap.size ≤ w6.heap.size) := Lib.hid hb.size
    have HRu6 := Lib.hid (HRu0.out.below HB6.out (Nat.le_refl _))
    have HRt6 := Lib.hid (HRt0.out.below HB6.out (Nat.le_refl _))
    have HRx6 := Lib.hid (HRx0.out.below HB6.out (Nat.le_refl _))
    have HKx6 := Lib.hid ((hb.block _ (lt_of_block HKx5.out)).trans HKx5.out)
    have HKz6 := Lib.hid ((hb.block _ (lt_of_block HKz5.out)).trans HKz5.out)
    clear hb
    clear cx0 fx0 ltx cz0 fz0 ltz
    have ltx := lt_of_block HKx6.out
    obtain ⟨cx0, fx0⟩ := cell1 HKx6.out
    have ltz := lt_of_block HKz6.out
    obtain ⟨cz0, fz0⟩ := cell1 HKz6.out
    refine take1 (i := 0) (v := ?v1) (some 39) rfl rfl (by kernel_rfl) (by kernel_rfl) (by kernel_rfl) (fun _ _ _ h => h) (Or.inl ⟨by rfl, ?y1⟩) (by assumption) ?r1
    case y1 => (intro w hSw; (try dsimp only at hSw); go_simp; (first | done | with_reducible rfl))
    try simp only [Act.put, List.setIfInBounds_toArray, List.set_cons_zero, List.set_cons_succ]
    refine take1 (i := 1) (v := ?v2) (some 40) rfl rfl (by kernel_rfl) (by kernel_rfl) (by kernel_rfl) (fun _ _ _ h => h) (Or.inl ⟨by rfl, ?y2⟩) (by assumption) ?r2
    case y2 => (intro w hSw; (try dsimp only at hSw); go_simp; (first | done | with_reducible rfl))
    try simp only [Act.put, List.setIfInBounds_toArray, List.set_cons_zero, List.set_cons_succ]
    refine take1 (i := 2) (v := ?v3) (some 41) rfl rfl (by kernel_rfl) (by kernel_rfl) (by kernel_rfl) (fun _ _ _ h => h) (Or.inl ⟨by rfl, ?y3⟩) (by assumption) ?r3
    case y3 => (intro w hSw; (try dsimp only at hSw); go_simp; (first | done | with_reducible rfl))
    try simp only [Act.put, List.setIfInBounds_toArray, List.set_cons_zero, List.set_cons_succ]
    refine take1 (i := 3) (v := ?v4) (some 42) rfl rfl (by kernel_rfl) (by kernel_rfl) (by kernel_rfl) (fun _ _ _ h => h) (Or.inl ⟨by rfl, ?y4⟩) (by assumption) ?r4
    case y4 => (intro w hSw; (try dsimp only at hSw); go_simp; (first | done | with_reducible rfl))
    try simp only [Act.put, List.setIfInBounds_toArray, List.set_cons_zero, List.set_cons_succ]
    refine take1 (i := 4) (v := ?v5) (some 43) rfl rfl (by kernel_rfl) (by kernel_rfl) (by kernel_rfl) (fun _ _ _ h => h) (Or.inl ⟨by rfl, ?y5⟩) (by assumption) ?r5
    case y5 => (intro w hSw; (try dsimp only at hSw); go_simp; (first | done | with_reducible rfl))
    try simp only [Act.put, List.setIfInBounds_toArray, List.set_cons_zero, List.set_cons_succ]
    refine take1 (i := 5) (v := ?v6) (some 44) rfl rfl (by kernel_rfl) (by kernel_rfl) (by kernel_rfl) (fun _ _ _ h => h) (Or.inl ⟨by rfl, ?y6⟩) (by assumption) ?r6
    case y6 => (intro w hSw; (try dsimp only at hSw); go_simp; (first | done | with_reducible rfl))
    try simp only [Act.put, List.setIfInBounds_toArray, List.set_cons_zero, List.set_cons_succ]
    refine take1 (i := 6) (v := ?v7) (some 45) rfl rfl (by kernel_rfl) (by kernel_rfl) (by kernel_rfl) (fun _ _ _ h => h) (Or.inl ⟨by rfl, ?y7⟩) (by assumption) ?r7
    case y7 => (intro w hSw; (try dsimp only at hSw); go_simp; (first | done | with_reducible rfl))
    try simp only [Act.put, List.setIfInBounds_toArray, List.set_cons_zero, List.set_cons_succ]
    refine take1 (i := 7) (v := ?v8) (some 46) rfl rfl (by kernel_rfl) (by kernel_rfl) (by kernel_rfl) (fun _ _ _ h => h) (Or.inl ⟨by rfl, ?y8⟩) (by assumption) ?r8
    case y8 => (intro w hSw; (try dsimp only at hSw); go_simp; (first | done | with_reducible rfl))
    try simp only [Act.put, List.setIfInBounds_toArray, List.set_cons_zero, List.set_cons_succ]
    refine take1 (i := 8) (v := ?v9) (some 47) rfl rfl (by kernel_rfl) (by kernel_rfl) (by kernel_rfl) (fun _ _ _ h => h) (Or.inl ⟨by rfl, ?y9⟩) (by assumption) ?r9
    case y9 => (intro w hSw; (try dsimp only at hSw); go_simp; (first | done | with_reducible rfl))
    try simp only [Act.put, List.setIfInBounds_toArray, List.set_cons_zero, List.set_cons_succ]
    refine take1 (i := 9) (v := ?v10) (some 48) rfl rfl (by kernel_rfl) (by kernel_rfl) (by kernel_rfl) (fun _ _ _ h => h) (Or.inl ⟨by rfl, ?y10⟩) (by assumption) ?r10
    case y10 => (intro w hSw; (try dsimp only at hSw); go_simp; (first | done | with_reducible rfl))
    try simp only [Act.put, List.setIfInBounds_toArray, List.set_cons_zero, List.set_cons_succ]
    refine take1 (i := 10) (v := ?v11) (some 49) rfl rfl (by kernel_rfl) (by kernel_rfl) (by kernel_rfl) (fun _ _ _ h => h) (Or.inl ⟨by rfl, ?y11⟩) (by assumption) ?r11
    case y11 => (intro w hSw; (try dsimp only at hSw); go_simp; (first | done | with_reducible rfl))
    try simp only [Act.put, List.setIfInBounds_toArray, List.set_cons_zero, List.set_cons_succ]
    refine take1 (i := 11) (v := ?v12) (some 50) rfl rfl (by kernel_rfl) (by kernel_rfl) (by kernel_rfl) (fun _ _ _ h => h) (Or.inl ⟨by rfl, ?y12⟩) (by assumption) ?r12
    case y12 => (intro w hSw; (try dsimp only at hSw); go_simp; (first | done | with_reducible rfl))
    try simp only [Act.put, List.setIfInBounds_toArray, List.set_cons_zero, List.set_cons_succ]
    refine take1 (i := 12) (v := ?v13) (some 51) rfl rfl (by kernel_rfl) (by kernel_rfl) (by kernel_rfl) (fun _ _ _ h => h) (Or.inl ⟨by rfl, ?y13⟩) (by assumption) ?r13
    case y13 => (intro w hSw; (try dsimp only at hSw); go_simp; (first | done | with_reducible rfl))
    try simp only [Act.put, List.setIfInBounds_toArray, List.set_cons_zero, List.set_cons_succ]
    refine take1 (i := 13) (v := ?v14) (some 52) rfl rfl (by kernel_rfl) (by kernel_rfl) (by kernel_rfl) (fun _ _ _ h => h) (Or.inl ⟨by rfl, ?y14⟩) (by assumption) ?r14
    case y14 => (intro w hSw; (try dsimp only at hSw); go_simp; (first | done | with_reducible rfl))
    try simp only [Act.put, List.setIfInBounds_toArray, List.set_cons_zero, List.set_cons_succ]
    refine wpAnyH_ready (rs := [14, 18]) (by kernel_rfl) (by simp) ?_
    refine AllReadyH.cons rfl (fun K hK => ?_) (AllReadyH.cons rfl (fun K hK => ?_) AllReadyH.nil)
    · go_simp
      go_at_call 30
      refine (l7Proper_any _ us2 (q * num + t) _ HRt6.out HS2.out HO2.out h9 qs r HP.out).mono ?_
      rintro e w7 ⟨⟨s1, rfl, ho⟩, hb⟩
      have HB7 : Hid (Below w.heap.size w w7) := Lib.hid (HB6.out.trans (hb.mono HB6.out.size))
      have HZ7 : Hid (w6.heap.size ≤ w7.heap.size) := Lib.hid hb.size
      have HRu7 := Lib.hid (HRu0.out.below HB7.out (Nat.le_refl _))
      have HRt7 := Lib.hid (HRt0.out.below HB7.out (Nat.le_refl _))
      have HRx7 := Lib.hid (HRx0.out.below HB7.out (Nat.le_refl _))
      have HKx7 := Lib.hid ((hb.block _ (lt_of_block HKx6.out)).trans HKx6.out)
      have HKz7 := Lib.hid ((hb.block _ (lt_of_block HKz6.out)).trans HKz6.out)
      clear hb
      obtain ⟨pv, kv, rfl⟩ := ho.form
      have HOv7 := Lib.hid (ho)
      clear ho
      clear cx0 fx0 ltx cz0 fz0 ltz
      have ltx := lt_of_block HKx7.out
      obtain ⟨cx0, fx0⟩ := cell1 HKx7.out
      have ltz := lt_of_block HKz7.out
      obtain ⟨cz0, fz0⟩ := cell1 HKz7.out
      try go_simp
      refine hK.out _ _ (⟨cx0, cz0⟩) (fun hHeld => ?_)
      clear hK K
      try simp only [Act.put, List.setIfInBounds_toArray, List.set_cons_zero, List.set_cons_succ]
      refine take1 (i := 15) (v := ?v15) (some 38) rfl rfl (by kernel_rfl) (by kernel_rfl) (by kernel_rfl) (fun _ _ _ h => h) (Or.inl ⟨by rfl, ?y15⟩) (by assumption) ?r15
      case y15 => (intro w hSw; (try dsimp only at hSw); go_simp; (first | done | with_reducible rfl))
      try simp only [Act.put, List.setIfInBounds_toArray, List.set_cons_zero, List.set_cons_succ]
      refine take1 (i := 16) (v := ?v16) (some 54) rfl rfl (by kernel_rfl) (by kernel_rfl) (by kernel_rfl) (fun _ _ _ h => h) (Or.inl ⟨by rfl, ?y16⟩) (by assumption) ?r16
      case y16 => (intro w hSw; (try dsimp only at hSw); go_simp; (first | done | with_reducible rfl))
      try simp only [Act.put, List.setIfInBounds_toArray, List.set_cons_zero, List.set_cons_succ]
      refine take1 (i := 17) (v := ?v17) (some 55) rfl rfl (by kernel_rfl) (by kernel_rfl) (by kernel_rfl) (fun _ _ _ h => h) (Or.inl ⟨by rfl, ?y17⟩) (by assumption) ?r17
      case y17 => (intro w hSw; (try dsimp only at hSw); go_simp; (first | done | with_reducible rfl))
      try simp only [Act.put, List.setIfInBounds_toArray, List.set_cons_zero, List.set_cons_succ]
      refine wpAnyH_ready (rs := [18]) (by kernel_rfl) (by simp) ?_
      refine AllReadyH.cons rfl (fun K hK => ?_) AllReadyH.nil
      go_simp
      have hb : Below w7.heap.size w7 (w7.alloc (.cells #[.slice none 0 0] 27)) := (Below.refl _ _).alloc (Nat.le_refl _) _
      have hk : (w7.alloc (.cells #[.slice none 0 0] 27)).heap[w7.heap.size]? = some (.cells #[.slice none 0 0] 27 (0, 0)) := alloc_at rfl
      have hz : (w7.alloc (.cells #[.slice none 0 0] 27)).heap.size = w7.heap.size + 1 := by simp
      generalize w7.alloc (.cells #[.slice none 0 0] 27) = w8 at hb hk hz ⊢
      have HB8 : Hid (Below w.heap.size w w8) := Lib.hid (HB7.out.trans (hb.mono HB7.out.size))
      have HZ8 : Hid (w7.heap.size ≤ w8.heap.size) := Lib.hid hb.size
      have HRu8 := Lib.hid (HRu0.out.below HB8.out (Nat.le_refl _))
      have HRt8 := Lib.hid (HRt0.out.below HB8.out (Nat.le_refl _))
      have HRx8 := Lib.hid (HRx0.out.below HB8.out (Nat.le_refl _))
      have HKx8 := Lib.hid ((hb.block _ (lt_of_block HKx7.out)).trans HKx7.out)
      have HKz8 := Lib.hid ((hb.block _ (lt_of_block HKz7.out)).trans HKz7.out)
      have HOv8 := Lib.hid (HOv7.out.next hb)
      have HKo8 := Lib.hid hk
      replace HZ8 : Hid (w7.heap.size < w8.heap.size) := Lib.hid (by omega)
      have HE8 := Lib.hid hz
      clear hb hk hz
      clear cx0 fx0 ltx cz0 fz0 ltz
      have ltx := lt_of_block HKx8.out
      obtain ⟨cx0, fx0⟩ := cell1 HKx8.out
      have ltz := lt_of_block HKz8.out
      obtain ⟨cz0, fz0⟩ := cell1 HKz8.out
      have lto := lt_of_block HKo8.out
      obtain ⟨co0, fo0⟩ := cell1 HKo8.out
      refine hK.out _ _ (⟨cx0, cz0⟩) (fun hHeld => ?_)
      clear hK K
      try simp only [Act.put, List.setIfInBounds_toArray, List.set_cons_zero, List.set_cons_succ]
      refine wpAnyH_ready (rs := [19]) (by kernel_rfl) (by simp) ?_
      refine AllReadyH.cons rfl (fun K hK => ?_) AllReadyH.nil
      go_simp
      have hko := box1_set HKo8.out (.slice pv qs.length kv)
      have hm : Btw w7.heap.size (w7.heap.size + 1) w8 (w8.setCell ⟨w7.heap.size, 0, none⟩ (.slice pv qs.length kv)) := (Btw.refl w7.heap.size (w7.heap.size + 1) w8).setCell (p := ⟨w7.heap.size, 0, none⟩) (Nat.le_refl _) (Nat.lt_succ_self _) _
      generalize w8.setCell ⟨w7.heap.size, 0, none⟩ (.slice pv qs.length kv) = w9 at hko hm ⊢
      have HZ9 : Hid (w8.heap.size ≤ w9.heap.size) := Lib.hid hm.size
      have HB9 : Hid (Below w.heap.size w w9) := Lib.hid (HB8.out.trans (hm.below.mono (by have := HZ1.out; have := HZ2.out; have := HZ3.out; have := HZ4.out; have := HZ5.out; have := HZ6.out; have := HZ7.out; have := HZ8.out; have := HB0.out.size; omega)))
      have HRu9 := Lib.hid (HRu0.out.below HB9.out (Nat.le_refl _))
      have HRt9 := Lib.hid (HRt0.out.below HB9.out (Nat.le_refl _))
      have HRx9 := Lib.hid (HRx0.out.below HB9.out (Nat.le_refl _))
      have HKx9 := Lib.hid ((hm.block _ (by have := lt_of_block HKx8.out; have := HZ1.out; have := HZ2.out; have := HZ3.out; have := HZ4.out; have := HZ5.out; have := HZ6.out; have := HZ7.out; have := HZ8.out; omega)).trans HKx8.out)
      have HKz9 := Lib.hid ((hm.block _ (by have := lt_of_block HKz8.out; have := HZ1.out; have := HZ2.out; have := HZ3.out; have := HZ4.out; have := HZ5.out; have := HZ6.out; have := HZ7.out; have := HZ8.out; omega)).trans HKz8.out)
      have HOv9 := Lib.hid (HOv8.out.btw hm (by have := HZ1.out; have := HZ2.out; have := HZ3.out; have := HZ4.out; have := HZ5.out; have := HZ6.out; have := HZ7.out; have := HZ8.out; omega))
      clear hm
      have HKo9 := Lib.hid (hko)
      clear hko
      clear cx0 fx0 ltx cz0 fz0 ltz co0 fo0 lto
      have ltx := lt_of_block HKx9.out
      obtain ⟨cx0, fx0⟩ := cell1 HKx9.out
      have ltz := lt_of_block HKz9.out
      obtain ⟨cz0, fz0⟩ := cell1 HKz9.out
      have lto := lt_of_block HKo9.out
      obtain ⟨co0, fo0⟩ := cell1 HKo9.out
      refine hK.out _ _ (⟨cx0, cz0⟩) (fun hHeld => ?_)
      clear hK K
      try simp only [Act.put]
      refine take1 (i := 20) (v := ?v18) (some 14) rfl rfl (by kernel_rfl) (by kernel_rfl) (by kernel_rfl) (fun _ _ _ h => h) (Or.inl ⟨by rfl, ?y18⟩) (by assumption) ?r18
      case y18 => (intro w hSw; (try dsimp only at hSw); go_simp; (first | done | with_reducible rfl))
      try simp only [Act.put, List.setIfInBounds_toArray, List.set_cons_zero, List.set_cons_succ]
      refine wpAnyH_done (by kernel_rfl) ?_ _
      go_wp2_with fail
      exact bodyPost_ret (v := .tuple #[.agg #[.slice pv qs.length kv], .bool r]) (by simp [results, Tryd.results16, go_sem, cz0]) rfl ⟨⟨_, rfl, (OwA.set HOv9.out (a := ⟨w.heap.size + 1, 0, none⟩) (by show w.heap.size + 1 < _; have := hlz; have := HZ1.out; have := HZ2.out; have := HZ3.out; have := HZ4.out; have := HZ5.out; have := HZ6.out; have := HZ7.out; have := HZ8.out; have := HZ9.out;  omega) _).mono (by have := HZ1.out; have := HZ2.out; have := HZ3.out; have := HZ4.out; have := HZ5.out; have := HZ6.out; have := HZ7.out; have := HZ8.out; have := HZ9.out;  omega) (by simp [World.setCell] <;> (have := HZ1.out; have := HZ2.out; have := HZ3.out; have := HZ4.out; have := HZ5.out; have := HZ6.out; have := HZ7.out; have := HZ8.out; have := HZ9.out;  omega))⟩, HB9.out.setCell (p := ⟨w.heap.size + 1, 0, none⟩) (by show w.heap.size ≤ w.heap.size + 1; omega) _⟩
    · go_simp
      have hb : Below w6.heap.size w6 (w6.alloc (.cells #[.slice none 0 0] 27)) := (Below.refl _ _).alloc (Nat.le_refl _) _
      have hk : (w6.alloc (.cells #[.slice none 0 0] 27)).heap[w6.heap.size]? = some (.cells #[.slice none 0 0] 27 (0, 0)) := alloc_at rfl
      have hz : (w6.alloc (.cells #[.slice none 0 0] 27)).heap.size = w6.heap.size + 1 := by simp
      generalize w6.alloc (.cells #[.slice none 0 0] 27) = w7 at hb hk hz ⊢
      have HB7 : Hid (Below w.heap.size w w7) := Lib.hid (HB6.out.trans (hb.mono HB6.out.size))
      have HZ7 : Hid (w6.heap.size ≤ w7.heap.size) := Lib.hid hb.size
      have HRu7 := Lib.hid (HRu0.out.below HB7.out (Nat.le_refl _))
      have HRt7 := Lib.hid (HRt0.out.below HB7.out (Nat.le_refl _))
      have HRx7 := Lib.hid (HRx0.out.below HB7.out (Nat.le_refl _))
      have HKx7 := Lib.hid ((hb.block _ (lt_of_block HKx6.out)).trans HKx6.out)
      have HKz7 := Lib.hid ((hb.block _ (lt_of_block HKz6.out)).trans HKz6.out)
      have HKo7 := Lib.hid hk
      replace HZ7 : Hid (w6.heap.size < w7.heap.size) := Lib.hid (by omega)
      have HE7 := Lib.hid hz
      clear hb hk hz
      clear cx0 fx0 ltx cz0 fz0 ltz
      have ltx := lt_of_block HKx7.out
      obtain ⟨cx0, fx0⟩ := cell1 HKx7.out
      have ltz := lt_of_block HKz7.out
      obtain ⟨cz0, fz0⟩ := cell1 HKz7.out
      have lto := lt_of_block HKo7.out
      obtain ⟨co0, fo0⟩ := cell1 HKo7.out
      refine hK.out _ _ (⟨cx0, cz0⟩) (fun hHeld => ?_)
      clear hK K
      try simp only [Act.put, List.setIfInBounds_toArray, List.set_cons_zero, List.set_cons_succ]
      refine wpAnyH_ready (rs := [14]) (by kernel_rfl) (by simp) ?_
      refine AllReadyH.cons rfl (fun K hK => ?_) AllReadyH.nil
      go_simp
      go_at_call 30
      refine (l7Proper_any _ us2 (q * num + t) _ HRt7.out HS2.out HO2.out h9 qs r HP.out).mono ?_
      rintro e w8 ⟨⟨s1, rfl, ho⟩, hb⟩
      have HB8 : Hid (Below w.heap.size w w8) := Lib.hid (HB7.out.trans (hb.mono HB7.out.size))
      have HZ8 : Hid (w7.heap.size ≤ w8.heap.size) := Lib.hid hb.size
      have HRu8 := Lib.hid (HRu0.out.below HB8.out (Nat.le_refl _))
      have HRt8 := Lib.hid (HRt0.out.below HB8.out (Nat.le_refl _))
      have HRx8 := Lib.hid (HRx0.out.below HB8.out (Nat.le_refl _))
      have HKx8 := Lib.hid ((hb.block _ (lt_of_block HKx7.out)).trans HKx7.out)
      have HKz8 := Lib.hid ((hb.block _ (lt_of_block HKz7.out)).trans HKz7.out)
      have HKo8 := Lib.hid ((hb.block _ (lt_of_block HKo7.out)).trans HKo7.out)
      clear hb
      obtain ⟨pv, kv, rfl⟩ := ho.form
      have HOv8 := Lib.hid (ho)
      clear ho
      clear cx0 fx0 ltx cz0 fz0 ltz co0 fo0 lto
      have ltx := lt_of_block HKx8.out
      obtain ⟨cx0, fx0⟩ := cell1 HKx8.out
      have ltz := lt_of_block HKz8.out
      obtain ⟨cz0, fz0⟩ := cell1 HKz8.out
      have lto := lt_of_block HKo8.out
      obtain ⟨co0, fo0⟩ := cell1 HKo8.out
      try go_simp
      refine hK.out _ _ (⟨cx0, cz0⟩) (fun hHeld => ?_)
      clear hK K
      try simp only [Act.put, List.setIfInBounds_toArray, List.set_cons_zero, List.set_cons_succ]
      refine take1 (i := 15) (v := ?v19) (some 38) rfl rfl (by kernel_rfl) (by kernel_rfl) (by kernel_rfl) (fun _ _ _ h => h) (Or.inl ⟨by rfl, ?y19⟩) (by assumption) ?r19
      case y19 => (intro w hSw; (try dsimp only at hSw); go_simp; (first | done | with_reducible rfl))
      try simp only [Act.put, List.setIfInBounds_toArray, List.set_cons_zero, List.set_cons_succ]
      refine take1 (i := 16) (v := ?v20) (some 54) rfl rfl (by kernel_rfl) (by kernel_rfl) (by kernel_rfl) (fun _ _ _ h => h) (Or.inl ⟨by rfl, ?y20⟩) (by assumption) ?r20
      case y20 => (intro w hSw; (try dsimp only at hSw); go_simp; (first | done | with_reducible rfl))
      try simp only [Act.put, List.setIfInBounds_toArray, List.set_cons_zero, List.set_cons_succ]
      refine take1 (i := 17) (v := ?v21) (some 55) rfl rfl (by kernel_rfl) (by kernel_rfl) (by kernel_rfl) (fun _ _ _ h => h) (Or.inl ⟨by rfl, ?y21⟩) (by assumption) ?r21
      case y21 => (intro w hSw; (try dsimp only at hSw); go_simp; (first | done | with_reducible rfl))
      try simp only [Act.put, List.setIfInBounds_toArray, List.set_cons_zero, List.set_cons_succ]
      refine wpAnyH_ready (rs := [19]) (by kernel_rfl) (by simp) ?_
      refine AllReadyH.cons rfl (fun K hK => ?_) AllReadyH.nil
      go_simp
      have hko := box1_set HKo8.out (.slice pv qs.length kv)
      have hm : Btw w6.heap.size (w6.heap.size + 1) w8 (w8.setCell ⟨w6.heap.size, 0, none⟩ (.slice pv qs.length kv)) := (Btw.refl w6.heap.size (w6.heap.size + 1) w8).setCell (p := ⟨w6.heap.size, 0, none⟩) (Nat.le_refl _) (Nat.lt_succ_self _) _
      generalize w8.setCell ⟨w6.heap.size, 0, none⟩ (.slice pv qs.length kv) = w9 at hko hm ⊢
      have HZ9 : Hid (w8.heap.size ≤ w9.heap.size) := Lib.hid hm.size
      have HB9 : Hid (Below w.heap.size w w9) := Lib.hid (HB8.out.trans (hm.below.mono (by have := HZ1.out; have := HZ2.out; have := HZ3.out; have := HZ4.out; have := HZ5.out; have := HZ6.out; have := HZ7.out; have := HZ8.out; have := HB0.out.size; omega)))
      have HRu9 := Lib.hid (HRu0.out.below HB9.out (Nat.le_refl _))
      have HRt9 := Lib.hid (HRt0.out.below HB9.out (Nat.le_refl _))
      have HRx9 := Lib.hid (HRx0.out.below HB9.out (Nat.le_refl _))
      have HKx9 := Lib.hid ((hm.block _ (by have := lt_of_block HKx8.out; have := HZ1.out; have := HZ2.out; have := HZ3.out; have := HZ4.out; have := HZ5.out; have := HZ6.out; have := HZ7.out; have := HZ8.out; omega)).trans HKx8.out)
      have HKz9 := Lib.hid ((hm.block _ (by have := lt_of_block HKz8.out; have := HZ1.out; have := HZ2.out; have := HZ3.out; have := HZ4.out; have := HZ5.out; have := HZ6.out; have := HZ7.out; have := HZ8.out; omega)).trans HKz8.out)
      have HOv9 := Lib.hid (HOv8.out.btw hm (by have := HZ1.out; have := HZ2.out; have := HZ3.out; have := HZ4.out; have := HZ5.out; have := HZ6.out; have := HZ7.out; have := HZ8.out; omega))
      clear hm
      have HKo9 := Lib.hid (hko)
      clear hko
      clear cx0 fx0 ltx cz0 fz0 ltz co0 fo0 lto
      have ltx := lt_of_block HKx9.out
      obtain ⟨cx0, fx0⟩ := cell1 HKx9.out
      have ltz := lt_of_block HKz9.out
      obtain ⟨cz0, fz0⟩ := cell1 HKz9.out
      have lto := lt_of_block HKo9.out
      obtain ⟨co0, fo0⟩ := cell1 HKo9.out
      refine hK.out _ _ (⟨cx0, cz0⟩) (fun hHeld => ?_)
      clear hK K
      try simp only [Act.put]
      refine take1 (i := 20) (v := ?v22) (some 14) rfl rfl (by kernel_rfl) (by kernel_rfl) (by kernel_rfl) (fun _ _ _ h => h) (Or.inl ⟨by rfl, ?y22⟩) (by assumption) ?r22
      case y22 => (intro w hSw; (try dsimp only at hSw); go_simp; (first | done | with_reducible rfl))
      try simp only [Act.put, List.setIfInBounds_toArray, List.set_cons_zero, List.set_cons_succ]
      refine wpAnyH_done (by kernel_rfl) ?_ _
      go_wp2_with fail
      exact bodyPost_ret (v := .tuple #[.agg #[.slice pv qs.length kv], .bool r]) (by simp [results, Tryd.results16, go_sem, cz0]) rfl ⟨⟨_, rfl, (OwA.set HOv9.out (a := ⟨w.heap.size + 1, 0, none⟩) (by show w.heap.size + 1 < _; have := hlz; have := HZ1.out; have := HZ2.out; have := HZ3.out; have := HZ4.out; have := HZ5.out; have := HZ6.out; have := HZ7.out; have := HZ8.out; have := HZ9.out;  omega) _).mono (by have := HZ1.out; have := HZ2.out; have := HZ3.out; have := HZ4.out; have := HZ5.out; have := HZ6.out; have := HZ7.out; have := HZ8.out; have := HZ9.out;  omega) (by simp [World.setCell] <;> (have := HZ1.out; have := HZ2.out; have := HZ3.out; have := HZ4.out; have := HZ5.out; have := HZ6.out; have := HZ7.out; have := HZ8.out; have := HZ9.out;  omega))⟩, HB9.out.setCell (p := ⟨w.heap.size + 1, 0, none⟩) (by show w.heap.size ≤ w.heap.size + 1; omega) _⟩
  · by_cases hox : okAm us xs
    · have HO := Lib.hid hox
      by_cases ho2 : okS us2
      · have HO2 := Lib.hid ho2
        by_cases hn : 1 ≤ num ∧ num ≤ 10000
        · have HNU := Lib.hid hn
          have HN : Hid (¬ (1 ≤ den ∧ den ≤ 10000)) := Lib.hid (fun hy => ho ⟨hox, ho2, hn, hy⟩)
          have HB0 : Hid (Below w.heap.size w w) := Lib.hid (Below.refl _ _)
          have HRu0 := Lib.hid (h)
          have HRt0 := Lib.hid (hh)
          have HRx0 := Lib.hid (hx)
          clear h hs hh hs2 hx ho
          clear hox ho2 hn
          go_enter Tryd.func16, Tryd.ntmps16
          go_wp2_with fail
          have hb : Below w.heap.size w (w.alloc (.cells #[.slice a1 xs.length c1] 27)) := (Below.refl _ _).alloc (Nat.le_refl _) _
          have hk : (w.alloc (.cells #[.slice a1 xs.length c1] 27)).heap[w.heap.size]? = some (.cells #[.slice a1 xs.length c1] 27 (0, 0)) := alloc_at rfl
          have hz : (w.alloc (.cells #[.slice a1 xs.length c1] 27)).heap.size = w.heap.size + 1 := by simp
          generalize w.alloc (.cells #[.slice a1 xs.length c1] 27) = w1 at hb hk hz ⊢
          have HB1 : Hid (Below w.heap.size w w1) := Lib.hid (HB0.out.trans (hb.mono HB0.out.size))
          have HZ1 : Hid (w.heap.size ≤ w1.heap.size) := Lib.hid hb.size
          have HRu1 := Lib.hid (HRu0.out.below HB1.out (Nat.le_refl _))
          have HRt1 := Lib.hid (HRt0.out.below HB1.out (Nat.le_refl _))
          have HRx1 := Lib.hid (HRx0.out.below HB1.out (Nat.le_refl _))
          have HKx1 := Lib.hid hk
          replace HZ1 : Hid (w.heap.size < w1.heap.size) := Lib.hid (by omega)
          have HE1 := Lib.hid hz
          clear hb hk hz
          have hb : Below w1.heap.size w1 (w1.alloc (.cells #[.slice none 0 0] 27)) := (Below.refl _ _).alloc (Nat.le_refl _) _
          have hk : (w1.alloc (.cells #[.slice none 0 0] 27)).heap[w.heap.size + 1]? = some (.cells #[.slice none 0 0] 27 (0, 0)) := alloc_at (by have := HE1.out; omega)
          have hz : (w1.alloc (.cells #[.slice none 0 0] 27)).heap.size = w1.heap.size + 1 := by simp
          generalize w1.alloc (.cells #[.slice none 0 0] 27) = w2 at hb hk hz ⊢
          have HB2 : Hid (Below w.heap.size w w2) := Lib.hid (HB1.out.trans (hb.mono HB1.out.size))
          have HZ2 : Hid (w1.heap.size ≤ w2.heap.size) := Lib.hid hb.size
          have HRu2 := Lib.hid (HRu0.out.below HB2.out (Nat.le_refl _))
          have HRt2 := Lib.hid (HRt0.out.below HB2.out (Nat.le_refl _))
          have HRx2 := Lib.hid (HRx0.out.below HB2.out (Nat.le_refl _))
          have HKx2 := Lib.hid ((hb.block _ (lt_of_block HKx1.out)).trans HKx1.out)
          have HKz2 := Lib.hid hk
          replace HZ2 : Hid (w1.heap.size < w2.heap.size) := Lib.hid (by omega)
          have HE2 := Lib.hid hz
          clear hb hk hz
          have hlz : w.heap.size + 1 < w2.heap.size := lt_of_block HKz2.out
          have ltx := lt_of_block HKx2.out
          obtain ⟨cx0, fx0⟩ := cell1 HKx2.out
          have ltz := lt_of_block HKz2.out
          obtain ⟨cz0, fz0⟩ := cell1 HKz2.out
          refine (l7Amount_any _ _ us xs _ HRu2.out HS.out HRx2.out true ⟨fun _ => HO.out, fun _ => rfl⟩).mono ?_
          rintro e w3 ⟨rfl, hb⟩
          have HB3 : Hid (Below w.heap.size w w3) := Lib.hid (HB2.out.trans (hb.mono HB2.out.size))
          have HZ3 : Hid (w2.heap.size ≤ w3.heap.size) := Lib.hid hb.size
          have HRu3 := Lib.hid (HRu0.out.below HB3.out (Nat.le_refl _))
          have HRt3 := Lib.hid (HRt0.out.below HB3.out (Nat.le_refl _))
          have HRx3 := Lib.hid (HRx0.out.below HB3.out (Nat.le_refl _))
          have HKx3 := Lib.hid ((hb.block _ (lt_of_block HKx2.out)).trans HKx2.out)
          have HKz3 := Lib.hid ((hb.block _ (lt_of_block HKz2.out)).trans HKz2.out)
          clear hb
          clear cx0 fx0 ltx cz0 fz0 ltz
          have ltx := lt_of_block HKx3.out
          obtain ⟨cx0, fx0⟩ := cell1 HKx3.out
          have ltz := lt_of_block HKz3.out
          obtain ⟨cz0, fz0⟩ := cell1 HKz3.out
          go_wp2_with fail
          refine (l7System_any _ us2 _ HRt3.out HS2.out true ⟨fun _ => HO2.out, fun _ => rfl⟩).mono ?_
          rintro e w4 ⟨rfl, hb⟩
          have HB4 : Hid (Below w.heap.size w w4) := Lib.hid (HB3.out.trans (hb.mono HB3.out.size))
          have HZ4 : Hid (w3.heap.size ≤ w4.heap.size) := Lib.hid hb.size
          have HRu4 := Lib.hid (HRu0.out.below HB4.out (Nat.le_refl _))
          have HRt4 := Lib.hid (HRt0.out.below HB4.out (Nat.le_refl _))
          have HRx4 := Lib.hid (HRx0.out.below HB4.out (Nat.le_refl _))
          have HKx4 := Lib.hid ((hb.block _ (lt_of_block HKx3.out)).trans HKx3.out)
          have HKz4 := Lib.hid ((hb.block _ (lt_of_block HKz3.out)).trans HKz3.out)
          clear hb
          clear cx0 fx0 ltx cz0 fz0 ltz
          have ltx := lt_of_block HKx4.out
          obtain ⟨cx0, fx0⟩ := cell1 HKx4.out
          have ltz := lt_of_block HKz4.out
          obtain ⟨cz0, fz0⟩ := cell1 HKz4.out
          go_wp2_with fail
          refine (l1In_yesq _ _ _ _ HNU.out).mono ?_
          rintro e w' ⟨rfl, hw'⟩
          subst w'
          go_wp2_with fail
          refine (l1In_noq _ _ _ _ HN.out).mono ?_
          rintro e w' ⟨rfl, hw'⟩
          subst w'
          go_wp2_with fail
          exact bodyPost_ret (v := .tuple #[.agg #[.slice none 0 0], .bool false]) (by simp [results, Tryd.results16, go_sem, cz0]) rfl ⟨⟨_, rfl, OwA.nil _ _ _⟩, by first | exact HB4.out | exact HB4.out.setCell (p := ⟨w.heap.size + 1, 0, none⟩) (by show w.heap.size ≤ w.heap.size + 1; omega) _⟩
        · have HN := Lib.hid hn
          have HB0 : Hid (Below w.heap.size w w) := Lib.hid (Below.refl _ _)
          have HRu0 := Lib.hid (h)
          have HRt0 := Lib.hid (hh)
          have HRx0 := Lib.hid (hx)
          clear h hs hh hs2 hx ho
          clear hox ho2 hn
          go_enter Tryd.func16, Tryd.ntmps16
          go_wp2_with fail
          have hb : Below w.heap.size w (w.alloc (.cells #[.slice a1 xs.length c1] 27)) := (Below.refl _ _).alloc (Nat.le_refl _) _
          have hk : (w.alloc (.cells #[.slice a1 xs.length c1] 27)).heap[w.heap.size]? = some (.cells #[.slice a1 xs.length c1] 27 (0, 0)) := alloc_at rfl
          have hz : (w.alloc (.cells #[.slice a1 xs.length c1] 27)).heap.size = w.heap.size + 1 := by simp
          generalize w.alloc (.cells #[.slice a1 xs.length c1] 27) = w1 at hb hk hz ⊢
          have HB1 : Hid (Below w.heap.size w w1) := Lib.hid (HB0.out.trans (hb.mono HB0.out.size))
          have HZ1 : Hid (w.heap.size ≤ w1.heap.size) := Lib.hid hb.size
          have HRu1 := Lib.hid (HRu0.out.below HB1.out (Nat.le_refl _))
          have HRt1 := Lib.hid (HRt0.out.below HB1.out (Nat.le_refl _))
          have HRx1 := Lib.hid (HRx0.out.below HB1.out (Nat.le_refl _))
          have HKx1 := Lib.hid hk
          replace HZ1 : Hid (w.heap.size < w1.heap.size) := Lib.hid (by omega)
          have HE1 := Lib.hid hz
          clear hb hk hz
          have hb : Below w1.heap.size w1 (w1.alloc (.cells #[.slice none 0 0] 27)) := (Below.refl _ _).alloc (Nat.le_refl _) _
          have hk : (w1.alloc (.cells #[.slice none 0 0] 27)).heap[w.heap.size + 1]? = some (.cells #[.slice none 0 0] 27 (0, 0)) := alloc_at (by have := HE1.out; omega)
          have hz : (w1.alloc (.cells #[.slice none 0 0] 27)).heap.size = w1.heap.size + 1 := by simp
          generalize w1.alloc (.cells #[.slice none 0 0] 27) = w2 at hb hk hz ⊢
          have HB2 : Hid (Below w.heap.size w w2) := Lib.hid (HB1.out.trans (hb.mono HB1.out.size))
          have HZ2 : Hid (w1.heap.size ≤ w2.heap.size) := Lib.hid hb.size
          have HRu2 := Lib.hid (HRu0.out.below HB2.out (Nat.le_refl _))
          have HRt2 := Lib.hid (HRt0.out.below HB2.out (Nat.le_refl _))
          have HRx2 := Lib.hid (HRx0.out.below HB2.out (Nat.le_refl _))
          have HKx2 := Lib.hid ((hb.block _ (lt_of_block HKx1.out)).trans HKx1.out)
          have HKz2 := Lib.hid hk
          replace HZ2 : Hid (w1.heap.size < w2.heap.size) := Lib.hid (by omega)
          have HE2 := Lib.hid hz
          clear hb hk hz
          have hlz : w.heap.size + 1 < w2.heap.size := lt_of_block HKz2.out
          have ltx := lt_of_block HKx2.out
          obtain ⟨cx0, fx0⟩ := cell1 HKx2.out
          have ltz := lt_of_block HKz2.out
          obtain ⟨cz0, fz0⟩ := cell1 HKz2.out
          refine (l7Amount_any _ _ us xs _ HRu2.out HS.out HRx2.out true ⟨fun _ => HO.out, fun _ => rfl⟩).mono ?_
          rintro e w3 ⟨rfl, hb⟩
          have HB3 : Hid (Below w.heap.size w w3) := Lib.hid (HB2.out.trans (hb.mono HB2.out.size))
          have HZ3 : Hid (w2.heap.size ≤ w3.heap.size) := Lib.hid hb.size
          have HRu3 := Lib.hid (HRu0.out.below HB3.out (Nat.le_refl _))
          have HRt3 := Lib.hid (HRt0.out.below HB3.out (Nat.le_refl _))
          have HRx3 := Lib.hid (HRx0.out.below HB3.out (Nat.le_refl _))
          have HKx3 := Lib.hid ((hb.block _ (lt_of_block HKx2.out)).trans HKx2.out)
          have HKz3 := Lib.hid ((hb.block _ (lt_of_block HKz2.out)).trans HKz2.out)
          clear hb
          clear cx0 fx0 ltx cz0 fz0 ltz
          have ltx := lt_of_block HKx3.out
          obtain ⟨cx0, fx0⟩ := cell1 HKx3.out
          have ltz := lt_of_block HKz3.out
          obtain ⟨cz0, fz0⟩ := cell1 HKz3.out
          go_wp2_with fail
          refine (l7System_any _ us2 _ HRt3.out HS2.out true ⟨fun _ => HO2.out, fun _ => rfl⟩).mono ?_
          rintro e w4 ⟨rfl, hb⟩
          have HB4 : Hid (Below w.heap.size w w4) := Lib.hid (HB3.out.trans (hb.mono HB3.out.size))
          have HZ4 : Hid (w3.heap.size ≤ w4.heap.size) := Lib.hid hb.size
          have HRu4 := Lib.hid (HRu0.out.below HB4.out (Nat.le_refl _))
          have HRt4 := Lib.hid (HRt0.out.below HB4.out (Nat.le_refl _))
          have HRx4 := Lib.hid (HRx0.out.below HB4.out (Nat.le_refl _))
          have HKx4 := Lib.hid ((hb.block _ (lt_of_block HKx3.out)).trans HKx3.out)
          have HKz4 := Lib.hid ((hb.block _ (lt_of_block HKz3.out)).trans HKz3.out)
          clear hb
          clear cx0 fx0 ltx cz0 fz0 ltz
          have ltx := lt_of_block HKx4.out
          obtain ⟨cx0, fx0⟩ := cell1 HKx4.out
          have ltz := lt_of_block HKz4.out
          obtain ⟨cz0, fz0⟩ := cell1 HKz4.out
          go_wp2_with fail
          refine (l1In_noq _ _ _ _ HN.out).mono ?_
          rintro e w' ⟨rfl, hw'⟩
          subst w'
          go_wp2_with fail
          exact bodyPost_ret (v := .tuple #[.agg #[.slice none 0 0], .bool false]) (by simp [results, Tryd.results16, go_sem, cz0]) rfl ⟨⟨_, rfl, OwA.nil _ _ _⟩, by first | exact HB4.out | exact HB4.out.setCell (p := ⟨w.heap.size + 1, 0, none⟩) (by show w.heap.size ≤ w.heap.size + 1; omega) _⟩
      · have HN := Lib.hid ho2
        have HB0 : Hid (Below w.heap.size w w) := Lib.hid (Below.refl _ _)
        have HRu0 := Lib.hid (h)
        have HRt0 := Lib.hid (hh)
        have HRx0 := Lib.hid (hx)
        clear h hs hh hs2 hx ho
        clear hox ho2
        go_enter Tryd.func16, Tryd.ntmps16
        go_wp2_with fail
        have hb : Below w.heap.size w (w.alloc (.cells #[.slice a1 xs.length c1] 27)) := (Below.refl _ _).alloc (Nat.le_refl _) _
        have hk : (w.alloc (.cells #[.slice a1 xs.length c1] 27)).heap[w.heap.size]? = some (.cells #[.slice a1 xs.length c1] 27 (0, 0)) := alloc_at rfl
        have hz : (w.alloc (.cells #[.slice a1 xs.length c1] 27)).heap.size = w.heap.size + 1 := by simp
        generalize w.alloc (.cells #[.slice a1 xs.length c1] 27) = w1 at hb hk hz ⊢
        have HB1 : Hid (Below w.heap.size w w1) := Lib.hid (HB0.out.trans (hb.mono HB0.out.size))
        have HZ1 : Hid (w.heap.size ≤ w1.heap.size) := Lib.hid hb.size
        have HRu1 := Lib.hid (HRu0.out.below HB1.out (Nat.le_refl _))
        have HRt1 := Lib.hid (HRt0.out.below HB1.out (Nat.le_refl _))
        have HRx1 := Lib.hid (HRx0.out.below HB1.out (Nat.le_refl _))
        have HKx1 := Lib.hid hk
        replace HZ1 : Hid (w.heap.size < w1.heap.size) := Lib.hid (by omega)
        have HE1 := Lib.hid hz
        clear hb hk hz
        have hb : Below w1.heap.size w1 (w1.alloc (.cells #[.slice none 0 0] 27)) := (Below.refl _ _).alloc (Nat.le_refl _) _
        have hk : (w1.alloc (.cells #[.slice none 0 0] 27)).heap[w.heap.size + 1]? = some (.cells #[.slice none 0 0] 27 (0, 0)) := alloc_at (by have := HE1.out; omega)
        have hz : (w1.alloc (.cells #[.slice none 0 0] 27)).heap.size = w1.heap.size + 1 := by simp
        generalize w1.alloc (.cells #[.slice none 0 0] 27) = w2 at hb hk hz ⊢
        have HB2 : Hid (Below w.heap.size w w2) := Lib.hid (HB1.out.trans (hb.mono HB1.out.size))
        have HZ2 : Hid (w1.heap.size ≤ w2.heap.size) := Lib.hid hb.size
        have HRu2 := Lib.hid (HRu0.out.below HB2.out (Nat.le_refl _))
        have HRt2 := Lib.hid (HRt0.out.below HB2.out (Nat.le_refl _))
        have HRx2 := Lib.hid (HRx0.out.below HB2.out (Nat.le_refl _))
        have HKx2 := Lib.hid ((hb.block _ (lt_of_block HKx1.out)).trans HKx1.out)
        have HKz2 := Lib.hid hk
        replace HZ2 : Hid (w1.heap.size < w2.heap.size) := Lib.hid (by omega)
        have HE2 := Lib.hid hz
        clear hb hk hz
        have hlz : w.heap.size + 1 < w2.heap.size := lt_of_block HKz2.out
        have ltx := lt_of_block HKx2.out
        obtain ⟨cx0, fx0⟩ := cell1 HKx2.out
        have ltz := lt_of_block HKz2.out
        obtain ⟨cz0, fz0⟩ := cell1 HKz2.out
        refine (l7Amount_any _ _ us xs _ HRu2.out HS.out HRx2.out true ⟨fun _ => HO.out, fun _ => rfl⟩).mono ?_
        rintro e w3 ⟨rfl, hb⟩
        have HB3 : Hid (Below w.heap.size w w3) := Lib.hid (HB2.out.trans (hb.mono HB2.out.size))
        have HZ3 : Hid (w2.heap.size ≤ w3.heap.size) := Lib.hid hb.size
        have HRu3 := Lib.hid (HRu0.out.below HB3.out (Nat.le_refl _))
        have HRt3 := Lib.hid (HRt0.out.below HB3.out (Nat.le_refl _))
        have HRx3 := Lib.hid (HRx0.out.below HB3.out (Nat.le_refl _))
        have HKx3 := Lib.hid ((hb.block _ (lt_of_block HKx2.out)).trans HKx2.out)
        have HKz3 := Lib.hid ((hb.block _ (lt_of_block HKz2.out)).trans HKz2.out)
        clear hb
        clear cx0 fx0 ltx cz0 fz0 ltz
        have ltx := lt_of_block HKx3.out
        obtain ⟨cx0, fx0⟩ := cell1 HKx3.out
        have ltz := lt_of_block HKz3.out
        obtain ⟨cz0, fz0⟩ := cell1 HKz3.out
        go_wp2_with fail
        refine (l7System_any _ us2 _ HRt3.out HS2.out false ⟨fun e => (by simp at e), fun e => absurd e HN.out⟩).mono ?_
        rintro e w4 ⟨rfl, hb⟩
        have HB4 : Hid (Below w.heap.size w w4) := Lib.hid (HB3.out.trans (hb.mono HB3.out.size))
        have HZ4 : Hid (w3.heap.size ≤ w4.heap.size) := Lib.hid hb.size
        have HRu4 := Lib.hid (HRu0.out.below HB4.out (Nat.le_refl _))
        have HRt4 := Lib.hid (HRt0.out.below HB4.out (Nat.le_refl _))
        have HRx4 := Lib.hid (HRx0.out.below HB4.out (Nat.le_refl _))
        have HKx4 := Lib.hid ((hb.block _ (lt_of_block HKx3.out)).trans HKx3.out)
        have HKz4 := Lib.hid ((hb.block _ (lt_of_block HKz3.out)).trans HKz3.out)
        clear hb
        clear cx0 fx0 ltx cz0 fz0 ltz
        have ltx := lt_of_block HKx4.out
        obtain ⟨cx0, fx0⟩ := cell1 HKx4.out
        have ltz := lt_of_block HKz4.out
        obtain ⟨cz0, fz0⟩ := cell1 HKz4.out
        go_wp2_with fail
        exact bodyPost_ret (v := .tuple #[.agg #[.slice none 0 0], .bool false]) (by simp [results, Tryd.results16, go_sem, cz0]) rfl ⟨⟨_, rfl, OwA.nil _ _ _⟩, by first | exact HB4.out | exact HB4.out.setCell (p := ⟨w.heap.size + 1, 0, none⟩) (by show w.heap.size ≤ w.heap.size + 1; omega) _⟩
    · have HN := Lib.hid hox
      have HB0 : Hid (Below w.heap.size w w) := Lib.hid (Below.refl _ _)
      have HRu0 := Lib.hid (h)
      have HRt0 := Lib.hid (hh)
      have HRx0 := Lib.hid (hx)
      clear h hs hh hs2 hx ho
      clear hox
      go_enter Tryd.func16, Tryd.ntmps16
      go_wp2_with fail
      have hb : Below w.heap.size w (w.alloc (.cells #[.slice a1 xs.length c1] 27)) := (Below.refl _ _).alloc (Nat.le_refl _) _
      have hk : (w.alloc (.cells #[.slice a1 xs.length c1] 27)).heap[w.heap.size]? = some (.cells #[.slice a1 xs.length c1] 27 (0, 0)) := alloc_at rfl
      have hz : (w.alloc (.cells #[.slice a1 xs.length c1] 27)).heap.size = w.heap.size + 1 := by simp
      generalize w.alloc (.cells #[.slice a1 xs.length c1] 27) = w1 at hb hk hz ⊢
      have HB1 : Hid (Below w.heap.size w w1) := Lib.hid (HB0.out.trans (hb.mono HB0.out.size))
      have HZ1 : Hid (w.heap.size ≤ w1.heap.size) := Lib.hid hb.size
      have HRu1 := Lib.hid (HRu0.out.below HB1.out (Nat.le_refl _))
      have HRt1 := Lib.hid (HRt0.out.below HB1.out (Nat.le_refl _))
      have HRx1 := Lib.hid (HRx0.out.below HB1.out (Nat.le_refl _))
      have HKx1 := Lib.hid hk
      replace HZ1 : Hid (w.heap.size < w1.heap.size) := Lib.hid (by omega)
      have HE1 := Lib.hid hz
      clear hb hk hz
      have hb : Below w1.heap.size w1 (w1.alloc (.cells #[.slice none 0 0] 27)) := (Below.refl _ _).alloc (Nat.le_refl _) _
      have hk : (w1.alloc (.cells #[.slice none 0 0] 27)).heap[w.heap.size + 1]? = some (.cells #[.slice none 0 0] 27 (0, 0)) := alloc_at (by have := HE1.out; omega)
      have hz : (w1.alloc (.cells #[.slice none 0 0] 27)).heap.size = w1.heap.size + 1 := by simp
      generalize w1.alloc (.cells #[.slice none 0 0] 27) = w2 at hb hk hz ⊢
      have HB2 : Hid (Below w.heap.size w w2) := Lib.hid (HB1.out.trans (hb.mono HB1.out.size))
      have HZ2 : Hid (w1.heap.size ≤ w2.heap.size) := Lib.hid hb.size
      have HRu2 := Lib.hid (HRu0.out.below HB2.out (Nat.le_refl _))
      have HRt2 := Lib.hid (HRt0.out.below HB2.out (Nat.le_refl _))
      have HRx2 := Lib.hid (HRx0.out.below HB2.out (Nat.le_refl _))
      have HKx2 := Lib.hid ((hb.block _ (lt_of_block HKx1.out)).trans HKx1.out)
      have HKz2 := Lib.hid hk
      replace HZ2 : Hid (w1.heap.size < w2.heap.size) := Lib.hid (by omega)
      have HE2 := Lib.hid hz
      clear hb hk hz
      have hlz : w.heap.size + 1 < w2.heap.size := lt_of_block HKz2.out
      have ltx := lt_of_block HKx2.out
      obtain ⟨cx0, fx0⟩ := cell1 HKx2.out
      have ltz := lt_of_block HKz2.out
      obtain ⟨cz0, fz0⟩ := cell1 HKz2.out
      refine (l7Amount_any _ _ us xs _ HRu2.out HS.out HRx2.out false ⟨fun e => (by simp at e), fun e => absurd e HN.out⟩).mono ?_
      rintro e w3 ⟨rfl, hb⟩
      have HB3 : Hid (Below w.heap.size w w3) := Lib.hid (HB2.out.trans (hb.mono HB2.out.size))
      have HZ3 : Hid (w2.heap.size ≤ w3.heap.size) := Lib.hid hb.size
      have HRu3 := Lib.hid (HRu0.out.below HB3.out (Nat.le_refl _))
      have HRt3 := Lib.hid (HRt0.out.below HB3.out (Nat.le_refl _))
      have HRx3 := Lib.hid (HRx0.out.below HB3.out (Nat.le_refl _))
      have HKx3 := Lib.hid ((hb.block _ (lt_of_block HKx2.out)).trans HKx2.out)
      have HKz3 := Lib.hid ((hb.block _ (lt_of_block HKz2.out)).trans HKz2.out)
      clear hb
      clear cx0 fx0 ltx cz0 fz0 ltz
      have ltx := lt_of_block HKx3.out
      obtain ⟨cx0, fx0⟩ := cell1 HKx3.out
      have ltz := lt_of_block HKz3.out
      obtain ⟨cz0, fz0⟩ := cell1 HKz3.out
      go_wp2_with fail
      exact bodyPost_ret (v := .tuple #[.agg #[.slice none 0 0], .bool false]) (by simp [results, Tryd.results16, go_sem, cz0]) rfl ⟨⟨_, rfl, OwA.nil _ _ _⟩, by first | exact HB3.out | exact HB3.out.setCell (p := ⟨w.heap.size + 1, 0, none⟩) (by show w.heap.size ≤ w.heap.size + 1; omega) _⟩
set_option maxRecDepth 100000 in
set_option maxHeartbeats 1600000 in
theorem sUnits_scan (v : Value) (us : List Un) (nm : ByteArray) (w : World) (h : RowsR 2 unC w v us) (hs : ∀ u ∈ us, u.nm.size ≤ maxLen) (ho : okS us) (K : Nat) (hK : K ≤ us.length) (hpre : ∀ j (hj : j < us.length), j < K → us[j].nm ≠ nm) (hx : ∀ hj : K < us.length, us[K].nm = nm) (x : Int) (r : Bool) (hr1 : K < us.length → x = unP us (K + 1) ∧ r = true) (hr2 : ¬ K < us.length → x = 0 ∧ r = false) :
    Calls Tryd.prog 12 #[v, .string nm] w fun e w' => e = .returned (.tuple #[.int .i64 x, .bool r]) ∧ Below w.heap.size w w' := by
  have hu6 : us.length ≤ 6 := ho.1.2
  obtain ⟨a, cp, rfl⟩ := h.form
  have A2 := Lib.hid (szS_at h)
  have HO := Lib.hid ho
  have HS := Lib.hid hs
  have HP := Lib.hid hpre
  have HX := Lib.hid hx
  have HR1 := Lib.hid hr1
  have HR2 := Lib.hid hr2
  have HB0 : Hid (Below w.heap.size w w) := Lib.hid (Below.refl _ _)
  have HRu0 := Lib.hid (h)
  clear h hs ho hpre hx hr1 hr2
  go_enter Tryd.func12, Tryd.ntmps12
  go_wp2_with fail
  refine (l7System_any _ us _ HRu0.out HS.out true ⟨fun _ => HO.out, fun _ => rfl⟩).mono ?_
  rintro e w1 ⟨rfl, hb⟩
  have HB1 : Hid (Below w.heap.size w w1) := Lib.hid (HB0.out.trans (hb.mono HB0.out.size))
  have HZ1 : Hid (w.heap.size ≤ w1.heap.size) := Lib.hid hb.size
  have HRu1 := Lib.hid (HRu0.out.below HB1.out (Nat.le_refl _))
  clear hb
  go_wp2_with fail
  go_loopw [6, 7] (fun nv i wr => ∃ (k : Nat) (m : Int), k ≤ K ∧ i = .int .i64 k ∧ nv = .int .i64 m ∧ Hid (m = unP us k) ∧ w1 = wr) (fun _ i _ => us.length - (intOf i).toNat)
  case atStart => exact ⟨0, 1, Nat.zero_le _, rfl, rfl, Lib.hid rfl, rfl⟩
  case round =>
    obtain ⟨k, m, hk, rfl, rfl, HM, rfl⟩ := hrel
    by_cases hlt : k < us.length
    · have z1 : (0 : Int) ≤ (k : Int) := by omega
      have z2 : (k : Int) < (us.length : Int) := by omega
      obtain ⟨b1, o1, rfl, _, p0, p1⟩ := A2.out _ HB1.out k hlt
      have hub := unP_lt HO.out k (by omega)
      rw [← HM.out] at hub
      have hsb := okS_sz HO.out k
      have HST : Hid (unP us (k + 1) = m * szU us k) := Lib.hid (by rw [unP, HM.out])
      generalize szU us k = z at p1 hsb HST
      have hmb := mul_bd (show 0 ≤ m by omega) hub.2 (show 0 ≤ z by omega) hsb.2
      have hw : IntKind.i64.wrap (m * z) = m * z := wrap_small _ (by omega) (by omega)
      clear hmb
      by_cases hq : us[k].nm = nm
      · have HE : Hid (k = K) := Lib.hid (by
          rcases Nat.lt_or_ge k K with h' | h'
          · exact absurd hq (HP.out k hlt h')
          · omega)
        have HXR : Hid (x = m * z ∧ r = true) := Lib.hid (by have he := HE.out; subst he; obtain ⟨e1, e2⟩ := HR1.out hlt; exact ⟨e1.trans HST.out, e2⟩)
        have hss : (nm.toList == nm.toList) = true := by simp
        rw [hq] at p0
        clear hq
        go_wp2_with fail
        go_ret2
        exact ⟨ret_ib HXR.out.1.symm HXR.out.2.symm, HB1.out⟩
      · have HE : Hid (k + 1 ≤ K) := Lib.hid (by
          rcases Nat.lt_or_ge k K with h' | h'
          · exact h'
          · obtain rfl : k = K := by omega
            exact absurd (HX.out hlt) hq)
        have hss : (us[k].nm.toList == nm.toList) = false := neS hq
        generalize us[k].nm = nm2 at p0 hss
        clear hq
        go_wp2_with fail
        go_roundw
        case rel => exact ⟨k + 1, m * z, HE.out, by go_num, rfl, Lib.hid HST.out.symm, by first | trivial | rfl⟩
        case measure => simp [intOf]; omega
    · have HE := Lib.hid (HR2.out (by omega))
      go_wp2_with fail
      go_ret2
      exact ⟨ret_ib HE.out.1.symm HE.out.2.symm, HB1.out⟩
set_option maxRecDepth 100000 in
set_option maxHeartbeats 800000 in
theorem sUnits_any (v : Value) (us : List Un) (nm : ByteArray) (w : World) (h : RowsR 2 unC w v us) (hs : ∀ u ∈ us, u.nm.size ≤ maxLen) (x : Int) (r : Bool) (hk : UnF us nm x r) :
    Calls Tryd.prog 12 #[v, .string nm] w fun e w' => e = .returned (.tuple #[.int .i64 x, .bool r]) ∧ Below w.heap.size w w' := by
  rcases hk with ⟨ho, k, ⟨hk, h1, h2⟩, hx, hr⟩ | ⟨ho, hno, hx, hr⟩ | ⟨ho, rfl, rfl⟩
  · exact sUnits_scan v us nm w h hs ho k (Nat.le_of_lt hk) h2 (fun _ => h1) x r (fun _ => ⟨hx, hr⟩) (fun h => absurd hk h)
  · exact sUnits_scan v us nm w h hs ho us.length (Nat.le_refl _) (fun j hj _ => hno j hj) (fun h => absurd h (Nat.lt_irrefl _)) x r (fun h => absurd h (Nat.lt_irrefl _)) (fun _ => ⟨hx, hr⟩)
  · have HN := Lib.hid ho
    have HS := Lib.hid hs
    have HB0 : Hid (Below w.heap.size w w) := Lib.hid (Below.refl _ _)
    have HRu0 := Lib.hid (h)
    clear h hs ho
    go_enter Tryd.func12, Tryd.ntmps12
    go_wp2_with fail
    refine (l7System_any _ us _ HRu0.out HS.out false ⟨fun e => (by simp at e), fun e => absurd e HN.out⟩).mono ?_
    rintro e w1 ⟨rfl, hb⟩
    have HB1 : Hid (Below w.heap.size w w1) := Lib.hid (HB0.out.trans (hb.mono HB0.out.size))
    have HZ1 : Hid (w.heap.size ≤ w1.heap.size) := Lib.hid hb.size
    have HRu1 := Lib.hid (HRu0.out.below HB1.out (Nat.le_refl _))
    clear hb
    go_wp2_with fail
    go_ret2
    exact ⟨rfl, HB1.out⟩
end Go.Proofs.YtghdmiimanhjgaaDoor
