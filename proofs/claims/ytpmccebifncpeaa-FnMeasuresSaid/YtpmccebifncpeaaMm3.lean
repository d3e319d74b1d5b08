/- The model's functions on amounts. -/
import Derived.Test.YtpmccebifncpeaaMm2
import Derived.Test.YtpmccebifncpeaaIm1
import Derived.Deep.RegionHeld3
namespace Go.Proofs.Ytpmccebifncpeaa
set_option linter.unusedVariables false
open Go.RowKit

set_option maxRecDepth 100000 in
set_option maxHeartbeats 1600000 in
theorem sSys_any (v : Value) (us : List Un) (w : World) (h : RowsR 2 unC w v us) (hs : ∀ u ∈ us, u.nm.size ≤ maxLen) (r : Bool) (hr : r = true ↔ okS us) :
    Calls Try.prog 38 #[v] w fun e w' => e = .returned (.bool r) ∧ Below w.heap.size w w' := by
  have HR := Lib.hid hr
  have HB0 : Hid (Below w.heap.size w w) := Lib.hid (Below.refl _ _)
  have HRu0 := Lib.hid (h)
  have HS := Lib.hid hs
  clear h hs hr
  go_enter Try.func38, Try.ntmps38
  go_wp2_with fail
  refine (l7System_any _ us _ HRu0.out HS.out r HR.out).mono ?_
  rintro e w1 ⟨rfl, hb⟩
  have HB1 : Hid (Below w.heap.size w w1) := Lib.hid (HB0.out.trans (hb.mono HB0.out.size))
  have HZ1 : Hid (w.heap.size ≤ w1.heap.size) := Lib.hid hb.size
  have HRu1 := Lib.hid (HRu0.out.below HB1.out (Nat.le_refl _))
  clear hb
  go_wp2_with fail
  go_ret
  exact ⟨rfl, HB1.out⟩
set_option maxRecDepth 100000 in
set_option maxHeartbeats 1600000 in
theorem sProper_any (v : Value) (us : List Un) (n : Int) (w : World) (h : RowsR 2 unC w v us) (hs : ∀ u ∈ us, u.nm.size ≤ maxLen) (h1 : n ≤ 9223372036854775807) (qs : List Int) (r : Bool) (hk : TestF (okS us) us n qs r) :
    Calls Try.prog 24 #[v, .int .i64 n] w fun e w' => (∃ s1, e = .returned (.tuple #[.agg #[s1], .bool r]) ∧ OwA w.heap.size w'.heap.size w' s1 qs) ∧ Below w.heap.size w w' := by
  obtain ⟨a, cp, rfl⟩ := h.form
  have HS := Lib.hid hs
  rcases hk with ⟨ho, hp⟩ | ⟨ho, rfl, rfl⟩
  · have HO := Lib.hid ho
    have HP := Lib.hid hp
    have HB0 : Hid (Below w.heap.size w w) := Lib.hid (Below.refl _ _)
    have HRu0 := Lib.hid (h)
    clear h hs ho hp
    go_enter Try.func24, Try.ntmps24
    go_wp2_with fail
    have hb : Below w.heap.size w (w.alloc (.cells #[.slice none 0 0] 50)) := (Below.refl _ _).alloc (Nat.le_refl _) _
    have hk : (w.alloc (.cells #[.slice none 0 0] 50)).heap[w.heap.size]? = some (.cells #[.slice none 0 0] 50 (0, 0)) := alloc_at rfl
    have hz : (w.alloc (.cells #[.slice none 0 0] 50)).heap.size = w.heap.size + 1 := by simp
    generalize w.alloc (.cells #[.slice none 0 0] 50) = w1 at hb hk hz ⊢
    have HB1 : Hid (Below w.heap.size w w1) := Lib.hid (HB0.out.trans (hb.mono HB0.out.size))
    have HZ1 : Hid (w.heap.size ≤ w1.heap.size) := Lib.hid hb.size
    have HRu1 := Lib.hid (HRu0.out.below HB1.out (Nat.le_refl _))
    have HKz1 := Lib.hid hk
    replace HZ1 : Hid (w.heap.size < w1.heap.size) := Lib.hid (by omega)
    have HE1 := Lib.hid hz
    clear hb hk hz
    have hlz : w.heap.size < w1.heap.size := lt_of_block HKz1.out
    have ltz := lt_of_block HKz1.out
    obtain ⟨cz0, fz0⟩ := cell1 HKz1.out
    refine (l7System_any _ us _ HRu1.out HS.out true ⟨fun _ => HO.out, fun _ => rfl⟩).mono ?_
    rintro e w2 ⟨rfl, hb⟩
    have HB2 : Hid (Below w.heap.size w w2) := Lib.hid (HB1.out.trans (hb.mono HB1.out.size))
    have HZ2 : Hid (w1.heap.size ≤ w2.heap.size) := Lib.hid hb.size
    have HRu2 := Lib.hid (HRu0.out.below HB2.out (Nat.le_refl _))
    have HKz2 := Lib.hid ((hb.block _ (lt_of_block HKz1.out)).trans HKz1.out)
    clear hb
    clear cz0 fz0 ltz
    have ltz := lt_of_block HKz2.out
    obtain ⟨cz0, fz0⟩ := cell1 HKz2.out
    go_wp2_with fail
    refine (l7Proper_any _ us n _ HRu2.out HS.out HO.out h1 qs r HP.out).mono ?_
    rintro e w3 ⟨⟨s1, rfl, ho⟩, hb⟩
    have HB3 : Hid (Below w.heap.size w w3) := Lib.hid (HB2.out.trans (hb.mono HB2.out.size))
    have HZ3 : Hid (w2.heap.size ≤ w3.heap.size) := Lib.hid hb.size
    have HRu3 := Lib.hid (HRu0.out.below HB3.out (Nat.le_refl _))
    have HKz3 := Lib.hid ((hb.block _ (lt_of_block HKz2.out)).trans HKz2.out)
    clear hb
    obtain ⟨pv, kv, rfl⟩ := ho.form
    have HOv3 := Lib.hid (ho)
    clear ho
    clear cz0 fz0 ltz
    have ltz := lt_of_block HKz3.out
    obtain ⟨cz0, fz0⟩ := cell1 HKz3.out
    go_wp2_with fail
    have hkz := box1_set HKz3.out (.slice pv qs.length kv)
    have hm : Btw (w.heap.size) (w.heap.size + 1) w3 (w3.setCell ⟨w.heap.size, 0, none⟩ (.slice pv qs.length kv)) := (Btw.refl (w.heap.size) (w.heap.size + 1) w3).setCell (p := ⟨w.heap.size, 0, none⟩) (Nat.le_refl _) (Nat.lt_succ_self _) _
    have hlz2 := hlz
    generalize w3.setCell ⟨w.heap.size, 0, none⟩ (.slice pv qs.length kv) = w4 at hkz hm ⊢
    have HZ4 : Hid (w3.heap.size ≤ w4.heap.size) := Lib.hid hm.size
    have HB4 : Hid (Below w.heap.size w w4) := Lib.hid (HB3.out.trans (hm.below.mono (by have := HZ1.out; have := HZ2.out; have := HZ3.out; have := HB0.out.size; omega)))
    have HRu4 := Lib.hid (HRu0.out.below HB4.out (Nat.le_refl _))
    have HOv4 := Lib.hid (HOv3.out.btw hm (by have := HZ1.out; have := HZ2.out; have := HZ3.out; omega))
    clear hm
    have HKz4 := Lib.hid (hkz)
    clear hkz
    have hb : Below w4.heap.size w4 (w4.alloc (.cells #[.slice pv qs.length kv] 50)) := (Below.refl _ _).alloc (Nat.le_refl _) _
    have hk : (w4.alloc (.cells #[.slice pv qs.length kv] 50)).heap[w4.heap.size]? = some (.cells #[.slice pv qs.length kv] 50 (0, 0)) := alloc_at rfl
    have hz : (w4.alloc (.cells #[.slice pv qs.length kv] 50)).heap.size = w4.heap.size + 1 := by simp
    generalize w4.alloc (.cells #[.slice pv qs.length kv] 50) = w5 at hb hk hz ⊢
    have HB5 : Hid (Below w.heap.size w w5) := Lib.hid (HB4.out.trans (hb.mono HB4.out.size))
    have HZ5 : Hid (w4.heap.size ≤ w5.heap.size) := Lib.hid hb.size
    have HRu5 := Lib.hid (HRu0.out.below HB5.out (Nat.le_refl _))
    have HOv5 := Lib.hid (HOv4.out.next hb)
    have HKz5 := Lib.hid ((hb.block _ (lt_of_block HKz4.out)).trans HKz4.out)
    have HKo5 := Lib.hid hk
    replace HZ5 : Hid (w4.heap.size < w5.heap.size) := Lib.hid (by omega)
    have HE5 := Lib.hid hz
    clear hb hk hz
    clear cz0 fz0 ltz
    have ltz := lt_of_block HKz5.out
    obtain ⟨cz0, fz0⟩ := cell1 HKz5.out
    have lto := lt_of_block HKo5.out
    obtain ⟨co0, fo0⟩ := cell1 HKo5.out
    exact bodyPost_ret (v := .tuple #[.agg #[.slice pv qs.length kv], .bool r]) (by simp [results, Try.results24, go_sem, cz0]) rfl ⟨⟨_, rfl, OwA.mono HOv5.out (by have := HZ1.out; have := HZ2.out; have := HZ3.out; have := HZ4.out; have := HZ5.out;  omega) (by have := HZ1.out; have := HZ2.out; have := HZ3.out; have := HZ4.out; have := HZ5.out;  omega)⟩, HB5.out⟩
  · have HN := Lib.hid ho
    have HB0 : Hid (Below w.heap.size w w) := Lib.hid (Below.refl _ _)
    have HRu0 := Lib.hid (h)
    clear h hs ho
    go_enter Try.func24, Try.ntmps24
    go_wp2_with fail
    have hb : Below w.heap.size w (w.alloc (.cells #[.slice none 0 0] 50)) := (Below.refl _ _).alloc (Nat.le_refl _) _
    have hk : (w.alloc (.cells #[.slice none 0 0] 50)).heap[w.heap.size]? = some (.cells #[.slice none 0 0] 50 (0, 0)) := alloc_at rfl
    have hz : (w.alloc (.cells #[.slice none 0 0] 50)).heap.size = w.heap.size + 1 := by simp
    generalize w.alloc (.cells #[.slice none 0 0] 50) = w1 at hb hk hz ⊢
    have HB1 : Hid (Below w.heap.size w w1) := Lib.hid (HB0.out.trans (hb.mono HB0.out.size))
    have HZ1 : Hid (w.heap.size ≤ w1.heap.size) := Lib.hid hb.size
    have HRu1 := Lib.hid (HRu0.out.below HB1.out (Nat.le_refl _))
    have HKz1 := Lib.hid hk
    replace HZ1 : Hid (w.heap.size < w1.heap.size) := Lib.hid (by omega)
    have HE1 := Lib.hid hz
    clear hb hk hz
    have ltz := lt_of_block HKz1.out
    obtain ⟨cz0, fz0⟩ := cell1 HKz1.out
    refine (l7System_any _ us _ HRu1.out HS.out false ⟨fun e => (by simp at e), fun e => absurd e HN.out⟩).mono ?_
    rintro e w2 ⟨rfl, hb⟩
    have HB2 : Hid (Below w.heap.size w w2) := Lib.hid (HB1.out.trans (hb.mono HB1.out.size))
    have HZ2 : Hid (w1.heap.size ≤ w2.heap.size) := Lib.hid hb.size
    have HRu2 := Lib.hid (HRu0.out.below HB2.out (Nat.le_refl _))
    have HKz2 := Lib.hid ((hb.block _ (lt_of_block HKz1.out)).trans HKz1.out)
    clear hb
    clear cz0 fz0 ltz
    have ltz := lt_of_block HKz2.out
    obtain ⟨cz0, fz0⟩ := cell1 HKz2.out
    go_wp2_with fail
    exact bodyPost_ret (v := .tuple #[.agg #[.slice none 0 0], .bool false]) (by simp [results, Try.results24, go_sem, cz0]) rfl ⟨⟨_, rfl, OwA.nil _ _ _⟩, by first | exact HB2.out | exact HB2.out.setCell (p := ⟨w.heap.size, 0, none⟩) (by show w.heap.size ≤ w.heap.size; omega) _⟩
set_option maxRecDepth 100000 in
set_option maxHeartbeats 3200000 in
theorem sSumOf_any (v sx sy : Value) (us : List Un) (xs ys : List Int) (w : World) (h : RowsR 2 unC w v us) (hs : ∀ u ∈ us, u.nm.size ≤ maxLen) (hx : RowsR 1 inC w sx xs) (hy : RowsR 1 inC w sy ys) (qs : List Int) (r : Bool) (hk : TestF (okAm us xs ∧ okAm us ys) us (valA us xs + valA us ys) qs r) :
    Calls Try.prog 30 #[v, .agg #[sx], .agg #[sy]] w fun e w' => (∃ s1, e = .returned (.tuple #[.agg #[s1], .bool r]) ∧ OwA w.heap.size w'.heap.size w' s1 qs) ∧ Below w.heap.size w w' := by
  obtain ⟨a, cp, rfl⟩ := h.form
  have HS := Lib.hid hs
  obtain ⟨a1, c1, rfl⟩ := hx.form
  obtain ⟨a2, c2, rfl⟩ := hy.form
  rcases hk with ⟨ho, hp⟩ | ⟨ho, rfl, rfl⟩
  · have HO := Lib.hid ho
    have HP := Lib.hid hp
    have hvx := valA_lt ho.1
    have hvy := valA_lt ho.2
    have hw : IntKind.i64.wrap (valA us xs + valA us ys) = valA us xs + valA us ys := wrap_small _ (by omega) (by omega)
    have HB0 : Hid (Below w.heap.size w w) := Lib.hid (Below.refl _ _)
    have HRu0 := Lib.hid (h)
    have HRx0 := Lib.hid (hx)
    have HRy0 := Lib.hid (hy)
    clear h hs hx hy ho hp
    go_enter Try.func30, Try.ntmps30
    go_wp2_with fail
    have hb : Below w.heap.size w (w.alloc (.cells #[.slice a1 xs.length c1] 50)) := (Below.refl _ _).alloc (Nat.le_refl _) _
    have hk : (w.alloc (.cells #[.slice a1 xs.length c1] 50)).heap[w.heap.size]? = some (.cells #[.slice a1 xs.length c1] 50 (0, 0)) := alloc_at rfl
    have hz : (w.alloc (.cells #[.slice a1 xs.length c1] 50)).heap.size = w.heap.size + 1 := by simp
    generalize w.alloc (.cells #[.slice a1 xs.length c1] 50) = w1 at hb hk hz ⊢
    have HB1 : Hid (Below w.heap.size w w1) := Lib.hid (HB0.out.trans (hb.mono HB0.out.size))
    have HZ1 : Hid (w.heap.size ≤ w1.heap.size) := Lib.hid hb.size
    have HRu1 := Lib.hid (HRu0.out.below HB1.out (Nat.le_refl _))
    have HRx1 := Lib.hid (HRx0.out.below HB1.out (Nat.le_refl _))
    have HRy1 := Lib.hid (HRy0.out.below HB1.out (Nat.le_refl _))
    have HKx1 := Lib.hid hk
    replace HZ1 : Hid (w.heap.size < w1.heap.size) := Lib.hid (by omega)
    have HE1 := Lib.hid hz
    clear hb hk hz
    have hb : Below w1.heap.size w1 (w1.alloc (.cells #[.slice a2 ys.length c2] 50)) := (Below.refl _ _).alloc (Nat.le_refl _) _
    have hk : (w1.alloc (.cells #[.slice a2 ys.length c2] 50)).heap[w.heap.size + 1]? = some (.cells #[.slice a2 ys.length c2] 50 (0, 0)) := alloc_at (by have := HE1.out; omega)
    have hz : (w1.alloc (.cells #[.slice a2 ys.length c2] 50)).heap.size = w1.heap.size + 1 := by simp
    generalize w1.alloc (.cells #[.slice a2 ys.length c2] 50) = w2 at hb hk hz ⊢
    have HB2 : Hid (Below w.heap.size w w2) := Lib.hid (HB1.out.trans (hb.mono HB1.out.size))
    have HZ2 : Hid (w1.heap.size ≤ w2.heap.size) := Lib.hid hb.size
    have HRu2 := Lib.hid (HRu0.out.below HB2.out (Nat.le_refl _))
    have HRx2 := Lib.hid (HRx0.out.below HB2.out (Nat.le_refl _))
    have HRy2 := Lib.hid (HRy0.out.below HB2.out (Nat.le_refl _))
    have HKx2 := Lib.hid ((hb.block _ (lt_of_block HKx1.out)).trans HKx1.out)
    have HKy2 := Lib.hid hk
    replace HZ2 : Hid (w1.heap.size < w2.heap.size) := Lib.hid (by omega)
    have HE2 := Lib.hid hz
    clear hb hk hz
    have hb : Below w2.heap.size w2 (w2.alloc (.cells #[.slice none 0 0] 50)) := (Below.refl _ _).alloc (Nat.le_refl _) _
    have hk : (w2.alloc (.cells #[.slice none 0 0] 50)).heap[w.heap.size + 2]? = some (.cells #[.slice none 0 0] 50 (0, 0)) := alloc_at (by have := HE1.out; have := HE2.out; omega)
    have hz : (w2.alloc (.cells #[.slice none 0 0] 50)).heap.size = w2.heap.size + 1 := by simp
    generalize w2.alloc (.cells #[.slice none 0 0] 50) = w3 at hb hk hz ⊢
    have HB3 : Hid (Below w.heap.size w w3) := Lib.hid (HB2.out.trans (hb.mono HB2.out.size))
    have HZ3 : Hid (w2.heap.size ≤ w3.heap.size) := Lib.hid hb.size
    have HRu3 := Lib.hid (HRu0.out.below HB3.out (Nat.le_refl _))
    have HRx3 := Lib.hid (HRx0.out.below HB3.out (Nat.le_refl _))
    have HRy3 := Lib.hid (HRy0.out.below HB3.out (Nat.le_refl _))
    have HKx3 := Lib.hid ((hb.block _ (lt_of_block HKx2.out)).trans HKx2.out)
    have HKy3 := Lib.hid ((hb.block _ (lt_of_block HKy2.out)).trans HKy2.out)
    have HKz3 := Lib.hid hk
    replace HZ3 : Hid (w2.heap.size < w3.heap.size) := Lib.hid (by omega)
    have HE3 := Lib.hid hz
    clear hb hk hz
    have hlz : w.heap.size + 2 < w3.heap.size := lt_of_block HKz3.out
    have ltx := lt_of_block HKx3.out
    obtain ⟨cx0, fx0⟩ := cell1 HKx3.out
    have lty := lt_of_block HKy3.out
    obtain ⟨cy0, fy0⟩ := cell1 HKy3.out
    have ltz := lt_of_block HKz3.out
    obtain ⟨cz0, fz0⟩ := cell1 HKz3.out
    refine (l7Amount_any _ _ us xs _ HRu3.out HS.out HRx3.out true ⟨fun _ => HO.out.1, fun _ => rfl⟩).mono ?_
    rintro e w4 ⟨rfl, hb⟩
    have HB4 : Hid (Below w.heap.size w w4) := Lib.hid (HB3.out.trans (hb.mono HB3.out.size))
    have HZ4 : Hid (w3.heap.size ≤ w4.heap.size) := Lib.hid hb.size
    have HRu4 := Lib.hid (HRu0.out.below HB4.out (Nat.le_refl _))
    have HRx4 := Lib.hid (HRx0.out.below HB4.out (Nat.le_refl _))
    have HRy4 := Lib.hid (HRy0.out.below HB4.out (Nat.le_refl _))
    have HKx4 := Lib.hid ((hb.block _ (lt_of_block HKx3.out)).trans HKx3.out)
    have HKy4 := Lib.hid ((hb.block _ (lt_of_block HKy3.out)).trans HKy3.out)
    have HKz4 := Lib.hid ((hb.block _ (lt_of_block HKz3.out)).trans HKz3.out)
    clear hb
    clear cx0 fx0 ltx cy0 fy0 lty cz0 fz0 ltz
    have ltx := lt_of_block HKx4.out
    obtain ⟨cx0, fx0⟩ := cell1 HKx4.out
    have lty := lt_of_block HKy4.out
    obtain ⟨cy0, fy0⟩ := cell1 HKy4.out
    have ltz := lt_of_block HKz4.out
    obtain ⟨cz0, fz0⟩ := cell1 HKz4.out
    go_wp2_with fail
    refine (l7Amount_any _ _ us ys _ HRu4.out HS.out HRy4.out true ⟨fun _ => HO.out.2, fun _ => rfl⟩).mono ?_
    rintro e w5 ⟨rfl, hb⟩
    have HB5 : Hid (Below w.heap.size w w5) := Lib.hid (HB4.out.trans (hb.mono HB4.out.size))
    have HZ5 : Hid (w4.heap.size ≤ w5.heap.size) := Lib.hid hb.size
    have HRu5 := Lib.hid (HRu0.out.below HB5.out (Nat.le_refl _))
    have HRx5 := Lib.hid (HRx0.out.below HB5.out (Nat.le_refl _))
    have HRy5 := Lib.hid (HRy0.out.below HB5.out (Nat.le_refl _))
    have HKx5 := Lib.hid ((hb.block _ (lt_of_block HKx4.out)).trans HKx4.out)
    have HKy5 := Lib.hid ((hb.block _ (lt_of_block HKy4.out)).trans HKy4.out)
    have HKz5 := Lib.hid ((hb.block _ (lt_of_block HKz4.out)).trans HKz4.out)
    clear hb
    clear cx0 fx0 ltx cy0 fy0 lty cz0 fz0 ltz
    have ltx := lt_of_block HKx5.out
    obtain ⟨cx0, fx0⟩ := cell1 HKx5.out
    have lty := lt_of_block HKy5.out
    obtain ⟨cy0, fy0⟩ := cell1 HKy5.out
    have ltz := lt_of_block HKz5.out
    obtain ⟨cz0, fz0⟩ := cell1 HKz5.out
    go_wp2_with fail
    refine wp_region_held_drew (S := (fun w' => w'.cell? ⟨w.heap.size, 0, none⟩ = some (.slice a1 xs.length c1) ∧ w'.cell? ⟨w.heap.size + 1, 0, none⟩ = some (.slice a2 ys.length c2))) (by kernel_rfl) (⟨cx0, cy0⟩) (fun hHeld => ?_)
    have hb : Below w5.heap.size w5 w5.drew := (Below.refl _ _).drew
    generalize w5.drew = w6 at hb hHeld ⊢
    have HB6 : Hid (Below w.heap.size w w6) := Lib.hid (HB5.out.trans (hb.mono HB5.out.size))
    have HZ6 : Hid (w5.heap.size ≤ w6.heap.size) := Lib.hid hb.size
    have HRu6 := Lib.hid (HRu0.out.below HB6.out (Nat.le_refl _))
    have HRx6 := Lib.hid (HRx0.out.below HB6.out (Nat.le_refl _))
    have HRy6 := Lib.hid (HRy0.out.below HB6.out (Nat.le_refl _))
    have HKx6 := Lib.hid ((hb.block _ (lt_of_block HKx5.out)).trans HKx5.out)
    have HKy6 := Lib.hid ((hb.block _ (lt_of_block HKy5.out)).trans HKy5.out)
    have HKz6 := Lib.hid ((hb.block _ (lt_of_block HKz5.out)).trans HKz5.out)
    clear hb
    clear cx0 fx0 ltx cy0 fy0 lty cz0 fz0 ltz
    have ltx := lt_of_block HKx6.out
    obtain ⟨cx0, fx0⟩ := cell1 HKx6.out
    have lty := lt_of_block HKy6.out
    obtain ⟨cy0, fy0⟩ := cell1 HKy6.out
    have ltz := lt_of_block HKz6.out
    obtain ⟨cz0, fz0⟩ := cell1 HKz6.out
    refine take1 (i := 0) (v := ?v1) (some 22) rfl rfl (by kernel_rfl) (by kernel_rfl) (by kernel_rfl) (fun _ _ _ h => h) (Or.inl ⟨by rfl, ?y1⟩) (by assumption) ?r1
    case y1 => (intro w hSw; (try dsimp only at hSw); go_simp; (first | done | with_reducible rfl))
    try simp only [Act.put, List.setIfInBounds_toArray, List.set_cons_zero, List.set_cons_succ]
    refine take1 (i := 1) (v := ?v2) (some 23) rfl rfl (by kernel_rfl) (by kernel_rfl) (by kernel_rfl) (fun _ _ _ h => h) (Or.inl ⟨by rfl, ?y2⟩) (by assumption) ?r2
    case y2 => (intro w hSw; (try dsimp only at hSw); go_simp; (first | done | with_reducible rfl))
    try simp only [Act.put, List.setIfInBounds_toArray, List.set_cons_zero, List.set_cons_succ]
    refine take1 (i := 2) (v := ?v3) (some 24) rfl rfl (by kernel_rfl) (by kernel_rfl) (by kernel_rfl) (fun _ _ _ h => h) (Or.inl ⟨by rfl, ?y3⟩) (by assumption) ?r3
    case y3 => (intro w hSw; (try dsimp only at hSw); go_simp; (first | done | with_reducible rfl))
    try simp only [Act.put, List.setIfInBounds_toArray, List.set_cons_zero, List.set_cons_succ]
    refine take1 (i := 4) (v := ?v4) (some 26) rfl rfl (by kernel_rfl) (by kernel_rfl) (by kernel_rfl) (fun _ _ _ h => h) (Or.inl ⟨by rfl, ?y4⟩) (by assumption) ?r4
    case y4 => (intro w hSw; (try dsimp only at hSw); go_simp; (first | done | with_reducible rfl))
    try simp only [Act.put, List.setIfInBounds_toArray, List.set_cons_zero, List.set_cons_succ]
    refine take1 (i := 5) (v := ?v5) (some 27) rfl rfl (by kernel_rfl) (by kernel_rfl) (by kernel_rfl) (fun _ _ _ h => h) (Or.inl ⟨by rfl, ?y5⟩) (by assumption) ?r5
    case y5 => (intro w hSw; (try dsimp only at hSw); go_simp; (first | done | with_reducible rfl))
    try simp only [Act.put, List.setIfInBounds_toArray, List.set_cons_zero, List.set_cons_succ]
    refine wpAnyH_ready (rs := [3, 12]) (by kernel_rfl) (by simp) ?_
    refine AllReadyH.cons rfl (fun K hK => ?_) (AllReadyH.cons rfl (fun K hK => ?_) AllReadyH.nil)
    · go_simp
      go_at_call 63
      refine (l7Value_any _ _ us xs _ HRu6.out HRx6.out HO.out.1).mono ?_
      rintro e w7 ⟨rfl, hb⟩
      have HB7 : Hid (Below w.heap.size w w7) := Lib.hid (HB6.out.trans (hb.mono HB6.out.size))
      have HZ7 : Hid (w6.heap.size ≤ w7.heap.size) := Lib.hid hb.size
      have HRu7 := Lib.hid (HRu0.out.below HB7.out (Nat.le_refl _))
      have HRx7 := Lib.hid (HRx0.out.below HB7.out (Nat.le_refl _))
      have HRy7 := Lib.hid (HRy0.out.below HB7.out (Nat.le_refl _))
      have HKx7 := Lib.hid ((hb.block _ (lt_of_block HKx6.out)).trans HKx6.out)
      have HKy7 := Lib.hid ((hb.block _ (lt_of_block HKy6.out)).trans HKy6.out)
      have HKz7 := Lib.hid ((hb.block _ (lt_of_block HKz6.out)).trans HKz6.out)
      clear hb
      clear cx0 fx0 ltx cy0 fy0 lty cz0 fz0 ltz
      have ltx := lt_of_block HKx7.out
      obtain ⟨cx0, fx0⟩ := cell1 HKx7.out
      have lty := lt_of_block HKy7.out
      obtain ⟨cy0, fy0⟩ := cell1 HKy7.out
      have ltz := lt_of_block HKz7.out
      obtain ⟨cz0, fz0⟩ := cell1 HKz7.out
      try go_simp
      refine hK.out _ _ (⟨cx0, cy0⟩) (fun hHeld => ?_)
      clear hK K
      try simp only [Act.put, List.setIfInBounds_toArray, List.set_cons_zero, List.set_cons_succ]
      refine wpAnyH_ready (rs := [6, 12]) (by kernel_rfl) (by simp) ?_
      refine AllReadyH.cons rfl (fun K hK => ?_) (AllReadyH.cons rfl (fun K hK => ?_) AllReadyH.nil)
      · go_simp
        go_at_call 63
        refine (l7Value_any _ _ us ys _ HRu7.out HRy7.out HO.out.2).mono ?_
        rintro e w8 ⟨rfl, hb⟩
        have HB8 : Hid (Below w.heap.size w w8) := Lib.hid (HB7.out.trans (hb.mono HB7.out.size))
        have HZ8 : Hid (w7.heap.size ≤ w8.heap.size) := Lib.hid hb.size
        have HRu8 := Lib.hid (HRu0.out.below HB8.out (Nat.le_refl _))
        have HRx8 := Lib.hid (HRx0.out.below HB8.out (Nat.le_refl _))
        have HRy8 := Lib.hid (HRy0.out.below HB8.out (Nat.le_refl _))
        have HKx8 := Lib.hid ((hb.block _ (lt_of_block HKx7.out)).trans HKx7.out)
        have HKy8 := Lib.hid ((hb.block _ (lt_of_block HKy7.out)).trans HKy7.out)
        have HKz8 := Lib.hid ((hb.block _ (lt_of_block HKz7.out)).trans HKz7.out)
        clear hb
        clear cx0 fx0 ltx cy0 fy0 lty cz0 fz0 ltz
        have ltx := lt_of_block HKx8.out
        obtain ⟨cx0, fx0⟩ := cell1 HKx8.out
        have lty := lt_of_block HKy8.out
        obtain ⟨cy0, fy0⟩ := cell1 HKy8.out
        have ltz := lt_of_block HKz8.out
        obtain ⟨cz0, fz0⟩ := cell1 HKz8.out
        try go_simp
        refine hK.out _ _ (⟨cx0, cy0⟩) (fun hHeld => ?_)
        clear hK K
        try simp only [Act.put, List.setIfInBounds_toArray, List.set_cons_zero, List.set_cons_succ]
        refine take1 (i := 7) (v := ?v6) (some 29) rfl rfl (by kernel_rfl) (by kernel_rfl) (by kernel_rfl) (fun _ _ _ h => h) (Or.inl ⟨by rfl, ?y6⟩) (by assumption) ?r6
        case y6 => (intro w hSw; (try dsimp only at hSw); go_simp; (first | done | with_reducible rfl))
        try simp only [Act.put, List.setIfInBounds_toArray, List.set_cons_zero, List.set_cons_succ]
        refine wpAnyH_ready (rs := [8, 12]) (by kernel_rfl) (by simp) ?_
        refine AllReadyH.cons rfl (fun K hK => ?_) (AllReadyH.cons rfl (fun K hK => ?_) AllReadyH.nil)
        · go_simp
          go_at_call 58
          refine (l7Proper_any _ us (valA us xs + valA us ys) _ HRu8.out HS.out HO.out.1.1 (by omega) qs r HP.out).mono ?_
          rintro e w9 ⟨⟨s1, rfl, ho⟩, hb⟩
          have HB9 : Hid (Below w.heap.size w w9) := Lib.hid (HB8.out.trans (hb.mono HB8.out.size))
          have HZ9 : Hid (w8.heap.size ≤ w9.heap.size) := Lib.hid hb.size
          have HRu9 := Lib.hid (HRu0.out.below HB9.out (Nat.le_refl _))
          have HRx9 := Lib.hid (HRx0.out.below HB9.out (Nat.le_refl _))
          have HRy9 := Lib.hid (HRy0.out.below HB9.out (Nat.le_refl _))
          have HKx9 := Lib.hid ((hb.block _ (lt_of_block HKx8.out)).trans HKx8.out)
          have HKy9 := Lib.hid ((hb.block _ (lt_of_block HKy8.out)).trans HKy8.out)
          have HKz9 := Lib.hid ((hb.block _ (lt_of_block HKz8.out)).trans HKz8.out)
          clear hb
          obtain ⟨pv, kv, rfl⟩ := ho.form
          have HOv9 := Lib.hid (ho)
          clear ho
          clear cx0 fx0 ltx cy0 fy0 lty cz0 fz0 ltz
          have ltx := lt_of_block HKx9.out
          obtain ⟨cx0, fx0⟩ := cell1 HKx9.out
          have lty := lt_of_block HKy9.out
          obtain ⟨cy0, fy0⟩ := cell1 HKy9.out
          have ltz := lt_of_block HKz9.out
          obtain ⟨cz0, fz0⟩ := cell1 HKz9.out
          try go_simp
          refine hK.out _ _ (⟨cx0, cy0⟩) (fun hHeld => ?_)
          clear hK K
          try simp only [Act.put, List.setIfInBounds_toArray, List.set_cons_zero, List.set_cons_succ]
          refine take1 (i := 9) (v := ?v7) (some 21) rfl rfl (by kernel_rfl) (by kernel_rfl) (by kernel_rfl) (fun _ _ _ h => h) (Or.inl ⟨by rfl, ?y7⟩) (by assumption) ?r7
          case y7 => (intro w hSw; (try dsimp only at hSw); go_simp; (first | done | with_reducible rfl))
          try simp only [Act.put, List.setIfInBounds_toArray, List.set_cons_zero, List.set_cons_succ]
          refine take1 (i := 10) (v := ?v8) (some 31) rfl rfl (by kernel_rfl) (by kernel_rfl) (by kernel_rfl) (fun _ _ _ h => h) (Or.inl ⟨by rfl, ?y8⟩) (by assumption) ?r8
          case y8 => (intro w hSw; (try dsimp only at hSw); go_simp; (first | done | with_reducible rfl))
          try simp only [Act.put, List.setIfInBounds_toArray, List.set_cons_zero, List.set_cons_succ]
          refine take1 (i := 11) (v := ?v9) (some 32) rfl rfl (by kernel_rfl) (by kernel_rfl) (by kernel_rfl) (fun _ _ _ h => h) (Or.inl ⟨by rfl, ?y9⟩) (by assumption) ?r9
          case y9 => (intro w hSw; (try dsimp only at hSw); go_simp; (first | done | with_reducible rfl))
          try simp only [Act.put, List.setIfInBounds_toArray, List.set_cons_zero, List.set_cons_succ]
          refine wpAnyH_ready (rs := [12]) (by kernel_rfl) (by simp) ?_
          refine AllReadyH.cons rfl (fun K hK => ?_) AllReadyH.nil
          go_simp
          have hb : Below w9.heap.size w9 (w9.alloc (.cells #[.slice none 0 0] 50)) := (Below.refl _ _).alloc (Nat.le_refl _) _
          have hk : (w9.alloc (.cells #[.slice none 0 0] 50)).heap[w9.heap.size]? = some (.cells #[.slice none 0 0] 50 (0, 0)) := alloc_at rfl
          have hz : (w9.alloc (.cells #[.slice none 0 0] 50)).heap.size = w9.heap.size + 1 := by simp
          generalize w9.alloc (.cells #[.slice none 0 0] 50) = w10 at hb hk hz ⊢
          have HB10 : Hid (Below w.heap.size w w10) := Lib.hid (HB9.out.trans (hb.mono HB9.out.size))
          have HZ10 : Hid (w9.heap.size ≤ w10.heap.size) := Lib.hid hb.size
          have HRu10 := Lib.hid (HRu0.out.below HB10.out (Nat.le_refl _))
          have HRx10 := Lib.hid (HRx0.out.below HB10.out (Nat.le_refl _))
          have HRy10 := Lib.hid (HRy0.out.below HB10.out (Nat.le_refl _))
          have HKx10 := Lib.hid ((hb.block _ (lt_of_block HKx9.out)).trans HKx9.out)
          have HKy10 := Lib.hid ((hb.block _ (lt_of_block HKy9.out)).trans HKy9.out)
          have HKz10 := Lib.hid ((hb.block _ (lt_of_block HKz9.out)).trans HKz9.out)
          have HOv10 := Lib.hid (HOv9.out.next hb)
          have HKo10 := Lib.hid hk
          replace HZ10 : Hid (w9.heap.size < w10.heap.size) := Lib.hid (by omega)
          have HE10 := Lib.hid hz
          clear hb hk hz
          clear cx0 fx0 ltx cy0 fy0 lty cz0 fz0 ltz
          have ltx := lt_of_block HKx10.out
          obtain ⟨cx0, fx0⟩ := cell1 HKx10.out
          have lty := lt_of_block HKy10.out
          obtain ⟨cy0, fy0⟩ := cell1 HKy10.out
          have ltz := lt_of_block HKz10.out
          obtain ⟨cz0, fz0⟩ := cell1 HKz10.out
          have lto := lt_of_block HKo10.out
          obtain ⟨co0, fo0⟩ := cell1 HKo10.out
          refine hK.out _ _ (⟨cx0, cy0⟩) (fun hHeld => ?_)
          clear hK K
          try simp only [Act.put, List.setIfInBounds_toArray, List.set_cons_zero, List.set_cons_succ]
          refine wpAnyH_ready (rs := [13]) (by kernel_rfl) (by simp) ?_
          refine AllReadyH.cons rfl (fun K hK => ?_) AllReadyH.nil
          go_simp
          have hko := box1_set HKo10.out (.slice pv qs.length kv)
          have hm : Btw w9.heap.size (w9.heap.size + 1) w10 (w10.setCell ⟨w9.heap.size, 0, none⟩ (.slice pv qs.length kv)) := (Btw.refl w9.heap.size (w9.heap.size + 1) w10).setCell (p := ⟨w9.heap.size, 0, none⟩) (Nat.le_refl _) (Nat.lt_succ_self _) _
          generalize w10.setCell ⟨w9.heap.size, 0, none⟩ (.slice pv qs.length kv) = w11 at hko hm ⊢
          have HZ11 : Hid (w10.heap.size ≤ w11.heap.size) := Lib.hid hm.size
          have HB11 : Hid (Below w.heap.size w w11) := Lib.hid (HB10.out.trans (hm.below.mono (by have := HZ1.out; have := HZ2.out; have := HZ3.out; have := HZ4.out; have := HZ5.out; have := HZ6.out; have := HZ7.out; have := HZ8.out; have := HZ9.out; have := HZ10.out; have := HB0.out.size; omega)))
          have HRu11 := Lib.hid (HRu0.out.below HB11.out (Nat.le_refl _))
          have HRx11 := Lib.hid (HRx0.out.below HB11.out (Nat.le_refl _))
          have HRy11 := Lib.hid (HRy0.out.below HB11.out (Nat.le_refl _))
          have HKx11 := Lib.hid ((hm.block _ (by have := lt_of_block HKx10.out; have := HZ1.out; have := HZ2.out; have := HZ3.out; have := HZ4.out; have := HZ5.out; have := HZ6.out; have := HZ7.out; have := HZ8.out; have := HZ9.out; have := HZ10.out; omega)).trans HKx10.out)
          have HKy11 := Lib.hid ((hm.block _ (by have := lt_of_block HKy10.out; have := HZ1.out; have := HZ2.out; have := HZ3.out; have := HZ4.out; have := HZ5.out; have := HZ6.out; have := HZ7.out; have := HZ8.out; have := HZ9.out; have := HZ10.out; omega)).trans HKy10.out)
          have HKz11 := Lib.hid ((hm.block _ (by have := lt_of_block HKz10.out; have := HZ1.out; have := HZ2.out; have := HZ3.out; have := HZ4.out; have := HZ5.out; have := HZ6.out; have := HZ7.out; have := HZ8.out; have := HZ9.out; have := HZ10.out; omega)).trans HKz10.out)
          have HOv11 := Lib.hid (HOv10.out.btw hm (by have := HZ1.out; have := HZ2.out; have := HZ3.out; have := HZ4.out; have := HZ5.out; have := HZ6.out; have := HZ7.out; have := HZ8.out; have := HZ9.out; have := HZ10.out; omega))
          clear hm
          have HKo11 := Lib.hid (hko)
          clear hko
          clear cx0 fx0 ltx cy0 fy0 lty cz0 fz0 ltz co0 fo0 lto
          have ltx := lt_of_block HKx11.out
          obtain ⟨cx0, fx0⟩ := cell1 HKx11.out
          have lty := lt_of_block HKy11.out
          obtain ⟨cy0, fy0⟩ := cell1 HKy11.out
          have ltz := lt_of_block HKz11.out
          obtain ⟨cz0, fz0⟩ := cell1 HKz11.out
          have lto := lt_of_block HKo11.out
          obtain ⟨co0, fo0⟩ := cell1 HKo11.out
          refine hK.out _ _ (⟨cx0, cy0⟩) (fun hHeld => ?_)
          clear hK K
          try simp only [Act.put]
          refine take1 (i := 14) (v := ?v10) (some 9) rfl rfl (by kernel_rfl) (by kernel_rfl) (by kernel_rfl) (fun _ _ _ h => h) (Or.inl ⟨by rfl, ?y10⟩) (by assumption) ?r10
          case y10 => (intro w hSw; (try dsimp only at hSw); go_simp; (first | done | with_reducible rfl))
          try simp only [Act.put, List.setIfInBounds_toArray, List.set_cons_zero, List.set_cons_succ]
          refine wpAnyH_done (by kernel_rfl) ?_ _
          go_wp2_with fail
          exact bodyPost_ret (v := .tuple #[.agg #[.slice pv qs.length kv], .bool r]) (by simp [results, Try.results30, go_sem, cz0]) rfl ⟨⟨_, rfl, (OwA.set HOv11.out (a := ⟨w.heap.size + 2, 0, none⟩) (by show w.heap.size + 2 < _; have := hlz; have := HZ1.out; have := HZ2.out; have := HZ3.out; have := HZ4.out; have := HZ5.out; have := HZ6.out; have := HZ7.out; have := HZ8.out; have := HZ9.out; have := HZ10.out; have := HZ11.out;  omega) _).mono (by have := HZ1.out; have := HZ2.out; have := HZ3.out; have := HZ4.out; have := HZ5.out; have := HZ6.out; have := HZ7.out; have := HZ8.out; have := HZ9.out; have := HZ10.out; have := HZ11.out;  omega) (by simp [World.setCell] <;> (have := HZ1.out; have := HZ2.out; have := HZ3.out; have := HZ4.out; have := HZ5.out; have := HZ6.out; have := HZ7.out; have := HZ8.out; have := HZ9.out; have := HZ10.out; have := HZ11.out;  omega))⟩, HB11.out.setCell (p := ⟨w.heap.size + 2, 0, none⟩) (by show w.heap.size ≤ w.heap.size + 2; omega) _⟩
        · go_simp
          have hb : Below w8.heap.size w8 (w8.alloc (.cells #[.slice none 0 0] 50)) := (Below.refl _ _).alloc (Nat.le_refl _) _
          have hk : (w8.alloc (.cells #[.slice none 0 0] 50)).heap[w8.heap.size]? = some (.cells #[.slice none 0 0] 50 (0, 0)) := alloc_at rfl
          have hz : (w8.alloc (.cells #[.slice none 0 0] 50)).heap.size = w8.heap.size + 1 := by simp
          generalize w8.alloc (.cells #[.slice none 0 0] 50) = w9 at hb hk hz ⊢
          have HB9 : Hid (Below w.heap.size w w9) := Lib.hid (HB8.out.trans (hb.mono HB8.out.size))
          have HZ9 : Hid (w8.heap.size ≤ w9.heap.size) := Lib.hid hb.size
          have HRu9 := Lib.hid (HRu0.out.below HB9.out (Nat.le_refl _))
          have HRx9 := Lib.hid (HRx0.out.below HB9.out (Nat.le_refl _))
          have HRy9 := Lib.hid (HRy0.out.below HB9.out (Nat.le_refl _))
          have HKx9 := Lib.hid ((hb.block _ (lt_of_block HKx8.out)).trans HKx8.out)
          have HKy9 := Lib.hid ((hb.block _ (lt_of_block HKy8.out)).trans HKy8.out)
          have HKz9 := Lib.hid ((hb.block _ (lt_of_block HKz8.out)).trans HKz8.out)
          have HKo9 := Lib.hid hk
          replace HZ9 : Hid (w8.heap.size < w9.heap.size) := Lib.hid (by omega)
          have HE9 := Lib.hid hz
          clear hb hk hz
          clear cx0 fx0 ltx cy0 fy0 lty cz0 fz0 ltz
          have ltx := lt_of_block HKx9.out
          obtain ⟨cx0, fx0⟩ := cell1 HKx9.out
          have lty := lt_of_block HKy9.out
          obtain ⟨cy0, fy0⟩ := cell1 HKy9.out
          have ltz := lt_of_block HKz9.out
          obtain ⟨cz0, fz0⟩ := cell1 HKz9.out
          have lto := lt_of_block HKo9.out
          obtain ⟨co0, fo0⟩ := cell1 HKo9.out
          refine hK.out _ _ (⟨cx0, cy0⟩) (fun hHeld => ?_)
          clear hK K
          try simp only [Act.put, List.setIfInBounds_toArray, List.set_cons_zero, List.set_cons_succ]
          refine wpAnyH_ready (rs := [8]) (by kernel_rfl) (by simp) ?_
          refine AllReadyH.cons rfl (fun K hK => ?_) AllReadyH.nil
          go_simp
          go_at_call 58
          refine (l7Proper_any _ us (valA us xs + valA us ys) _ HRu9.out HS.out HO.out.1.1 (by omega) qs r HP.out).mono ?_
          rintro e w10 ⟨⟨s1, rfl, ho⟩, hb⟩
          have HB10 : Hid (Below w.heap.size w w10) := Lib.hid (HB9.out.trans (hb.mono HB9.out.size))
          have HZ10 : Hid (w9.heap.size ≤ w10.heap.size) := Lib.hid hb.size
          have HRu10 := Lib.hid (HRu0.out.below HB10.out (Nat.le_refl _))
          have HRx10 := Lib.hid (HRx0.out.below HB10.out (Nat.le_refl _))
          have HRy10 := Lib.hid (HRy0.out.below HB10.out (Nat.le_refl _))
          have HKx10 := Lib.hid ((hb.block _ (lt_of_block HKx9.out)).trans HKx9.out)
          have HKy10 := Lib.hid ((hb.block _ (lt_of_block HKy9.out)).trans HKy9.out)
          have HKz10 := Lib.hid ((hb.block _ (lt_of_block HKz9.out)).trans HKz9.out)
          have HKo10 := Lib.hid ((hb.block _ (lt_of_block HKo9.out)).trans HKo9.out)
          clear hb
          obtain ⟨pv, kv, rfl⟩ := ho.form
          have HOv10 := Lib.hid (ho)
          clear ho
          clear cx0 fx0 ltx cy0 fy0 lty cz0 fz0 ltz co0 fo0 lto
          have ltx := lt_of_block HKx10.out
          obtain ⟨cx0, fx0⟩ := cell1 HKx10.out
          have lty := lt_of_block HKy10.out
          obtain ⟨cy0, fy0⟩ := cell1 HKy10.out
          have ltz := lt_of_block HKz10.out
          obtain ⟨cz0, fz0⟩ := cell1 HKz10.out
          have lto := lt_of_block HKo10.out
          obtain ⟨co0, fo0⟩ := cell1 HKo10.out
          try go_simp
          refine hK.out _ _ (⟨cx0, cy0⟩) (fun hHeld => ?_)
          clear hK K
          try simp only [Act.put, List.setIfInBounds_toArray, List.set_cons_zero, List.set_cons_succ]
          refine take1 (i := 9) (v := ?v11) (some 21) rfl rfl (by kernel_rfl) (by kernel_rfl) (by kernel_rfl) (fun _ _ _ h => h) (Or.inl ⟨by rfl, ?y11⟩) (by assumption) ?r11
          case y11 => (intro w hSw; (try dsimp only at hSw); go_simp; (first | done | with_reducible rfl))
          try simp only [Act.put, List.setIfInBounds_toArray, List.set_cons_zero, List.set_cons_succ]
          refine take1 (i := 10) (v := ?v12) (some 31) rfl rfl (by kernel_rfl) (by kernel_rfl) (by kernel_rfl) (fun _ _ _ h => h) (Or.inl ⟨by rfl, ?y12⟩) (by assumption) ?r12
          case y12 => (intro w hSw; (try dsimp only at hSw); go_simp; (first | done | with_reducible rfl))
          try simp only [Act.put, List.setIfInBounds_toArray, List.set_cons_zero, List.set_cons_succ]
          refine take1 (i := 11) (v := ?v13) (some 32) rfl rfl (by kernel_rfl) (by kernel_rfl) (by kernel_rfl) (fun _ _ _ h => h) (Or.inl ⟨by rfl, ?y13⟩) (by assumption) ?r13
          case y13 => (intro w hSw; (try dsimp only at hSw); go_simp; (first | done | with_reducible rfl))
          try simp only [Act.put, List.setIfInBounds_toArray, List.set_cons_zero, List.set_cons_succ]
          refine wpAnyH_ready (rs := [13]) (by kernel_rfl) (by simp) ?_
          refine AllReadyH.cons rfl (fun K hK => ?_) AllReadyH.nil
          go_simp
          have hko := box1_set HKo10.out (.slice pv qs.length kv)
          have hm : Btw w8.heap.size (w8.heap.size + 1) w10 (w10.setCell ⟨w8.heap.size, 0, none⟩ (.slice pv qs.length kv)) := (Btw.refl w8.heap.size (w8.heap.size + 1) w10).setCell (p := ⟨w8.heap.size, 0, none⟩) (Nat.le_refl _) (Nat.lt_succ_self _) _
          generalize w10.setCell ⟨w8.heap.size, 0, none⟩ (.slice pv qs.length kv) = w11 at hko hm ⊢
          have HZ11 : Hid (w10.heap.size ≤ w11.heap.size) := Lib.hid hm.size
          have HB11 : Hid (Below w.heap.size w w11) := Lib.hid (HB10.out.trans (hm.below.mono (by have := HZ1.out; have := HZ2.out; have := HZ3.out; have := HZ4.out; have := HZ5.out; have := HZ6.out; have := HZ7.out; have := HZ8.out; have := HZ9.out; have := HZ10.out; have := HB0.out.size; omega)))
          have HRu11 := Lib.hid (HRu0.out.below HB11.out (Nat.le_refl _))
          have HRx11 := Lib.hid (HRx0.out.below HB11.out (Nat.le_refl _))
          have HRy11 := Lib.hid (HRy0.out.below HB11.out (Nat.le_refl _))
          have HKx11 := Lib.hid ((hm.block _ (by have := lt_of_block HKx10.out; have := HZ1.out; have := HZ2.out; have := HZ3.out; have := HZ4.out; have := HZ5.out; have := HZ6.out; have := HZ7.out; have := HZ8.out; have := HZ9.out; have := HZ10.out; omega)).trans HKx10.out)
          have HKy11 := Lib.hid ((hm.block _ (by have := lt_of_block HKy10.out; have := HZ1.out; have := HZ2.out; have := HZ3.out; have := HZ4.out; have := HZ5.out; have := HZ6.out; have := HZ7.out; have := HZ8.out; have := HZ9.out; have := HZ10.out; omega)).trans HKy10.out)
          have HKz11 := Lib.hid ((hm.block _ (by have := lt_of_block HKz10.out; have := HZ1.out; have := HZ2.out; have := HZ3.out; have := HZ4.out; have := HZ5.out; have := HZ6.out; have := HZ7.out; have := HZ8.out; have := HZ9.out; have := HZ10.out; omega)).trans HKz10.out)
          have HOv11 := Lib.hid (HOv10.out.btw hm (by have := HZ1.out; have := HZ2.out; have := HZ3.out; have := HZ4.out; have := HZ5.out; have := HZ6.out; have := HZ7.out; have := HZ8.out; have := HZ9.out; have := HZ10.out; omega))
          clear hm
          have HKo11 := Lib.hid (hko)
          clear hko
          clear cx0 fx0 ltx cy0 fy0 lty cz0 fz0 ltz co0 fo0 lto
          have ltx := lt_of_block HKx11.out
          obtain ⟨cx0, fx0⟩ := cell1 HKx11.out
          have lty := lt_of_block HKy11.out
          obtain ⟨cy0, fy0⟩ := cell1 HKy11.out
          have ltz := lt_of_block HKz11.out
          obtain ⟨cz0, fz0⟩ := cell1 HKz11.out
          have lto := lt_of_block HKo11.out
          obtain ⟨co0, fo0⟩ := cell1 HKo11.out
          refine hK.out _ _ (⟨cx0, cy0⟩) (fun hHeld => ?_)
          clear hK K
          try simp only [Act.put]
          refine take1 (i := 14) (v := ?v14) (some 9) rfl rfl (by kernel_rfl) (by kernel_rfl) (by kernel_rfl) (fun _ _ _ h => h) (Or.inl ⟨by rfl, ?y14⟩) (by assumption) ?r14
          case y14 => (intro w hSw; (try dsimp only at hSw); go_simp; (first | done | with_reducible rfl))
          try simp only [Act.put, List.setIfInBounds_toArray, List.set_cons_zero, List.set_cons_succ]
          refine wpAnyH_done (by kernel_rfl) ?_ _
          go_wp2_with fail
          exact bodyPost_ret (v := .tuple #[.agg #[.slice pv qs.length kv], .bool r]) (by simp [results, Try.results30, go_sem, cz0]) rfl ⟨⟨_, rfl, (OwA.set HOv11.out (a := ⟨w.heap.size + 2, 0, none⟩) (by show w.heap.size + 2 < _; have := hlz; have := HZ1.out; have := HZ2.out; have := HZ3.out; have := HZ4.out; have := HZ5.out; have := HZ6.out; have := HZ7.out; have := HZ8.out; have := HZ9.out; have := HZ10.out; have := HZ11.out;  omega) _).mono (by have := HZ1.out; have := HZ2.out; have := HZ3.out; have := HZ4.out; have := HZ5.out; have := HZ6.out; have := HZ7.out; have := HZ8.out; have := HZ9.out; have := HZ10.out; have := HZ11.out;  omega) (by simp [World.setCell] <;> (have := HZ1.out; have := HZ2.out; have := HZ3.out; have := HZ4.out; have := HZ5.out; have := HZ6.out; have := HZ7.out; have := HZ8.out; have := HZ9.out; have := HZ10.out; have := HZ11.out;  omega))⟩, HB11.out.setCell (p := ⟨w.heap.size + 2, 0, none⟩) (by show w.heap.size ≤ w.heap.size + 2; omega) _⟩
      · go_simp
        have hb : Below w7.heap.size w7 (w7.alloc (.cells #[.slice none 0 0] 50)) := (Below.refl _ _).alloc (Nat.le_refl _) _
        have hk : (w7.alloc (.cells #[.slice none 0 0] 50)).heap[w7.heap.size]? = some (.cells #[.slice none 0 0] 50 (0, 0)) := alloc_at rfl
        have hz : (w7.alloc (.cells #[.slice none 0 0] 50)).heap.size = w7.heap.size + 1 := by simp
        generalize w7.alloc (.cells #[.slice none 0 0] 50) = w8 at hb hk hz ⊢
        have HB8 : Hid (Below w.heap.size w w8) := Lib.hid (HB7.out.trans (hb.mono HB7.out.size))
        have HZ8 : Hid (w7.heap.size ≤ w8.heap.size) := Lib.hid hb.size
        have HRu8 := Lib.hid (HRu0.out.below HB8.out (Nat.le_refl _))
        have HRx8 := Lib.hid (HRx0.out.below HB8.out (Nat.le_refl _))
        have HRy8 := Lib.hid (HRy0.out.below HB8.out (Nat.le_refl _))
        have HKx8 := Lib.hid ((hb.block _ (lt_of_block HKx7.out)).trans HKx7.out)
        have HKy8 := Lib.hid ((hb.block _ (lt_of_block HKy7.out)).trans HKy7.out)
        have HKz8 := Lib.hid ((hb.block _ (lt_of_block HKz7.out)).trans HKz7.out)
        have HKo8 := Lib.hid hk
        replace HZ8 : Hid (w7.heap.size < w8.heap.size) := Lib.hid (by omega)
        have HE8 := Lib.hid hz
        clear hb hk hz
        clear cx0 fx0 ltx cy0 fy0 lty cz0 fz0 ltz
        have ltx := lt_of_block HKx8.out
        obtain ⟨cx0, fx0⟩ := cell1 HKx8.out
        have lty := lt_of_block HKy8.out
        obtain ⟨cy0, fy0⟩ := cell1 HKy8.out
        have ltz := lt_of_block HKz8.out
        obtain ⟨cz0, fz0⟩ := cell1 HKz8.out
        have lto := lt_of_block HKo8.out
        obtain ⟨co0, fo0⟩ := cell1 HKo8.out
        refine hK.out _ _ (⟨cx0, cy0⟩) (fun hHeld => ?_)
        clear hK K
        try simp only [Act.put, List.setIfInBounds_toArray, List.set_cons_zero, List.set_cons_succ]
        refine wpAnyH_ready (rs := [6]) (by kernel_rfl) (by simp) ?_
        refine AllReadyH.cons rfl (fun K hK => ?_) AllReadyH.nil
        go_simp
        go_at_call 63
        refine (l7Value_any _ _ us ys _ HRu8.out HRy8.out HO.out.2).mono ?_
        rintro e w9 ⟨rfl, hb⟩
        have HB9 : Hid (Below w.heap.size w w9) := Lib.hid (HB8.out.trans (hb.mono HB8.out.size))
        have HZ9 : Hid (w8.heap.size ≤ w9.heap.size) := Lib.hid hb.size
        have HRu9 := Lib.hid (HRu0.out.below HB9.out (Nat.le_refl _))
        have HRx9 := Lib.hid (HRx0.out.below HB9.out (Nat.le_refl _))
        have HRy9 := Lib.hid (HRy0.out.below HB9.out (Nat.le_refl _))
        have HKx9 := Lib.hid ((hb.block _ (lt_of_block HKx8.out)).trans HKx8.out)
        have HKy9 := Lib.hid ((hb.block _ (lt_of_block HKy8.out)).trans HKy8.out)
        have HKz9 := Lib.hid ((hb.block _ (lt_of_block HKz8.out)).trans HKz8.out)
        have HKo9 := Lib.hid ((hb.block _ (lt_of_block HKo8.out)).trans HKo8.out)
        clear hb
        clear cx0 fx0 ltx cy0 fy0 lty cz0 fz0 ltz co0 fo0 lto
        have ltx := lt_of_block HKx9.out
        obtain ⟨cx0, fx0⟩ := cell1 HKx9.out
        have lty := lt_of_block HKy9.out
        obtain ⟨cy0, fy0⟩ := cell1 HKy9.out
        have ltz := lt_of_block HKz9.out
        obtain ⟨cz0, fz0⟩ := cell1 HKz9.out
        have lto := lt_of_block HKo9.out
        obtain ⟨co0, fo0⟩ := cell1 HKo9.out
        try go_simp
        refine hK.out _ _ (⟨cx0, cy0⟩) (fun hHeld => ?_)
        clear hK K
        try simp only [Act.put, List.setIfInBounds_toArray, List.set_cons_zero, List.set_cons_succ]
        refine take1 (i := 7) (v := ?v15) (some 29) rfl rfl (by kernel_rfl) (by kernel_rfl) (by kernel_rfl) (fun _ _ _ h => h) (Or.inl ⟨by rfl, ?y15⟩) (by assumption) ?r15
        case y15 => (intro w hSw; (try dsimp only at hSw); go_simp; (first | done | with_reducible rfl))
        try simp only [Act.put, List.setIfInBounds_toArray, List.set_cons_zero, List.set_cons_succ]
        refine wpAnyH_ready (rs := [8]) (by kernel_rfl) (by simp) ?_
        refine AllReadyH.cons rfl (fun K hK => ?_) AllReadyH.nil
        go_simp
        go_at_call 58
        refine (l7Proper_any _ us (valA us xs + valA us ys) _ HRu9.out HS.out HO.out.1.1 (by omega) qs r HP.out).mono ?_
        rintro e w10 ⟨⟨s1, rfl, ho⟩, hb⟩
        have HB10 : Hid (Below w.heap.size w w10) := Lib.hid (HB9.out.trans (hb.mono HB9.out.size))
        have HZ10 : Hid (w9.heap.size ≤ w10.heap.size) := Lib.hid hb.size
        have HRu10 := Lib.hid (HRu0.out.below HB10.out (Nat.le_refl _))
        have HRx10 := Lib.hid (HRx0.out.below HB10.out (Nat.le_refl _))
        have HRy10 := Lib.hid (HRy0.out.below HB10.out (Nat.le_refl _))
        have HKx10 := Lib.hid ((hb.block _ (lt_of_block HKx9.out)).trans HKx9.out)
        have HKy10 := Lib.hid ((hb.block _ (lt_of_block HKy9.out)).trans HKy9.out)
        have HKz10 := Lib.hid ((hb.block _ (lt_of_block HKz9.out)).trans HKz9.out)
        have HKo10 := Lib.hid ((hb.block _ (lt_of_block HKo9.out)).trans HKo9.out)
        clear hb
        obtain ⟨pv, kv, rfl⟩ := ho.form
        have HOv10 := Lib.hid (ho)
        clear ho
        clear cx0 fx0 ltx cy0 fy0 lty cz0 fz0 ltz co0 fo0 lto
        have ltx := lt_of_block HKx10.out
        obtain ⟨cx0, fx0⟩ := cell1 HKx10.out
        have lty := lt_of_block HKy10.out
        obtain ⟨cy0, fy0⟩ := cell1 HKy10.out
        have ltz := lt_of_block HKz10.out
        obtain ⟨cz0, fz0⟩ := cell1 HKz10.out
        have lto := lt_of_block HKo10.out
        obtain ⟨co0, fo0⟩ := cell1 HKo10.out
        try go_simp
        refine hK.out _ _ (⟨cx0, cy0⟩) (fun hHeld => ?_)
        clear hK K
        try simp only [Act.put, List.setIfInBounds_toArray, List.set_cons_zero, List.set_cons_succ]
        refine take1 (i := 9) (v := ?v16) (some 21) rfl rfl (by kernel_rfl) (by kernel_rfl) (by kernel_rfl) (fun _ _ _ h => h) (Or.inl ⟨by rfl, ?y16⟩) (by assumption) ?r16
        case y16 => (intro w hSw; (try dsimp only at hSw); go_simp; (first | done | with_reducible rfl))
        try simp only [Act.put, List.setIfInBounds_toArray, List.set_cons_zero, List.set_cons_succ]
        refine take1 (i := 10) (v := ?v17) (some 31) rfl rfl (by kernel_rfl) (by kernel_rfl) (by kernel_rfl) (fun _ _ _ h => h) (Or.inl ⟨by rfl, ?y17⟩) (by assumption) ?r17
        case y17 => (intro w hSw; (try dsimp only at hSw); go_simp; (first | done | with_reducible rfl))
        try simp only [Act.put, List.setIfInBounds_toArray, List.set_cons_zero, List.set_cons_succ]
        refine take1 (i := 11) (v := ?v18) (some 32) rfl rfl (by kernel_rfl) (by kernel_rfl) (by kernel_rfl) (fun _ _ _ h => h) (Or.inl ⟨by rfl, ?y18⟩) (by assumption) ?r18
        case y18 => (intro w hSw; (try dsimp only at hSw); go_simp; (first | done | with_reducible rfl))
        try simp only [Act.put, List.setIfInBounds_toArray, List.set_cons_zero, List.set_cons_succ]
        refine wpAnyH_ready (rs := [13]) (by kernel_rfl) (by simp) ?_
        refine AllReadyH.cons rfl (fun K hK => ?_) AllReadyH.nil
        go_simp
        have hko := box1_set HKo10.out (.slice pv qs.length kv)
        have hm : Btw w7.heap.size (w7.heap.size + 1) w10 (w10.setCell ⟨w7.heap.size, 0, none⟩ (.slice pv qs.length kv)) := (Btw.refl w7.heap.size (w7.heap.size + 1) w10).setCell (p := ⟨w7.heap.size, 0, none⟩) (Nat.le_refl _) (Nat.lt_succ_self _) _
        generalize w10.setCell ⟨w7.heap.size, 0, none⟩ (.slice pv qs.length kv) = w11 at hko hm ⊢
        have HZ11 : Hid (w10.heap.size ≤ w11.heap.size) := Lib.hid hm.size
        have HB11 : Hid (Below w.heap.size w w11) := Lib.hid (HB10.out.trans (hm.below.mono (by have := HZ1.out; have := HZ2.out; have := HZ3.out; have := HZ4.out; have := HZ5.out; have := HZ6.out; have := HZ7.out; have := HZ8.out; have := HZ9.out; have := HZ10.out; have := HB0.out.size; omega)))
        have HRu11 := Lib.hid (HRu0.out.below HB11.out (Nat.le_refl _))
        have HRx11 := Lib.hid (HRx0.out.below HB11.out (Nat.le_refl _))
        have HRy11 := Lib.hid (HRy0.out.below HB11.out (Nat.le_refl _))
        have HKx11 := Lib.hid ((hm.block _ (by have := lt_of_block HKx10.out; have := HZ1.out; have := HZ2.out; have := HZ3.out; have := HZ4.out; have := HZ5.out; have := HZ6.out; have := HZ7.out; have := HZ8.out; have := HZ9.out; have := HZ10.out; omega)).trans HKx10.out)
        have HKy11 := Lib.hid ((hm.block _ (by have := lt_of_block HKy10.out; have := HZ1.out; have := HZ2.out; have := HZ3.out; have := HZ4.out; have := HZ5.out; have := HZ6.out; have := HZ7.out; have := HZ8.out; have := HZ9.out; have := HZ10.out; omega)).trans HKy10.out)
        have HKz11 := Lib.hid ((hm.block _ (by have := lt_of_block HKz10.out; have := HZ1.out; have := HZ2.out; have := HZ3.out; have := HZ4.out; have := HZ5.out; have := HZ6.out; have := HZ7.out; have := HZ8.out; have := HZ9.out; have := HZ10.out; omega)).trans HKz10.out)
        have HOv11 := Lib.hid (HOv10.out.btw hm (by have := HZ1.out; have := HZ2.out; have := HZ3.out; have := HZ4.out; have := HZ5.out; have := HZ6.out; have := HZ7.out; have := HZ8.out; have := HZ9.out; have := HZ10.out; omega))
        clear hm
        have HKo11 := Lib.hid (hko)
        clear hko
        clear cx0 fx0 ltx cy0 fy0 lty cz0 fz0 ltz co0 fo0 lto
        have ltx := lt_of_block HKx11.out
        obtain ⟨cx0, fx0⟩ := cell1 HKx11.out
        have lty := lt_of_block HKy11.out
        obtain ⟨cy0, fy0⟩ := cell1 HKy11.out
        have ltz := lt_of_block HKz11.out
        obtain ⟨cz0, fz0⟩ := cell1 HKz11.out
        have lto := lt_of_block HKo11.out
        obtain ⟨co0, fo0⟩ := cell1 HKo11.out
        refine hK.out _ _ (⟨cx0, cy0⟩) (fun hHeld => ?_)
        clear hK K
        try simp only [Act.put]
        refine take1 (i := 14) (v := ?v19) (some 9) rfl rfl (by kernel_rfl) (by kernel_rfl) (by kernel_rfl) (fun _ _ _ h => h) (Or.inl ⟨by rfl, ?y19⟩) (by assumption) ?r19
        case y19 => (intro w hSw; (try dsimp only at hSw); go_simp; (first | done | with_reducible rfl))
        try simp only [Act.put, List.setIfInBounds_toArray, List.set_cons_zero, List.set_cons_succ]
        refine wpAnyH_done (by kernel_rfl) ?_ _
        go_wp2_with fail
        exact bodyPost_ret (v := .tuple #[.agg #[.slice pv qs.length kv], .bool r]) (by simp [results, Try.results30, go_sem, cz0]) rfl ⟨⟨_, rfl, (OwA.set HOv11.out (a := ⟨w.heap.size + 2, 0, none⟩) (by show w.heap.size + 2 < _; have := hlz; have := HZ1.out; have := HZ2.out; have := HZ3.out; have := HZ4.out; have := HZ5.out; have := HZ6.out; have := HZ7.out; have := HZ8.out; have := HZ9.out; have := HZ10.out; have := HZ11.out;  omega) _).mono (by have := HZ1.out; have := HZ2.out; have := HZ3.out; have := HZ4.out; have := HZ5.out; have := HZ6.out; have := HZ7.out; have := HZ8.out; have := HZ9.out; have := HZ10.out; have := HZ11.out;  omega) (by simp [World.setCell] <;> (have := HZ1.out; have := HZ2.out; have := HZ3.out; have := HZ4.out; have := HZ5.out; have := HZ6.out; have := HZ7.out; have := HZ8.out; have := HZ9.out; have := HZ10.out; have := HZ11.out;  omega))⟩, HB11.out.setCell (p := ⟨w.heap.size + 2, 0, none⟩) (by show w.heap.size ≤ w.heap.size + 2; omega) _⟩
    · go_simp
      have hb : Below w6.heap.size w6 (w6.alloc (.cells #[.slice none 0 0] 50)) := (Below.refl _ _).alloc (Nat.le_refl _) _
      have hk : (w6.alloc (.cells #[.slice none 0 0] 50)).heap[w6.heap.size]? = some (.cells #[.slice none 0 0] 50 (0, 0)) := alloc_at rfl
      have hz : (w6.alloc (.cells #[.slice none 0 0] 50)).heap.size = w6.heap.size + 1 := by simp
      generalize w6.alloc (.cells #[.slice none 0 0] 50) = w7 at hb hk hz ⊢
      have HB7 : Hid (Below w.heap.size w w7) := Lib.hid (HB6.out.trans (hb.mono HB6.out.size))
      have HZ7 : Hid (w6.heap.size ≤ w7.heap.size) := Lib.hid hb.size
      have HRu7 := Lib.hid (HRu0.out.below HB7.out (Nat.le_refl _))
      have HRx7 := Lib.hid (HRx0.out.below HB7.out (Nat.le_refl _))
      have HRy7 := Lib.hid (HRy0.out.below HB7.out (Nat.le_refl _))
      have HKx7 := Lib.hid ((hb.block _ (lt_of_block HKx6.out)).trans HKx6.out)
      have HKy7 := Lib.hid ((hb.block _ (lt_of_block HKy6.out)).trans HKy6.out)
      have HKz7 := Lib.hid ((hb.block _ (lt_of_block HKz6.out)).trans HKz6.out)
      have HKo7 := Lib.hid hk
      replace HZ7 : Hid (w6.heap.size < w7.heap.size) := Lib.hid (by omega)
      have HE7 := Lib.hid hz
      clear hb hk hz
      clear cx0 fx0 ltx cy0 fy0 lty cz0 fz0 ltz
      have ltx := lt_of_block HKx7.out
      obtain ⟨cx0, fx0⟩ := cell1 HKx7.out
      have lty := lt_of_block HKy7.out
      obtain ⟨cy0, fy0⟩ := cell1 HKy7.out
      have ltz := lt_of_block HKz7.out
      obtain ⟨cz0, fz0⟩ := cell1 HKz7.out
      have lto := lt_of_block HKo7.out
      obtain ⟨co0, fo0⟩ := cell1 HKo7.out
      refine hK.out _ _ (⟨cx0, cy0⟩) (fun hHeld => ?_)
      clear hK K
      try simp only [Act.put, List.setIfInBounds_toArray, List.set_cons_zero, List.set_cons_succ]
      refine wpAnyH_ready (rs := [3]) (by kernel_rfl) (by simp) ?_
      refine AllReadyH.cons rfl (fun K hK => ?_) AllReadyH.nil
      go_simp
      go_at_call 63
      refine (l7Value_any _ _ us xs _ HRu7.out HRx7.out HO.out.1).mono ?_
      rintro e w8 ⟨rfl, hb⟩
      have HB8 : Hid (Below w.heap.size w w8) := Lib.hid (HB7.out.trans (hb.mono HB7.out.size))
      have HZ8 : Hid (w7.heap.size ≤ w8.heap.size) := Lib.hid hb.size
      have HRu8 := Lib.hid (HRu0.out.below HB8.out (Nat.le_refl _))
      have HRx8 := Lib.hid (HRx0.out.below HB8.out (Nat.le_refl _))
      have HRy8 := Lib.hid (HRy0.out.below HB8.out (Nat.le_refl _))
      have HKx8 := Lib.hid ((hb.block _ (lt_of_block HKx7.out)).trans HKx7.out)
      have HKy8 := Lib.hid ((hb.block _ (lt_of_block HKy7.out)).trans HKy7.out)
      have HKz8 := Lib.hid ((hb.block _ (lt_of_block HKz7.out)).trans HKz7.out)
      have HKo8 := Lib.hid ((hb.block _ (lt_of_block HKo7.out)).trans HKo7.out)
      clear hb
      clear cx0 fx0 ltx cy0 fy0 lty cz0 fz0 ltz co0 fo0 lto
      have ltx := lt_of_block HKx8.out
      obtain ⟨cx0, fx0⟩ := cell1 HKx8.out
      have lty := lt_of_block HKy8.out
      obtain ⟨cy0, fy0⟩ := cell1 HKy8.out
      have ltz := lt_of_block HKz8.out
      obtain ⟨cz0, fz0⟩ := cell1 HKz8.out
      have lto := lt_of_block HKo8.out
      obtain ⟨co0, fo0⟩ := cell1 HKo8.out
      try go_simp
      refine hK.out _ _ (⟨cx0, cy0⟩) (fun hHeld => ?_)
      clear hK K
      try simp only [Act.put, List.setIfInBounds_toArray, List.set_cons_zero, List.set_cons_succ]
      refine wpAnyH_ready (rs := [6]) (by kernel_rfl) (by simp) ?_
      refine AllReadyH.cons rfl (fun K hK => ?_) AllReadyH.nil
      go_simp
      go_at_call 63
      refine (l7Value_any _ _ us ys _ HRu8.out HRy8.out HO.out.2).mono ?_
      rintro e w9 ⟨rfl, hb⟩
      have HB9 : Hid (Below w.heap.size w w9) := Lib.hid (HB8.out.trans (hb.mono HB8.out.size))
      have HZ9 : Hid (w8.heap.size ≤ w9.heap.size) := Lib.hid hb.size
      have HRu9 := Lib.hid (HRu0.out.below HB9.out (Nat.le_refl _))
      have HRx9 := Lib.hid (HRx0.out.below HB9.out (Nat.le_refl _))
      have HRy9 := Lib.hid (HRy0.out.below HB9.out (Nat.le_refl _))
      have HKx9 := Lib.hid ((hb.block _ (lt_of_block HKx8.out)).trans HKx8.out)
      have HKy9 := Lib.hid ((hb.block _ (lt_of_block HKy8.out)).trans HKy8.out)
      have HKz9 := Lib.hid ((hb.block _ (lt_of_block HKz8.out)).trans HKz8.out)
      have HKo9 := Lib.hid ((hb.block _ (lt_of_block HKo8.out)).trans HKo8.out)
      clear hb
      clear cx0 fx0 ltx cy0 fy0 lty cz0 fz0 ltz co0 fo0 lto
      have ltx := lt_of_block HKx9.out
      obtain ⟨cx0, fx0⟩ := cell1 HKx9.out
      have lty := lt_of_block HKy9.out
      obtain ⟨cy0, fy0⟩ := cell1 HKy9.out
      have ltz := lt_of_block HKz9.out
      obtain ⟨cz0, fz0⟩ := cell1 HKz9.out
      have lto := lt_of_block HKo9.out
      obtain ⟨co0, fo0⟩ := cell1 HKo9.out
      try go_simp
      refine hK.out _ _ (⟨cx0, cy0⟩) (fun hHeld => ?_)
      clear hK K
      try simp only [Act.put, List.setIfInBounds_toArray, List.set_cons_zero, List.set_cons_succ]
      refine take1 (i := 7) (v := ?v20) (some 29) rfl rfl (by kernel_rfl) (by kernel_rfl) (by kernel_rfl) (fun _ _ _ h => h) (Or.inl ⟨by rfl, ?y20⟩) (by assumption) ?r20
      case y20 => (intro w hSw; (try dsimp only at hSw); go_simp; (first | done | with_reducible rfl))
      try simp only [Act.put, List.setIfInBounds_toArray, List.set_cons_zero, List.set_cons_succ]
      refine wpAnyH_ready (rs := [8]) (by kernel_rfl) (by simp) ?_
      refine AllReadyH.cons rfl (fun K hK => ?_) AllReadyH.nil
      go_simp
      go_at_call 58
      refine (l7Proper_any _ us (valA us xs + valA us ys) _ HRu9.out HS.out HO.out.1.1 (by omega) qs r HP.out).mono ?_
      rintro e w10 ⟨⟨s1, rfl, ho⟩, hb⟩
      have HB10 : Hid (Below w.heap.size w w10) := Lib.hid (HB9.out.trans (hb.mono HB9.out.size))
      have HZ10 : Hid (w9.heap.size ≤ w10.heap.size) := Lib.hid hb.size
      have HRu10 := Lib.hid (HRu0.out.below HB10.out (Nat.le_refl _))
      have HRx10 := Lib.hid (HRx0.out.below HB10.out (Nat.le_refl _))
      have HRy10 := Lib.hid (HRy0.out.below HB10.out (Nat.le_refl _))
      have HKx10 := Lib.hid ((hb.block _ (lt_of_block HKx9.out)).trans HKx9.out)
      have HKy10 := Lib.hid ((hb.block _ (lt_of_block HKy9.out)).trans HKy9.out)
      have HKz10 := Lib.hid ((hb.block _ (lt_of_block HKz9.out)).trans HKz9.out)
      have HKo10 := Lib.hid ((hb.block _ (lt_of_block HKo9.out)).trans HKo9.out)
      clear hb
      obtain ⟨pv, kv, rfl⟩ := ho.form
      have HOv10 := Lib.hid (ho)
      clear ho
      clear cx0 fx0 ltx cy0 fy0 lty cz0 fz0 ltz co0 fo0 lto
      have ltx := lt_of_block HKx10.out
      obtain ⟨cx0, fx0⟩ := cell1 HKx10.out
      have lty := lt_of_block HKy10.out
      obtain ⟨cy0, fy0⟩ := cell1 HKy10.out
      have ltz := lt_of_block HKz10.out
      obtain ⟨cz0, fz0⟩ := cell1 HKz10.out
      have lto := lt_of_block HKo10.out
      obtain ⟨co0, fo0⟩ := cell1 HKo10.out
      try go_simp
      refine hK.out _ _ (⟨cx0, cy0⟩) (fun hHeld => ?_)
      clear hK K
      try simp only [Act.put, List.setIfInBounds_toArray, List.set_cons_zero, List.set_cons_succ]
      refine take1 (i := 9) (v := ?v21) (some 21) rfl rfl (by kernel_rfl) (by kernel_rfl) (by kernel_rfl) (fun _ _ _ h => h) (Or.inl ⟨by rfl, ?y21⟩) (by assumption) ?r21
      case y21 => (intro w hSw; (try dsimp only at hSw); go_simp; (first | done | with_reducible rfl))
      try simp only [Act.put, List.setIfInBounds_toArray, List.set_cons_zero, List.set_cons_succ]
      refine take1 (i := 10) (v := ?v22) (some 31) rfl rfl (by kernel_rfl) (by kernel_rfl) (by kernel_rfl) (fun _ _ _ h => h) (Or.inl ⟨by rfl, ?y22⟩) (by assumption) ?r22
      case y22 => (intro w hSw; (try dsimp only at hSw); go_simp; (first | done | with_reducible rfl))
      try simp only [Act.put, List.setIfInBounds_toArray, List.set_cons_zero, List.set_cons_succ]
      refine take1 (i := 11) (v := ?v23) (some 32) rfl rfl (by kernel_rfl) (by kernel_rfl) (by kernel_rfl) (fun _ _ _ h => h) (Or.inl ⟨by rfl, ?y23⟩) (by assumption) ?r23
      case y23 => (intro w hSw; (try dsimp only at hSw); go_simp; (first | done | with_reducible rfl))
      try simp only [Act.put, List.setIfInBounds_toArray, List.set_cons_zero, List.set_cons_succ]
      refine wpAnyH_ready (rs := [13]) (by kernel_rfl) (by simp) ?_
      refine AllReadyH.cons rfl (fun K hK => ?_) AllReadyH.nil
      go_simp
      have hko := box1_set HKo10.out (.slice pv qs.length kv)
      have hm : Btw w6.heap.size (w6.heap.size + 1) w10 (w10.setCell ⟨w6.heap.size, 0, none⟩ (.slice pv qs.length kv)) := (Btw.refl w6.heap.size (w6.heap.size + 1) w10).setCell (p := ⟨w6.heap.size, 0, none⟩) (Nat.le_refl _) (Nat.lt_succ_self _) _
      generalize w10.setCell ⟨w6.heap.size, 0, none⟩ (.slice pv qs.length kv) = w11 at hko hm ⊢
      have HZ11 : Hid (w10.heap.size ≤ w11.heap.size) := Lib.hid hm.size
      have HB11 : Hid (Below w.heap.size w w11) := Lib.hid (HB10.out.trans (hm.below.mono (by have := HZ1.out; have := HZ2.out; have := HZ3.out; have := HZ4.out; have := HZ5.out; have := HZ6.out; have := HZ7.out; have := HZ8.out; have := HZ9.out; have := HZ10.out; have := HB0.out.size; omega)))
      have HRu11 := Lib.hid (HRu0.out.below HB11.out (Nat.le_refl _))
      have HRx11 := Lib.hid (HRx0.out.below HB11.out (Nat.le_refl _))
      have HRy11 := Lib.hid (HRy0.out.below HB11.out (Nat.le_refl _))
      have HKx11 := Lib.hid ((hm.block _ (by have := lt_of_block HKx10.out; have := HZ1.out; have := HZ2.out; have := HZ3.out; have := HZ4.out; have := HZ5.out; have := HZ6.out; have := HZ7.out; have := HZ8.out; have := HZ9.out; have := HZ10.out; omega)).trans HKx10.out)
      have HKy11 := Lib.hid ((hm.block _ (by have := lt_of_block HKy10.out; have := HZ1.out; have := HZ2.out; have := HZ3.out; have := HZ4.out; have := HZ5.out; have := HZ6.out; have := HZ7.out; have := HZ8.out; have := HZ9.out; have := HZ10.out; omega)).trans HKy10.out)
      have HKz11 := Lib.hid ((hm.block _ (by have := lt_of_block HKz10.out; have := HZ1.out; have := HZ2.out; have := HZ3.out; have := HZ4.out; have := HZ5.out; have := HZ6.out; have := HZ7.out; have := HZ8.out; have := HZ9.out; have := HZ10.out; omega)).trans HKz10.out)
      have HOv11 := Lib.hid (HOv10.out.btw hm (by have := HZ1.out; have := HZ2.out; have := HZ3.out; have := HZ4.out; have := HZ5.out; have := HZ6.out; have := HZ7.out; have := HZ8.out; have := HZ9.out; have := HZ10.out; omega))
      clear hm
      have HKo11 := Lib.hid (hko)
      clear hko
      clear cx0 fx0 ltx cy0 fy0 lty cz0 fz0 ltz co0 fo0 lto
      have ltx := lt_of_block HKx11.out
      obtain ⟨cx0, fx0⟩ := cell1 HKx11.out
      have lty := lt_of_block HKy11.out
      obtain ⟨cy0, fy0⟩ := cell1 HKy11.out
      have ltz := lt_of_block HKz11.out
      obtain ⟨cz0, fz0⟩ := cell1 HKz11.out
      have lto := lt_of_block HKo11.out
      obtain ⟨co0, fo0⟩ := cell1 HKo11.out
      refine hK.out _ _ (⟨cx0, cy0⟩) (fun hHeld => ?_)
      clear hK K
      try simp only [Act.put]
      refine take1 (i := 14) (v := ?v24) (some 9) rfl rfl (by kernel_rfl) (by kernel_rfl) (by kernel_rfl) (fun _ _ _ h => h) (Or.inl ⟨by rfl, ?y24⟩) (by assumption) ?r24
      case y24 => (intro w hSw; (try dsimp only at hSw); go_simp; (first | done | with_reducible rfl))
      try simp only [Act.put, List.setIfInBounds_toArray, List.set_cons_zero, List.set_cons_succ]
      refine wpAnyH_done (by kernel_rfl) ?_ _
      go_wp2_with fail
      exact bodyPost_ret (v := .tuple #[.agg #[.slice pv qs.length kv], .bool r]) (by simp [results, Try.results30, go_sem, cz0]) rfl ⟨⟨_, rfl, (OwA.set HOv11.out (a := ⟨w.heap.size + 2, 0, none⟩) (by show w.heap.size + 2 < _; have := hlz; have := HZ1.out; have := HZ2.out; have := HZ3.out; have := HZ4.out; have := HZ5.out; have := HZ6.out; have := HZ7.out; have := HZ8.out; have := HZ9.out; have := HZ10.out; have := HZ11.out;  omega) _).mono (by have := HZ1.out; have := HZ2.out; have := HZ3.out; have := HZ4.out; have := HZ5.out; have := HZ6.out; have := HZ7.out; have := HZ8.out; have := HZ9.out; have := HZ10.out; have := HZ11.out;  omega) (by simp [World.setCell] <;> (have := HZ1.out; have := HZ2.out; have := HZ3.out; have := HZ4.out; have := HZ5.out; have := HZ6.out; have := HZ7.out; have := HZ8.out; have := HZ9.out; have := HZ10.out; have := HZ11.out;  omega))⟩, HB11.out.setCell (p := ⟨w.heap.size + 2, 0, none⟩) (by show w.heap.size ≤ w.heap.size + 2; omega) _⟩
  · by_cases hox : okAm us xs
    · have HO := Lib.hid hox
      have HN : Hid (¬ okAm us ys) := Lib.hid (fun hy => ho ⟨hox, hy⟩)
      have HB0 : Hid (Below w.heap.size w w) := Lib.hid (Below.refl _ _)
      have HRu0 := Lib.hid (h)
      have HRx0 := Lib.hid (hx)
      have HRy0 := Lib.hid (hy)
      clear h hs hx hy ho
      clear hox
      go_enter Try.func30, Try.ntmps30
      go_wp2_with fail
      have hb : Below w.heap.size w (w.alloc (.cells #[.slice a1 xs.length c1] 50)) := (Below.refl _ _).alloc (Nat.le_refl _) _
      have hk : (w.alloc (.cells #[.slice a1 xs.length c1] 50)).heap[w.heap.size]? = some (.cells #[.slice a1 xs.length c1] 50 (0, 0)) := alloc_at rfl
      have hz : (w.alloc (.cells #[.slice a1 xs.length c1] 50)).heap.size = w.heap.size + 1 := by simp
      generalize w.alloc (.cells #[.slice a1 xs.length c1] 50) = w1 at hb hk hz ⊢
      have HB1 : Hid (Below w.heap.size w w1) := Lib.hid (HB0.out.trans (hb.mono HB0.out.size))
      have HZ1 : Hid (w.heap.size ≤ w1.heap.size) := Lib.hid hb.size
      have HRu1 := Lib.hid (HRu0.out.below HB1.out (Nat.le_refl _))
      have HRx1 := Lib.hid (HRx0.out.below HB1.out (Nat.le_refl _))
      have HRy1 := Lib.hid (HRy0.out.below HB1.out (Nat.le_refl _))
      have HKx1 := Lib.hid hk
      replace HZ1 : Hid (w.heap.size < w1.heap.size) := Lib.hid (by omega)
      have HE1 := Lib.hid hz
      clear hb hk hz
      have hb : Below w1.heap.size w1 (w1.alloc (.cells #[.slice a2 ys.length c2] 50)) := (Below.refl _ _).alloc (Nat.le_refl _) _
      have hk : (w1.alloc (.cells #[.slice a2 ys.length c2] 50)).heap[w.heap.size + 1]? = some (.cells #[.slice a2 ys.length c2] 50 (0, 0)) := alloc_at (by have := HE1.out; omega)
      have hz : (w1.alloc (.cells #[.slice a2 ys.length c2] 50)).heap.size = w1.heap.size + 1 := by simp
      generalize w1.alloc (.cells #[.slice a2 ys.length c2] 50) = w2 at hb hk hz ⊢
      have HB2 : Hid (Below w.heap.size w w2) := Lib.hid (HB1.out.trans (hb.mono HB1.out.size))
      have HZ2 : Hid (w1.heap.size ≤ w2.heap.size) := Lib.hid hb.size
      have HRu2 := Lib.hid (HRu0.out.below HB2.out (Nat.le_refl _))
      have HRx2 := Lib.hid (HRx0.out.below HB2.out (Nat.le_refl _))
      have HRy2 := Lib.hid (HRy0.out.below HB2.out (Nat.le_refl _))
      have HKx2 := Lib.hid ((hb.block _ (lt_of_block HKx1.out)).trans HKx1.out)
      have HKy2 := Lib.hid hk
      replace HZ2 : Hid (w1.heap.size < w2.heap.size) := Lib.hid (by omega)
      have HE2 := Lib.hid hz
      clear hb hk hz
      have hb : Below w2.heap.size w2 (w2.alloc (.cells #[.slice none 0 0] 50)) := (Below.refl _ _).alloc (Nat.le_refl _) _
      have hk : (w2.alloc (.cells #[.slice none 0 0] 50)).heap[w.heap.size + 2]? = some (.cells #[.slice none 0 0] 50 (0, 0)) := alloc_at (by have := HE1.out; have := HE2.out; omega)
      have hz : (w2.alloc (.cells #[.slice none 0 0] 50)).heap.size = w2.heap.size + 1 := by simp
      generalize w2.alloc (.cells #[.slice none 0 0] 50) = w3 at hb hk hz ⊢
      have HB3 : Hid (Below w.heap.size w w3) := Lib.hid (HB2.out.trans (hb.mono HB2.out.size))
      have HZ3 : Hid (w2.heap.size ≤ w3.heap.size) := Lib.hid hb.size
      have HRu3 := Lib.hid (HRu0.out.below HB3.out (Nat.le_refl _))
      have HRx3 := Lib.hid (HRx0.out.below HB3.out (Nat.le_refl _))
      have HRy3 := Lib.hid (HRy0.out.below HB3.out (Nat.le_refl _))
      have HKx3 := Lib.hid ((hb.block _ (lt_of_block HKx2.out)).trans HKx2.out)
      have HKy3 := Lib.hid ((hb.block _ (lt_of_block HKy2.out)).trans HKy2.out)
      have HKz3 := Lib.hid hk
      replace HZ3 : Hid (w2.heap.size < w3.heap.size) := Lib.hid (by omega)
      have HE3 := Lib.hid hz
      clear hb hk hz
      have hlz : w.heap.size + 2 < w3.heap.size := lt_of_block HKz3.out
      have ltx := lt_of_block HKx3.out
      obtain ⟨cx0, fx0⟩ := cell1 HKx3.out
      have lty := lt_of_block HKy3.out
      obtain ⟨cy0, fy0⟩ := cell1 HKy3.out
      have ltz := lt_of_block HKz3.out
      obtain ⟨cz0, fz0⟩ := cell1 HKz3.out
      refine (l7Amount_any _ _ us xs _ HRu3.out HS.out HRx3.out true ⟨fun _ => HO.out, fun _ => rfl⟩).mono ?_
      rintro e w4 ⟨rfl, hb⟩
      have HB4 : Hid (Below w.heap.size w w4) := Lib.hid (HB3.out.trans (hb.mono HB3.out.size))
      have HZ4 : Hid (w3.heap.size ≤ w4.heap.size) := Lib.hid hb.size
      have HRu4 := Lib.hid (HRu0.out.below HB4.out (Nat.le_refl _))
      have HRx4 := Lib.hid (HRx0.out.below HB4.out (Nat.le_refl _))
      have HRy4 := Lib.hid (HRy0.out.below HB4.out (Nat.le_refl _))
      have HKx4 := Lib.hid ((hb.block _ (lt_of_block HKx3.out)).trans HKx3.out)
      have HKy4 := Lib.hid ((hb.block _ (lt_of_block HKy3.out)).trans HKy3.out)
      have HKz4 := Lib.hid ((hb.block _ (lt_of_block HKz3.out)).trans HKz3.out)
      clear hb
      clear cx0 fx0 ltx cy0 fy0 lty cz0 fz0 ltz
      have ltx := lt_of_block HKx4.out
      obtain ⟨cx0, fx0⟩ := cell1 HKx4.out
      have lty := lt_of_block HKy4.out
      obtain ⟨cy0, fy0⟩ := cell1 HKy4.out
      have ltz := lt_of_block HKz4.out
      obtain ⟨cz0, fz0⟩ := cell1 HKz4.out
      go_wp2_with fail
      refine (l7Amount_any _ _ us ys _ HRu4.out HS.out HRy4.out false ⟨fun e => (by simp at e), fun e => absurd e HN.out⟩).mono ?_
      rintro e w5 ⟨rfl, hb⟩
      have HB5 : Hid (Below w.heap.size w w5) := Lib.hid (HB4.out.trans (hb.mono HB4.out.size))
      have HZ5 : Hid (w4.heap.size ≤ w5.heap.size) := Lib.hid hb.size
      have HRu5 := Lib.hid (HRu0.out.below HB5.out (Nat.le_refl _))
      have HRx5 := Lib.hid (HRx0.out.below HB5.out (Nat.le_refl _))
      have HRy5 := Lib.hid (HRy0.out.below HB5.out (Nat.le_refl _))
      have HKx5 := Lib.hid ((hb.block _ (lt_of_block HKx4.out)).trans HKx4.out)
      have HKy5 := Lib.hid ((hb.block _ (lt_of_block HKy4.out)).trans HKy4.out)
      have HKz5 := Lib.hid ((hb.block _ (lt_of_block HKz4.out)).trans HKz4.out)
      clear hb
      clear cx0 fx0 ltx cy0 fy0 lty cz0 fz0 ltz
      have ltx := lt_of_block HKx5.out
      obtain ⟨cx0, fx0⟩ := cell1 HKx5.out
      have lty := lt_of_block HKy5.out
      obtain ⟨cy0, fy0⟩ := cell1 HKy5.out
      have ltz := lt_of_block HKz5.out
      obtain ⟨cz0, fz0⟩ := cell1 HKz5.out
      go_wp2_with fail
      exact bodyPost_ret (v := .tuple #[.agg #[.slice none 0 0], .bool false]) (by simp [results, Try.results30, go_sem, cz0]) rfl ⟨⟨_, rfl, OwA.nil _ _ _⟩, by first | exact HB5.out | exact HB5.out.setCell (p := ⟨w.heap.size + 2, 0, none⟩) (by show w.heap.size ≤ w.heap.size + 2; omega) _⟩
    · have HN := Lib.hid hox
      have HB0 : Hid (Below w.heap.size w w) := Lib.hid (Below.refl _ _)
      have HRu0 := Lib.hid (h)
      have HRx0 := Lib.hid (hx)
      have HRy0 := Lib.hid (hy)
      clear h hs hx hy ho
      clear hox
      go_enter Try.func30, Try.ntmps30
      go_wp2_with fail
      have hb : Below w.heap.size w (w.alloc (.cells #[.slice a1 xs.length c1] 50)) := (Below.refl _ _).alloc (Nat.le_refl _) _
      have hk : (w.alloc (.cells #[.slice a1 xs.length c1] 50)).heap[w.heap.size]? = some (.cells #[.slice a1 xs.length c1] 50 (0, 0)) := alloc_at rfl
      have hz : (w.alloc (.cells #[.slice a1 xs.length c1] 50)).heap.size = w.heap.size + 1 := by simp
      generalize w.alloc (.cells #[.slice a1 xs.length c1] 50) = w1 at hb hk hz ⊢
      have HB1 : Hid (Below w.heap.size w w1) := Lib.hid (HB0.out.trans (hb.mono HB0.out.size))
      have HZ1 : Hid (w.heap.size ≤ w1.heap.size) := Lib.hid hb.size
      have HRu1 := Lib.hid (HRu0.out.below HB1.out (Nat.le_refl _))
      have HRx1 := Lib.hid (HRx0.out.below HB1.out (Nat.le_refl _))
      have HRy1 := Lib.hid (HRy0.out.below HB1.out (Nat.le_refl _))
      have HKx1 := Lib.hid hk
      replace HZ1 : Hid (w.heap.size < w1.heap.size) := Lib.hid (by omega)
      have HE1 := Lib.hid hz
      clear hb hk hz
      have hb : Below w1.heap.size w1 (w1.alloc (.cells #[.slice a2 ys.length c2] 50)) := (Below.refl _ _).alloc (Nat.le_refl _) _
      have hk : (w1.alloc (.cells #[.slice a2 ys.length c2] 50)).heap[w.heap.size + 1]? = some (.cells #[.slice a2 ys.length c2] 50 (0, 0)) := alloc_at (by have := HE1.out; omega)
      have hz : (w1.alloc (.cells #[.slice a2 ys.length c2] 50)).heap.size = w1.heap.size + 1 := by simp
      generalize w1.alloc (.cells #[.slice a2 ys.length c2] 50) = w2 at hb hk hz ⊢
      have HB2 : Hid (Below w.heap.size w w2) := Lib.hid (HB1.out.trans (hb.mono HB1.out.size))
      have HZ2 : Hid (w1.heap.size ≤ w2.heap.size) := Lib.hid hb.size
      have HRu2 := Lib.hid (HRu0.out.below HB2.out (Nat.le_refl _))
      have HRx2 := Lib.hid (HRx0.out.below HB2.out (Nat.le_refl _))
      have HRy2 := Lib.hid (HRy0.out.below HB2.out (Nat.le_refl _))
      have HKx2 := Lib.hid ((hb.block _ (lt_of_block HKx1.out)).trans HKx1.out)
      have HKy2 := Lib.hid hk
      replace HZ2 : Hid (w1.heap.size < w2.heap.size) := Lib.hid (by omega)
      have HE2 := Lib.hid hz
      clear hb hk hz
      have hb : Below w2.heap.size w2 (w2.alloc (.cells #[.slice none 0 0] 50)) := (Below.refl _ _).alloc (Nat.le_refl _) _
      have hk : (w2.alloc (.cells #[.slice none 0 0] 50)).heap[w.heap.size + 2]? = some (.cells #[.slice none 0 0] 50 (0, 0)) := alloc_at (by have := HE1.out; have := HE2.out; omega)
      have hz : (w2.alloc (.cells #[.slice none 0 0] 50)).heap.size = w2.heap.size + 1 := by simp
      generalize w2.alloc (.cells #[.slice none 0 0] 50) = w3 at hb hk hz ⊢
      have HB3 : Hid (Below w.heap.size w w3) := Lib.hid (HB2.out.trans (hb.mono HB2.out.size))
      have HZ3 : Hid (w2.heap.size ≤ w3.heap.size) := Lib.hid hb.size
      have HRu3 := Lib.hid (HRu0.out.below HB3.out (Nat.le_refl _))
      have HRx3 := Lib.hid (HRx0.out.below HB3.out (Nat.le_refl _))
      have HRy3 := Lib.hid (HRy0.out.below HB3.out (Nat.le_refl _))
      have HKx3 := Lib.hid ((hb.block _ (lt_of_block HKx2.out)).trans HKx2.out)
      have HKy3 := Lib.hid ((hb.block _ (lt_of_block HKy2.out)).trans HKy2.out)
      have HKz3 := Lib.hid hk
      replace HZ3 : Hid (w2.heap.size < w3.heap.size) := Lib.hid (by omega)
      have HE3 := Lib.hid hz
      clear hb hk hz
      have hlz : w.heap.size + 2 < w3.heap.size := lt_of_block HKz3.out
      have ltx := lt_of_block HKx3.out
      obtain ⟨cx0, fx0⟩ := cell1 HKx3.out
      have lty := lt_of_block HKy3.out
      obtain ⟨cy0, fy0⟩ := cell1 HKy3.out
      have ltz := lt_of_block HKz3.out
      obtain ⟨cz0, fz0⟩ := cell1 HKz3.out
      refine (l7Amount_any _ _ us xs _ HRu3.out HS.out HRx3.out false ⟨fun e => (by simp at e), fun e => absurd e HN.out⟩).mono ?_
      rintro e w4 ⟨rfl, hb⟩
      have HB4 : Hid (Below w.heap.size w w4) := Lib.hid (HB3.out.trans (hb.mono HB3.out.size))
      have HZ4 : Hid (w3.heap.size ≤ w4.heap.size) := Lib.hid hb.size
      have HRu4 := Lib.hid (HRu0.out.below HB4.out (Nat.le_refl _))
      have HRx4 := Lib.hid (HRx0.out.below HB4.out (Nat.le_refl _))
      have HRy4 := Lib.hid (HRy0.out.below HB4.out (Nat.le_refl _))
      have HKx4 := Lib.hid ((hb.block _ (lt_of_block HKx3.out)).trans HKx3.out)
      have HKy4 := Lib.hid ((hb.block _ (lt_of_block HKy3.out)).trans HKy3.out)
      have HKz4 := Lib.hid ((hb.block _ (lt_of_block HKz3.out)).trans HKz3.out)
      clear hb
      clear cx0 fx0 ltx cy0 fy0 lty cz0 fz0 ltz
      have ltx := lt_of_block HKx4.out
      obtain ⟨cx0, fx0⟩ := cell1 HKx4.out
      have lty := lt_of_block HKy4.out
      obtain ⟨cy0, fy0⟩ := cell1 HKy4.out
      have ltz := lt_of_block HKz4.out
      obtain ⟨cz0, fz0⟩ := cell1 HKz4.out
      go_wp2_with fail
      exact bodyPost_ret (v := .tuple #[.agg #[.slice none 0 0], .bool false]) (by simp [results, Try.results30, go_sem, cz0]) rfl ⟨⟨_, rfl, OwA.nil _ _ _⟩, by first | exact HB4.out | exact HB4.out.setCell (p := ⟨w.heap.size + 2, 0, none⟩) (by show w.heap.size ≤ w.heap.size + 2; omega) _⟩
set_option maxRecDepth 100000 in
set_option maxHeartbeats 3200000 in
theorem sDifferenceOf_any (v sx sy : Value) (us : List Un) (xs ys : List Int) (w : World) (h : RowsR 2 unC w v us) (hs : ∀ u ∈ us, u.nm.size ≤ maxLen) (hx : RowsR 1 inC w sx xs) (hy : RowsR 1 inC w sy ys) (qs : List Int) (r : Bool) (hk : TestF (okAm us xs ∧ okAm us ys) us (valA us xs - valA us ys) qs r) :
    Calls Try.prog 36 #[v, .agg #[sx], .agg #[sy]] w fun e w' => (∃ s1, e = .returned (.tuple #[.agg #[s1], .bool r]) ∧ OwA w.heap.size w'.heap.size w' s1 qs) ∧ Below w.heap.size w w' := by
  obtain ⟨a, cp, rfl⟩ := h.form
  have HS := Lib.hid hs
  obtain ⟨a1, c1, rfl⟩ := hx.form
  obtain ⟨a2, c2, rfl⟩ := hy.form
  rcases hk with ⟨ho, hp⟩ | ⟨ho, rfl, rfl⟩
  · have HO := Lib.hid ho
    have HP := Lib.hid hp
    have hvx := valA_lt ho.1
    have hvy := valA_lt ho.2
    have hw : IntKind.i64.wrap (valA us xs - valA us ys) = valA us xs - valA us ys := wrap_small _ (by omega) (by omega)
    have HB0 : Hid (Below w.heap.size w w) := Lib.hid (Below.refl _ _)
    have HRu0 := Lib.hid (h)
    have HRx0 := Lib.hid (hx)
    have HRy0 := Lib.hid (hy)
    clear h hs hx hy ho hp
    go_enter Try.func36, Try.ntmps36
    go_wp2_with fail
    have hb : Below w.heap.size w (w.alloc (.cells #[.slice a1 xs.length c1] 50)) := (Below.refl _ _).alloc (Nat.le_refl _) _
    have hk : (w.alloc (.cells #[.slice a1 xs.length c1] 50)).heap[w.heap.size]? = some (.cells #[.slice a1 xs.length c1] 50 (0, 0)) := alloc_at rfl
    have hz : (w.alloc (.cells #[.slice a1 xs.length c1] 50)).heap.size = w.heap.size + 1 := by simp
    generalize w.alloc (.cells #[.slice a1 xs.length c1] 50) = w1 at hb hk hz ⊢
    have HB1 : Hid (Below w.heap.size w w1) := Lib.hid (HB0.out.trans (hb.mono HB0.out.size))
    have HZ1 : Hid (w.heap.size ≤ w1.heap.size) := Lib.hid hb.size
    have HRu1 := Lib.hid (HRu0.out.below HB1.out (Nat.le_refl _))
    have HRx1 := Lib.hid (HRx0.out.below HB1.out (Nat.le_refl _))
    have HRy1 := Lib.hid (HRy0.out.below HB1.out (Nat.le_refl _))
    have HKx1 := Lib.hid hk
    replace HZ1 : Hid (w.heap.size < w1.heap.size) := Lib.hid (by omega)
    have HE1 := Lib.hid hz
    clear hb hk hz
    have hb : Below w1.heap.size w1 (w1.alloc (.cells #[.slice a2 ys.length c2] 50)) := (Below.refl _ _).alloc (Nat.le_refl _) _
    have hk : (w1.alloc (.cells #[.slice a2 ys.length c2] 50)).heap[w.heap.size + 1]? = some (.cells #[.slice a2 ys.length c2] 50 (0, 0)) := alloc_at (by have := HE1.out; omega)
    have hz : (w1.alloc (.cells #[.slice a2 ys.length c2] 50)).heap.size = w1.heap.size + 1 := by simp
    generalize w1.alloc (.cells #[.slice a2 ys.length c2] 50) = w2 at hb hk hz ⊢
    have HB2 : Hid (Below w.heap.size w w2) := Lib.hid (HB1.out.trans (hb.mono HB1.out.size))
    have HZ2 : Hid (w1.heap.size ≤ w2.heap.size) := Lib.hid hb.size
    have HRu2 := Lib.hid (HRu0.out.below HB2.out (Nat.le_refl _))
    have HRx2 := Lib.hid (HRx0.out.below HB2.out (Nat.le_refl _))
    have HRy2 := Lib.hid (HRy0.out.below HB2.out (Nat.le_refl _))
    have HKx2 := Lib.hid ((hb.block _ (lt_of_block HKx1.out)).trans HKx1.out)
    have HKy2 := Lib.hid hk
    replace HZ2 : Hid (w1.heap.size < w2.heap.size) := Lib.hid (by omega)
    have HE2 := Lib.hid hz
    clear hb hk hz
    have hb : Below w2.heap.size w2 (w2.alloc (.cells #[.slice none 0 0] 50)) := (Below.refl _ _).alloc (Nat.le_refl _) _
    have hk : (w2.alloc (.cells #[.slice none 0 0] 50)).heap[w.heap.size + 2]? = some (.cells #[.slice none 0 0] 50 (0, 0)) := alloc_at (by have := HE1.out; have := HE2.out; omega)
    have hz : (w2.alloc (.cells #[.slice none 0 0] 50)).heap.size = w2.heap.size + 1 := by simp
    generalize w2.alloc (.cells #[.slice none 0 0] 50) = w3 at hb hk hz ⊢
    have HB3 : Hid (Below w.heap.size w w3) := Lib.hid (HB2.out.trans (hb.mono HB2.out.size))
    have HZ3 : Hid (w2.heap.size ≤ w3.heap.size) := Lib.hid hb.size
    have HRu3 := Lib.hid (HRu0.out.below HB3.out (Nat.le_refl _))
    have HRx3 := Lib.hid (HRx0.out.below HB3.out (Nat.le_refl _))
    have HRy3 := Lib.hid (HRy0.out.below HB3.out (Nat.le_refl _))
    have HKx3 := Lib.hid ((hb.block _ (lt_of_block HKx2.out)).trans HKx2.out)
    have HKy3 := Lib.hid ((hb.block _ (lt_of_block HKy2.out)).trans HKy2.out)
    have HKz3 := Lib.hid hk
    replace HZ3 : Hid (w2.heap.size < w3.heap.size) := Lib.hid (by omega)
    have HE3 := Lib.hid hz
    clear hb hk hz
    have hlz : w.heap.size + 2 < w3.heap.size := lt_of_block HKz3.out
    have ltx := lt_of_block HKx3.out
    obtain ⟨cx0, fx0⟩ := cell1 HKx3.out
    have lty := lt_of_block HKy3.out
    obtain ⟨cy0, fy0⟩ := cell1 HKy3.out
    have ltz := lt_of_block HKz3.out
    obtain ⟨cz0, fz0⟩ := cell1 HKz3.out
    refine (l7Amount_any _ _ us xs _ HRu3.out HS.out HRx3.out true ⟨fun _ => HO.out.1, fun _ => rfl⟩).mono ?_
    rintro e w4 ⟨rfl, hb⟩
    have HB4 : Hid (Below w.heap.size w w4) := Lib.hid (HB3.out.trans (hb.mono HB3.out.size))
    have HZ4 : Hid (w3.heap.size ≤ w4.heap.size) := Lib.hid hb.size
    have HRu4 := Lib.hid (HRu0.out.below HB4.out (Nat.le_refl _))
    have HRx4 := Lib.hid (HRx0.out.below HB4.out (Nat.le_refl _))
    have HRy4 := Lib.hid (HRy0.out.below HB4.out (Nat.le_refl _))
    have HKx4 := Lib.hid ((hb.block _ (lt_of_block HKx3.out)).trans HKx3.out)
    have HKy4 := Lib.hid ((hb.block _ (lt_of_block HKy3.out)).trans HKy3.out)
    have HKz4 := Lib.hid ((hb.block _ (lt_of_block HKz3.out)).trans HKz3.out)
    clear hb
    clear cx0 fx0 ltx cy0 fy0 lty cz0 fz0 ltz
    have ltx := lt_of_block HKx4.out
    obtain ⟨cx0, fx0⟩ := cell1 HKx4.out
    have lty := lt_of_block HKy4.out
    obtain ⟨cy0, fy0⟩ := cell1 HKy4.out
    have ltz := lt_of_block HKz4.out
    obtain ⟨cz0, fz0⟩ := cell1 HKz4.out
    go_wp2_with fail
    refine (l7Amount_any _ _ us ys _ HRu4.out HS.out HRy4.out true ⟨fun _ => HO.out.2, fun _ => rfl⟩).mono ?_
    rintro e w5 ⟨rfl, hb⟩
    have HB5 : Hid (Below w.heap.size w w5) := Lib.hid (HB4.out.trans (hb.mono HB4.out.size))
    have HZ5 : Hid (w4.heap.size ≤ w5.heap.size) := Lib.hid hb.size
    have HRu5 := Lib.hid (HRu0.out.below HB5.out (Nat.le_refl _))
    have HRx5 := Lib.hid (HRx0.out.below HB5.out (Nat.le_refl _))
    have HRy5 := Lib.hid (HRy0.out.below HB5.out (Nat.le_refl _))
    have HKx5 := Lib.hid ((hb.block _ (lt_of_block HKx4.out)).trans HKx4.out)
    have HKy5 := Lib.hid ((hb.block _ (lt_of_block HKy4.out)).trans HKy4.out)
    have HKz5 := Lib.hid ((hb.block _ (lt_of_block HKz4.out)).trans HKz4.out)
    clear hb
    clear cx0 fx0 ltx cy0 fy0 lty cz0 fz0 ltz
    have ltx := lt_of_block HKx5.out
    obtain ⟨cx0, fx0⟩ := cell1 HKx5.out
    have lty := lt_of_block HKy5.out
    obtain ⟨cy0, fy0⟩ := cell1 HKy5.out
    have ltz := lt_of_block HKz5.out
    obtain ⟨cz0, fz0⟩ := cell1 HKz5.out
    go_wp2_with fail
    refine wp_region_held_drew (S := (fun w' => w'.cell? ⟨w.heap.size, 0, none⟩ = some (.slice a1 xs.length c1) ∧ w'.cell? ⟨w.heap.size + 1, 0, none⟩ = some (.slice a2 ys.length c2))) (by kernel_rfl) (⟨cx0, cy0⟩) (fun hHeld => ?_)
    have hb : Below w5.heap.size w5 w5.drew := (Below.refl _ _).drew
    generalize w5.drew = w6 at hb hHeld ⊢
    have HB6 : Hid (Below w.heap.size w w6) := Lib.hid (HB5.out.trans (hb.mono HB5.out.size))
    have HZ6 : Hid (w5.heap.size ≤ w6.heap.size) := Lib.hid hb.size
    have HRu6 := Lib.hid (HRu0.out.below HB6.out (Nat.le_refl _))
    have HRx6 := Lib.hid (HRx0.out.below HB6.out (Nat.le_refl _))
    have HRy6 := Lib.hid (HRy0.out.below HB6.out (Nat.le_refl _))
    have HKx6 := Lib.hid ((hb.block _ (lt_of_block HKx5.out)).trans HKx5.out)
    have HKy6 := Lib.hid ((hb.block _ (lt_of_block HKy5.out)).trans HKy5.out)
    have HKz6 := Lib.hid ((hb.block _ (lt_of_block HKz5.out)).trans HKz5.out)
    clear hb
    clear cx0 fx0 ltx cy0 fy0 lty cz0 fz0 ltz
    have ltx := lt_of_block HKx6.out
    obtain ⟨cx0, fx0⟩ := cell1 HKx6.out
    have lty := lt_of_block HKy6.out
    obtain ⟨cy0, fy0⟩ := cell1 HKy6.out
    have ltz := lt_of_block HKz6.out
    obtain ⟨cz0, fz0⟩ := cell1 HKz6.out
    refine take1 (i := 0) (v := ?v25) (some 22) rfl rfl (by kernel_rfl) (by kernel_rfl) (by kernel_rfl) (fun _ _ _ h => h) (Or.inl ⟨by rfl, ?y25⟩) (by assumption) ?r25
    case y25 => (intro w hSw; (try dsimp only at hSw); go_simp; (first | done | with_reducible rfl))
    try simp only [Act.put, List.setIfInBounds_toArray, List.set_cons_zero, List.set_cons_succ]
    refine take1 (i := 1) (v := ?v26) (some 23) rfl rfl (by kernel_rfl) (by kernel_rfl) (by kernel_rfl) (fun _ _ _ h => h) (Or.inl ⟨by rfl, ?y26⟩) (by assumption) ?r26
    case y26 => (intro w hSw; (try dsimp only at hSw); go_simp; (first | done | with_reducible rfl))
    try simp only [Act.put, List.setIfInBounds_toArray, List.set_cons_zero, List.set_cons_succ]
    refine take1 (i := 2) (v := ?v27) (some 24) rfl rfl (by kernel_rfl) (by kernel_rfl) (by kernel_rfl) (fun _ _ _ h => h) (Or.inl ⟨by rfl, ?y27⟩) (by assumption) ?r27
    case y27 => (intro w hSw; (try dsimp only at hSw); go_simp; (first | done | with_reducible rfl))
    try simp only [Act.put, List.setIfInBounds_toArray, List.set_cons_zero, List.set_cons_succ]
    refine take1 (i := 4) (v := ?v28) (some 26) rfl rfl (by kernel_rfl) (by kernel_rfl) (by kernel_rfl) (fun _ _ _ h => h) (Or.inl ⟨by rfl, ?y28⟩) (by assumption) ?r28
    case y28 => (intro w hSw; (try dsimp only at hSw); go_simp; (first | done | with_reducible rfl))
    try simp only [Act.put, List.setIfInBounds_toArray, List.set_cons_zero, List.set_cons_succ]
    refine take1 (i := 5) (v := ?v29) (some 27) rfl rfl (by kernel_rfl) (by kernel_rfl) (by kernel_rfl) (fun _ _ _ h => h) (Or.inl ⟨by rfl, ?y29⟩) (by assumption) ?r29
    case y29 => (intro w hSw; (try dsimp only at hSw); go_simp; (first | done | with_reducible rfl))
    try simp only [Act.put, List.setIfInBounds_toArray, List.set_cons_zero, List.set_cons_succ]
    refine wpAnyH_ready (rs := [3, 12]) (by kernel_rfl) (by simp) ?_
    refine AllReadyH.cons rfl (fun K hK => ?_) (AllReadyH.cons rfl (fun K hK => ?_) AllReadyH.nil)
    · go_simp
      go_at_call 63
      refine (l7Value_any _ _ us xs _ HRu6.out HRx6.out HO.out.1).mono ?_
      rintro e w7 ⟨rfl, hb⟩
      have HB7 : Hid (Below w.heap.size w w7) := Lib.hid (HB6.out.trans (hb.mono HB6.out.size))
      have HZ7 : Hid (w6.heap.size ≤ w7.heap.size) := Lib.hid hb.size
      have HRu7 := Lib.hid (HRu0.out.below HB7.out (Nat.le_refl _))
      have HRx7 := Lib.hid (HRx0.out.below HB7.out (Nat.le_refl _))
      have HRy7 := Lib.hid (HRy0.out.below HB7.out (Nat.le_refl _))
      have HKx7 := Lib.hid ((hb.block _ (lt_of_block HKx6.out)).trans HKx6.out)
      have HKy7 := Lib.hid ((hb.block _ (lt_of_block HKy6.out)).trans HKy6.out)
      have HKz7 := Lib.hid ((hb.block _ (lt_of_block HKz6.out)).trans HKz6.out)
      clear hb
      clear cx0 fx0 ltx cy0 fy0 lty cz0 fz0 ltz
      have ltx := lt_of_block HKx7.out
      obtain ⟨cx0, fx0⟩ := cell1 HKx7.out
      have lty := lt_of_block HKy7.out
      obtain ⟨cy0, fy0⟩ := cell1 HKy7.out
      have ltz := lt_of_block HKz7.out
      obtain ⟨cz0, fz0⟩ := cell1 HKz7.out
      try go_simp
      refine hK.out _ _ (⟨cx0, cy0⟩) (fun hHeld => ?_)
      clear hK K
      try simp only [Act.put, List.setIfInBounds_toArray, List.set_cons_zero, List.set_cons_succ]
      refine wpAnyH_ready (rs := [6, 12]) (by kernel_rfl) (by simp) ?_
      refine AllReadyH.cons rfl (fun K hK => ?_) (AllReadyH.cons rfl (fun K hK => ?_) AllReadyH.nil)
      · go_simp
        go_at_call 63
        refine (l7Value_any _ _ us ys _ HRu7.out HRy7.out HO.out.2).mono ?_
        rintro e w8 ⟨rfl, hb⟩
        have HB8 : Hid (Below w.heap.size w w8) := Lib.hid (HB7.out.trans (hb.mono HB7.out.size))
        have HZ8 : Hid (w7.heap.size ≤ w8.heap.size) := Lib.hid hb.size
        have HRu8 := Lib.hid (HRu0.out.below HB8.out (Nat.le_refl _))
        have HRx8 := Lib.hid (HRx0.out.below HB8.out (Nat.le_refl _))
        have HRy8 := Lib.hid (HRy0.out.below HB8.out (Nat.le_refl _))
        have HKx8 := Lib.hid ((hb.block _ (lt_of_block HKx7.out)).trans HKx7.out)
        have HKy8 := Lib.hid ((hb.block _ (lt_of_block HKy7.out)).trans HKy7.out)
        have HKz8 := Lib.hid ((hb.block _ (lt_of_block HKz7.out)).trans HKz7.out)
        clear hb
        clear cx0 fx0 ltx cy0 fy0 lty cz0 fz0 ltz
        have ltx := lt_of_block HKx8.out
        obtain ⟨cx0, fx0⟩ := cell1 HKx8.out
        have lty := lt_of_block HKy8.out
        obtain ⟨cy0, fy0⟩ := cell1 HKy8.out
        have ltz := lt_of_block HKz8.out
        obtain ⟨cz0, fz0⟩ := cell1 HKz8.out
        try go_simp
        refine hK.out _ _ (⟨cx0, cy0⟩) (fun hHeld => ?_)
        clear hK K
        try simp only [Act.put, List.setIfInBounds_toArray, List.set_cons_zero, List.set_cons_succ]
        refine take1 (i := 7) (v := ?v30) (some 29) rfl rfl (by kernel_rfl) (by kernel_rfl) (by kernel_rfl) (fun _ _ _ h => h) (Or.inl ⟨by rfl, ?y30⟩) (by assumption) ?r30
        case y30 => (intro w hSw; (try dsimp only at hSw); go_simp; (first | done | with_reducible rfl))
        try simp only [Act.put, List.setIfInBounds_toArray, List.set_cons_zero, List.set_cons_succ]
        refine wpAnyH_ready (rs := [8, 12]) (by kernel_rfl) (by simp) ?_
        refine AllReadyH.cons rfl (fun K hK => ?_) (AllReadyH.cons rfl (fun K hK => ?_) AllReadyH.nil)
        · go_simp
          go_at_call 58
          refine (l7Proper_any _ us (valA us xs - valA us ys) _ HRu8.out HS.out HO.out.1.1 (by omega) qs r HP.out).mono ?_
          rintro e w9 ⟨⟨s1, rfl, ho⟩, hb⟩
          have HB9 : Hid (Below w.heap.size w w9) := Lib.hid (HB8.out.trans (hb.mono HB8.out.size))
          have HZ9 : Hid (w8.heap.size ≤ w9.heap.size) := Lib.hid hb.size
          have HRu9 := Lib.hid (HRu0.out.below HB9.out (Nat.le_refl _))
          have HRx9 := Lib.hid (HRx0.out.below HB9.out (Nat.le_refl _))
          have HRy9 := Lib.hid (HRy0.out.below HB9.out (Nat.le_refl _))
          have HKx9 := Lib.hid ((hb.block _ (lt_of_block HKx8.out)).trans HKx8.out)
          have HKy9 := Lib.hid ((hb.block _ (lt_of_block HKy8.out)).trans HKy8.out)
          have HKz9 := Lib.hid ((hb.block _ (lt_of_block HKz8.out)).trans HKz8.out)
          clear hb
          obtain ⟨pv, kv, rfl⟩ := ho.form
          have HOv9 := Lib.hid (ho)
          clear ho
          clear cx0 fx0 ltx cy0 fy0 lty cz0 fz0 ltz
          have ltx := lt_of_block HKx9.out
          obtain ⟨cx0, fx0⟩ := cell1 HKx9.out
          have lty := lt_of_block HKy9.out
          obtain ⟨cy0, fy0⟩ := cell1 HKy9.out
          have ltz := lt_of_block HKz9.out
          obtain ⟨cz0, fz0⟩ := cell1 HKz9.out
          try go_simp
          refine hK.out _ _ (⟨cx0, cy0⟩) (fun hHeld => ?_)
          clear hK K
          try simp only [Act.put, List.setIfInBounds_toArray, List.set_cons_zero, List.set_cons_succ]
          refine take1 (i := 9) (v := ?v31) (some 21) rfl rfl (by kernel_rfl) (by kernel_rfl) (by kernel_rfl) (fun _ _ _ h => h) (Or.inl ⟨by rfl, ?y31⟩) (by assumption) ?r31
          case y31 => (intro w hSw; (try dsimp only at hSw); go_simp; (first | done | with_reducible rfl))
          try simp only [Act.put, List.setIfInBounds_toArray, List.set_cons_zero, List.set_cons_succ]
          refine take1 (i := 10) (v := ?v32) (some 31) rfl rfl (by kernel_rfl) (by kernel_rfl) (by kernel_rfl) (fun _ _ _ h => h) (Or.inl ⟨by rfl, ?y32⟩) (by assumption) ?r32
          case y32 => (intro w hSw; (try dsimp only at hSw); go_simp; (first | done | with_reducible rfl))
          try simp only [Act.put, List.setIfInBounds_toArray, List.set_cons_zero, List.set_cons_succ]
          refine take1 (i := 11) (v := ?v33) (some 32) rfl rfl (by kernel_rfl) (by kernel_rfl) (by kernel_rfl) (fun _ _ _ h => h) (Or.inl ⟨by rfl, ?y33⟩) (by assumption) ?r33
          case y33 => (intro w hSw; (try dsimp only at hSw); go_simp; (first | done | with_reducible rfl))
          try simp only [Act.put, List.setIfInBounds_toArray, List.set_cons_zero, List.set_cons_succ]
          refine wpAnyH_ready (rs := [12]) (by kernel_rfl) (by simp) ?_
          refine AllReadyH.cons rfl (fun K hK => ?_) AllReadyH.nil
          go_simp
          have hb : Below w9.heap.size w9 (w9.alloc (.cells #[.slice none 0 0] 50)) := (Below.refl _ _).alloc (Nat.le_refl _) _
          have hk : (w9.alloc (.cells #[.slice none 0 0] 50)).heap[w9.heap.size]? = some (.cells #[.slice none 0 0] 50 (0, 0)) := alloc_at rfl
          have hz : (w9.alloc (.cells #[.slice none 0 0] 50)).heap.size = w9.heap.size + 1 := by simp
          generalize w9.alloc (.cells #[.slice none 0 0] 50) = w10 at hb hk hz ⊢
          have HB10 : Hid (Below w.heap.size w w10) := Lib.hid (HB9.out.trans (hb.mono HB9.out.size))
          have HZ10 : Hid (w9.heap.size ≤ w10.heap.size) := Lib.hid hb.size
          have HRu10 := Lib.hid (HRu0.out.below HB10.out (Nat.le_refl _))
          have HRx10 := Lib.hid (HRx0.out.below HB10.out (Nat.le_refl _))
          have HRy10 := Lib.hid (HRy0.out.below HB10.out (Nat.le_refl _))
          have HKx10 := Lib.hid ((hb.block _ (lt_of_block HKx9.out)).trans HKx9.out)
          have HKy10 := Lib.hid ((hb.block _ (lt_of_block HKy9.out)).trans HKy9.out)
          have HKz10 := Lib.hid ((hb.block _ (lt_of_block HKz9.out)).trans HKz9.out)
          have HOv10 := Lib.hid (HOv9.out.next hb)
          have HKo10 := Lib.hid hk
          replace HZ10 : Hid (w9.heap.size < w10.heap.size) := Lib.hid (by omega)
          have HE10 := Lib.hid hz
          clear hb hk hz
          clear cx0 fx0 ltx cy0 fy0 lty cz0 fz0 ltz
          have ltx := lt_of_block HKx10.out
          obtain ⟨cx0, fx0⟩ := cell1 HKx10.out
          have lty := lt_of_block HKy10.out
          obtain ⟨cy0, fy0⟩ := cell1 HKy10.out
          have ltz := lt_of_block HKz10.out
          obtain ⟨cz0, fz0⟩ := cell1 HKz10.out
          have lto := lt_of_block HKo10.out
          obtain ⟨co0, fo0⟩ := cell1 HKo10.out
          refine hK.out _ _ (⟨cx0, cy0⟩) (fun hHeld => ?_)
          clear hK K
          try simp only [Act.put, List.setIfInBounds_toArray, List.set_cons_zero, List.set_cons_succ]
          refine wpAnyH_ready (rs := [13]) (by kernel_rfl) (by simp) ?_
          refine AllReadyH.cons rfl (fun K hK => ?_) AllReadyH.nil
          go_simp
          have hko := box1_set HKo10.out (.slice pv qs.length kv)
          have hm : Btw w9.heap.size (w9.heap.size + 1) w10 (w10.setCell ⟨w9.heap.size, 0, none⟩ (.slice pv qs.length kv)) := (Btw.refl w9.heap.size (w9.heap.size + 1) w10).setCell (p := ⟨w9.heap.size, 0, none⟩) (Nat.le_refl _) (Nat.lt_succ_self _) _
          generalize w10.setCell ⟨w9.heap.size, 0, none⟩ (.slice pv qs.length kv) = w11 at hko hm ⊢
          have HZ11 : Hid (w10.heap.size ≤ w11.heap.size) := Lib.hid hm.size
          have HB11 : Hid (Below w.heap.size w w11) := Lib.hid (HB10.out.trans (hm.below.mono (by have := HZ1.out; have := HZ2.out; have := HZ3.out; have := HZ4.out; have := HZ5.out; have := HZ6.out; have := HZ7.out; have := HZ8.out; have := HZ9.out; have := HZ10.out; have := HB0.out.size; omega)))
          have HRu11 := Lib.hid (HRu0.out.below HB11.out (Nat.le_refl _))
          have HRx11 := Lib.hid (HRx0.out.below HB11.out (Nat.le_refl _))
          have HRy11 := Lib.hid (HRy0.out.below HB11.out (Nat.le_refl _))
          have HKx11 := Lib.hid ((hm.block _ (by have := lt_of_block HKx10.out; have := HZ1.out; have := HZ2.out; have := HZ3.out; have := HZ4.out; have := HZ5.out; have := HZ6.out; have := HZ7.out; have := HZ8.out; have := HZ9.out; have := HZ10.out; omega)).trans HKx10.out)
          have HKy11 := Lib.hid ((hm.block _ (by have := lt_of_block HKy10.out; have := HZ1.out; have := HZ2.out; have := HZ3.out; have := HZ4.out; have := HZ5.out; have := HZ6.out; have := HZ7.out; have := HZ8.out; have := HZ9.out; have := HZ10.out; omega)).trans HKy10.out)
          have HKz11 := Lib.hid ((hm.block _ (by have := lt_of_block HKz10.out; have := HZ1.out; have := HZ2.out; have := HZ3.out; have := HZ4.out; have := HZ5.out; have := HZ6.out; have := HZ7.out; have := HZ8.out; have := HZ9.out; have := HZ10.out; omega)).trans HKz10.out)
          have HOv11 := Lib.hid (HOv10.out.btw hm (by have := HZ1.out; have := HZ2.out; have := HZ3.out; have := HZ4.out; have := HZ5.out; have := HZ6.out; have := HZ7.out; have := HZ8.out; have := HZ9.out; have := HZ10.out; omega))
          clear hm
          have HKo11 := Lib.hid (hko)
          clear hko
          clear cx0 fx0 ltx cy0 fy0 lty cz0 fz0 ltz co0 fo0 lto
          have ltx := lt_of_block HKx11.out
          obtain ⟨cx0, fx0⟩ := cell1 HKx11.out
          have lty := lt_of_block HKy11.out
          obtain ⟨cy0, fy0⟩ := cell1 HKy11.out
          have ltz := lt_of_block HKz11.out
          obtain ⟨cz0, fz0⟩ := cell1 HKz11.out
          have lto := lt_of_block HKo11.out
          obtain ⟨co0, fo0⟩ := cell1 HKo11.out
          refine hK.out _ _ (⟨cx0, cy0⟩) (fun hHeld => ?_)
          clear hK K
          try simp only [Act.put]
          refine take1 (i := 14) (v := ?v34) (some 9) rfl rfl (by kernel_rfl) (by kernel_rfl) (by kernel_rfl) (fun _ _ _ h => h) (Or.inl ⟨by rfl, ?y34⟩) (by assumption) ?r34
          case y34 => (intro w hSw; (try dsimp only at hSw); go_simp; (first | done | with_reducible rfl))
          try simp only [Act.put, List.setIfInBounds_toArray, List.set_cons_zero, List.set_cons_succ]
          refine wpAnyH_done (by kernel_rfl) ?_ _
          go_wp2_with fail
          exact bodyPost_ret (v := .tuple #[.agg #[.slice pv qs.length kv], .bool r]) (by simp [results, Try.results36, go_sem, cz0]) rfl ⟨⟨_, rfl, (OwA.set HOv11.out (a := ⟨w.heap.size + 2, 0, none⟩) (by show w.heap.size + 2 < _; have := hlz; have := HZ1.out; have := HZ2.out; have := HZ3.out; have := HZ4.out; have := HZ5.out; have := HZ6.out; have := HZ7.out; have := HZ8.out; have := HZ9.out; have := HZ10.out; have := HZ11.out;  omega) _).mono (by have := HZ1.out; have := HZ2.out; have := HZ3.out; have := HZ4.out; have := HZ5.out; have := HZ6.out; have := HZ7.out; have := HZ8.out; have := HZ9.out; have := HZ10.out; have := HZ11.out;  omega) (by simp [World.setCell] <;> (have := HZ1.out; have := HZ2.out; have := HZ3.out; have := HZ4.out; have := HZ5.out; have := HZ6.out; have := HZ7.out; have := HZ8.out; have := HZ9.out; have := HZ10.out; have := HZ11.out;  omega))⟩, HB11.out.setCell (p := ⟨w.heap.size + 2, 0, none⟩) (by show w.heap.size ≤ w.heap.size + 2; omega) _⟩
        · go_simp
          have hb : Below w8.heap.size w8 (w8.alloc (.cells #[.slice none 0 0] 50)) := (Below.refl _ _).alloc (Nat.le_refl _) _
          have hk : (w8.alloc (.cells #[.slice none 0 0] 50)).heap[w8.heap.size]? = some (.cells #[.slice none 0 0] 50 (0, 0)) := alloc_at rfl
          have hz : (w8.alloc (.cells #[.slice none 0 0] 50)).heap.size = w8.heap.size + 1 := by simp
          generalize w8.alloc (.cells #[.slice none 0 0] 50) = w9 at hb hk hz ⊢
          have HB9 : Hid (Below w.heap.size w w9) := Lib.hid (HB8.out.trans (hb.mono HB8.out.size))
          have HZ9 : Hid (w8.heap.size ≤ w9.heap.size) := Lib.hid hb.size
          have HRu9 := Lib.hid (HRu0.out.below HB9.out (Nat.le_refl _))
          have HRx9 := Lib.hid (HRx0.out.below HB9.out (Nat.le_refl _))
          have HRy9 := Lib.hid (HRy0.out.below HB9.out (Nat.le_refl _))
          have HKx9 := Lib.hid ((hb.block _ (lt_of_block HKx8.out)).trans HKx8.out)
          have HKy9 := Lib.hid ((hb.block _ (lt_of_block HKy8.out)).trans HKy8.out)
          have HKz9 := Lib.hid ((hb.block _ (lt_of_block HKz8.out)).trans HKz8.out)
          have HKo9 := Lib.hid hk
          replace HZ9 : Hid (w8.heap.size < w9.heap.size) := Lib.hid (by omega)
          have HE9 := Lib.hid hz
          clear hb hk hz
          clear cx0 fx0 ltx cy0 fy0 lty cz0 fz0 ltz
          have ltx := lt_of_block HKx9.out
          obtain ⟨cx0, fx0⟩ := cell1 HKx9.out
          have lty := lt_of_block HKy9.out
          obtain ⟨cy0, fy0⟩ := cell1 HKy9.out
          have ltz := lt_of_block HKz9.out
          obtain ⟨cz0, fz0⟩ := cell1 HKz9.out
          have lto := lt_of_block HKo9.out
          obtain ⟨co0, fo0⟩ := cell1 HKo9.out
          refine hK.out _ _ (⟨cx0, cy0⟩) (fun hHeld => ?_)
          clear hK K
          try simp only [Act.put, List.setIfInBounds_toArray, List.set_cons_zero, List.set_cons_succ]
          refine wpAnyH_ready (rs := [8]) (by kernel_rfl) (by simp) ?_
          refine AllReadyH.cons rfl (fun K hK => ?_) AllReadyH.nil
          go_simp
          go_at_call 58
          refine (l7Proper_any _ us (valA us xs - valA us ys) _ HRu9.out HS.out HO.out.1.1 (by omega) qs r HP.out).mono ?_
          rintro e w10 ⟨⟨s1, rfl, ho⟩, hb⟩
          have HB10 : Hid (Below w.heap.size w w10) := Lib.hid (HB9.out.trans (hb.mono HB9.out.size))
          have HZ10 : Hid (w9.heap.size ≤ w10.heap.size) := Lib.hid hb.size
          have HRu10 := Lib.hid (HRu0.out.below HB10.out (Nat.le_refl _))
          have HRx10 := Lib.hid (HRx0.out.below HB10.out (Nat.le_refl _))
          have HRy10 := Lib.hid (HRy0.out.below HB10.out (Nat.le_refl _))
          have HKx10 := Lib.hid ((hb.block _ (lt_of_block HKx9.out)).trans HKx9.out)
          have HKy10 := Lib.hid ((hb.block _ (lt_of_block HKy9.out)).trans HKy9.out)
          have HKz10 := Lib.hid ((hb.block _ (lt_of_block HKz9.out)).trans HKz9.out)
          have HKo10 := Lib.hid ((hb.block _ (lt_of_block HKo9.out)).trans HKo9.out)
          clear hb
          obtain ⟨pv, kv, rfl⟩ := ho.form
          have HOv10 := Lib.hid (ho)
          clear ho
          clear cx0 fx0 ltx cy0 fy0 lty cz0 fz0 ltz co0 fo0 lto
          have ltx := lt_of_block HKx10.out
          obtain ⟨cx0, fx0⟩ := cell1 HKx10.out
          have lty := lt_of_block HKy10.out
          obtain ⟨cy0, fy0⟩ := cell1 HKy10.out
          have ltz := lt_of_block HKz10.out
          obtain ⟨cz0, fz0⟩ := cell1 HKz10.out
          have lto := lt_of_block HKo10.out
          obtain ⟨co0, fo0⟩ := cell1 HKo10.out
          try go_simp
          refine hK.out _ _ (⟨cx0, cy0⟩) (fun hHeld => ?_)
          clear hK K
          try simp only [Act.put, List.setIfInBounds_toArray, List.set_cons_zero, List.set_cons_succ]
          refine take1 (i := 9) (v := ?v35) (some 21) rfl rfl (by kernel_rfl) (by kernel_rfl) (by kernel_rfl) (fun _ _ _ h => h) (Or.inl ⟨by rfl, ?y35⟩) (by assumption) ?r35
          case y35 => (intro w hSw; (try dsimp only at hSw); go_simp; (first | done | with_reducible rfl))
          try simp only [Act.put, List.setIfInBounds_toArray, List.set_cons_zero, List.set_cons_succ]
          refine take1 (i := 10) (v := ?v36) (some 31) rfl rfl (by kernel_rfl) (by kernel_rfl) (by kernel_rfl) (fun _ _ _ h => h) (Or.inl ⟨by rfl, ?y36⟩) (by assumption) ?r36
          case y36 => (intro w hSw; (try dsimp only at hSw); go_simp; (first | done | with_reducible rfl))
          try simp only [Act.put, List.setIfInBounds_toArray, List.set_cons_zero, List.set_cons_succ]
          refine take1 (i := 11) (v := ?v37) (some 32) rfl rfl (by kernel_rfl) (by kernel_rfl) (by kernel_rfl) (fun _ _ _ h => h) (Or.inl ⟨by rfl, ?y37⟩) (by assumption) ?r37
          case y37 => (intro w hSw; (try dsimp only at hSw); go_simp; (first | done | with_reducible rfl))
          try simp only [Act.put, List.setIfInBounds_toArray, List.set_cons_zero, List.set_cons_succ]
          refine wpAnyH_ready (rs := [13]) (by kernel_rfl) (by simp) ?_
          refine AllReadyH.cons rfl (fun K hK => ?_) AllReadyH.nil
          go_simp
          have hko := box1_set HKo10.out (.slice pv qs.length kv)
          have hm : Btw w8.heap.size (w8.heap.size + 1) w10 (w10.setCell ⟨w8.heap.size, 0, none⟩ (.slice pv qs.length kv)) := (Btw.refl w8.heap.size (w8.heap.size + 1) w10).setCell (p := ⟨w8.heap.size, 0, none⟩) (Nat.le_refl _) (Nat.lt_succ_self _) _
          generalize w10.setCell ⟨w8.heap.size, 0, none⟩ (.slice pv qs.length kv) = w11 at hko hm ⊢
          have HZ11 : Hid (w10.heap.size ≤ w11.heap.size) := Lib.hid hm.size
          have HB11 : Hid (Below w.heap.size w w11) := Lib.hid (HB10.out.trans (hm.below.mono (by have := HZ1.out; have := HZ2.out; have := HZ3.out; have := HZ4.out; have := HZ5.out; have := HZ6.out; have := HZ7.out; have := HZ8.out; have := HZ9.out; have := HZ10.out; have := HB0.out.size; omega)))
          have HRu11 := Lib.hid (HRu0.out.below HB11.out (Nat.le_refl _))
          have HRx11 := Lib.hid (HRx0.out.below HB11.out (Nat.le_refl _))
          have HRy11 := Lib.hid (HRy0.out.below HB11.out (Nat.le_refl _))
          have HKx11 := Lib.hid ((hm.block _ (by have := lt_of_block HKx10.out; have := HZ1.out; have := HZ2.out; have := HZ3.out; have := HZ4.out; have := HZ5.out; have := HZ6.out; have := HZ7.out; have := HZ8.out; have := HZ9.out; have := HZ10.out; omega)).trans HKx10.out)
          have HKy11 := Lib.hid ((hm.block _ (by have := lt_of_block HKy10.out; have := HZ1.out; have := HZ2.out; have := HZ3.out; have := HZ4.out; have := HZ5.out; have := HZ6.out; have := HZ7.out; have := HZ8.out; have := HZ9.out; have := HZ10.out; omega)).trans HKy10.out)
          have HKz11 := Lib.hid ((hm.block _ (by have := lt_of_block HKz10.out; have := HZ1.out; have := HZ2.out; have := HZ3.out; have := HZ4.out; have := HZ5.out; have := HZ6.out; have := HZ7.out; have := HZ8.out; have := HZ9.out; have := HZ10.out; omega)).trans HKz10.out)
          have HOv11 := Lib.hid (HOv10.out.btw hm (by have := HZ1.out; have := HZ2.out; have := HZ3.out; have := HZ4.out; have := HZ5.out; have := HZ6.out; have := HZ7.out; have := HZ8.out; have := HZ9.out; have := HZ10.out; omega))
          clear hm
          have HKo11 := Lib.hid (hko)
          clear hko
          clear cx0 fx0 ltx cy0 fy0 lty cz0 fz0 ltz co0 fo0 lto
          have ltx := lt_of_block HKx11.out
          obtain ⟨cx0, fx0⟩ := cell1 HKx11.out
          have lty := lt_of_block HKy11.out
          obtain ⟨cy0, fy0⟩ := cell1 HKy11.out
          have ltz := lt_of_block HKz11.out
          obtain ⟨cz0, fz0⟩ := cell1 HKz11.out
          have lto := lt_of_block HKo11.out
          obtain ⟨co0, fo0⟩ := cell1 HKo11.out
          refine hK.out _ _ (⟨cx0, cy0⟩) (fun hHeld => ?_)
          clear hK K
          try simp only [Act.put]
          refine take1 (i := 14) (v := ?v38) (some 9) rfl rfl (by kernel_rfl) (by kernel_rfl) (by kernel_rfl) (fun _ _ _ h => h) (Or.inl ⟨by rfl, ?y38⟩) (by assumption) ?r38
          case y38 => (intro w hSw; (try dsimp only at hSw); go_simp; (first | done | with_reducible rfl))
          try simp only [Act.put, List.setIfInBounds_toArray, List.set_cons_zero, List.set_cons_succ]
          refine wpAnyH_done (by kernel_rfl) ?_ _
          go_wp2_with fail
          exact bodyPost_ret (v := .tuple #[.agg #[.slice pv qs.length kv], .bool r]) (by simp [results, Try.results36, go_sem, cz0]) rfl ⟨⟨_, rfl, (OwA.set HOv11.out (a := ⟨w.heap.size + 2, 0, none⟩) (by show w.heap.size + 2 < _; have := hlz; have := HZ1.out; have := HZ2.out; have := HZ3.out; have := HZ4.out; have := HZ5.out; have := HZ6.out; have := HZ7.out; have := HZ8.out; have := HZ9.out; have := HZ10.out; have := HZ11.out;  omega) _).mono (by have := HZ1.out; have := HZ2.out; have := HZ3.out; have := HZ4.out; have := HZ5.out; have := HZ6.out; have := HZ7.out; have := HZ8.out; have := HZ9.out; have := HZ10.out; have := HZ11.out;  omega) (by simp [World.setCell] <;> (have := HZ1.out; have := HZ2.out; have := HZ3.out; have := HZ4.out; have := HZ5.out; have := HZ6.out; have := HZ7.out; have := HZ8.out; have := HZ9.out; have := HZ10.out; have := HZ11.out;  omega))⟩, HB11.out.setCell (p := ⟨w.heap.size + 2, 0, none⟩) (by show w.heap.size ≤ w.heap.size + 2; omega) _⟩
      · go_simp
        have hb : Below w7.heap.size w7 (w7.alloc (.cells #[.slice none 0 0] 50)) := (Below.refl _ _).alloc (Nat.le_refl _) _
        have hk : (w7.alloc (.cells #[.slice none 0 0] 50)).heap[w7.heap.size]? = some (.cells #[.slice none 0 0] 50 (0, 0)) := alloc_at rfl
        have hz : (w7.alloc (.cells #[.slice none 0 0] 50)).heap.size = w7.heap.size + 1 := by simp
        generalize w7.alloc (.cells #[.slice none 0 0] 50) = w8 at hb hk hz ⊢
        have HB8 : Hid (Below w.heap.size w w8) := Lib.hid (HB7.out.trans (hb.mono HB7.out.size))
        have HZ8 : Hid (w7.heap.size ≤ w8.heap.size) := Lib.hid hb.size
        have HRu8 := Lib.hid (HRu0.out.below HB8.out (Nat.le_refl _))
        have HRx8 := Lib.hid (HRx0.out.below HB8.out (Nat.le_refl _))
        have HRy8 := Lib.hid (HRy0.out.below HB8.out (Nat.le_refl _))
        have HKx8 := Lib.hid ((hb.block _ (lt_of_block HKx7.out)).trans HKx7.out)
        have HKy8 := Lib.hid ((hb.block _ (lt_of_block HKy7.out)).trans HKy7.out)
        have HKz8 := Lib.hid ((hb.block _ (lt_of_block HKz7.out)).trans HKz7.out)
        have HKo8 := Lib.hid hk
        replace HZ8 : Hid (w7.heap.size < w8.heap.size) := Lib.hid (by omega)
        have HE8 := Lib.hid hz
        clear hb hk hz
        clear cx0 fx0 ltx cy0 fy0 lty cz0 fz0 ltz
        have ltx := lt_of_block HKx8.out
        obtain ⟨cx0, fx0⟩ := cell1 HKx8.out
        have lty := lt_of_block HKy8.out
        obtain ⟨cy0, fy0⟩ := cell1 HKy8.out
        have ltz := lt_of_block HKz8.out
        obtain ⟨cz0, fz0⟩ := cell1 HKz8.out
        have lto := lt_of_block HKo8.out
        obtain ⟨co0, fo0⟩ := cell1 HKo8.out
        refine hK.out _ _ (⟨cx0, cy0⟩) (fun hHeld => ?_)
        clear hK K
        try simp only [Act.put, List.setIfInBounds_toArray, List.set_cons_zero, List.set_cons_succ]
        refine wpAnyH_ready (rs := [6]) (by kernel_rfl) (by simp) ?_
        refine AllReadyH.cons rfl (fun K hK => ?_) AllReadyH.nil
        go_simp
        go_at_call 63
        refine (l7Value_any _ _ us ys _ HRu8.out HRy8.out HO.out.2).mono ?_
        rintro e w9 ⟨rfl, hb⟩
        have HB9 : Hid (Below w.heap.size w w9) := Lib.hid (HB8.out.trans (hb.mono HB8.out.size))
        have HZ9 : Hid (w8.heap.size ≤ w9.heap.size) := Lib.hid hb.size
        have HRu9 := Lib.hid (HRu0.out.below HB9.out (Nat.le_refl _))
        have HRx9 := Lib.hid (HRx0.out.below HB9.out (Nat.le_refl _))
        have HRy9 := Lib.hid (HRy0.out.below HB9.out (Nat.le_refl _))
        have HKx9 := Lib.hid ((hb.block _ (lt_of_block HKx8.out)).trans HKx8.out)
        have HKy9 := Lib.hid ((hb.block _ (lt_of_block HKy8.out)).trans HKy8.out)
        have HKz9 := Lib.hid ((hb.block _ (lt_of_block HKz8.out)).trans HKz8.out)
        have HKo9 := Lib.hid ((hb.block _ (lt_of_block HKo8.out)).trans HKo8.out)
        clear hb
        clear cx0 fx0 ltx cy0 fy0 lty cz0 fz0 ltz co0 fo0 lto
        have ltx := lt_of_block HKx9.out
        obtain ⟨cx0, fx0⟩ := cell1 HKx9.out
        have lty := lt_of_block HKy9.out
        obtain ⟨cy0, fy0⟩ := cell1 HKy9.out
        have ltz := lt_of_block HKz9.out
        obtain ⟨cz0, fz0⟩ := cell1 HKz9.out
        have lto := lt_of_block HKo9.out
        obtain ⟨co0, fo0⟩ := cell1 HKo9.out
        try go_simp
        refine hK.out _ _ (⟨cx0, cy0⟩) (fun hHeld => ?_)
        clear hK K
        try simp only [Act.put, List.setIfInBounds_toArray, List.set_cons_zero, List.set_cons_succ]
        refine take1 (i := 7) (v := ?v39) (some 29) rfl rfl (by kernel_rfl) (by kernel_rfl) (by kernel_rfl) (fun _ _ _ h => h) (Or.inl ⟨by rfl, ?y39⟩) (by assumption) ?r39
        case y39 => (intro w hSw; (try dsimp only at hSw); go_simp; (first | done | with_reducible rfl))
        try simp only [Act.put, List.setIfInBounds_toArray, List.set_cons_zero, List.set_cons_succ]
        refine wpAnyH_ready (rs := [8]) (by kernel_rfl) (by simp) ?_
        refine AllReadyH.cons rfl (fun K hK => ?_) AllReadyH.nil
        go_simp
        go_at_call 58
        refine (l7Proper_any _ us (valA us xs - valA us ys) _ HRu9.out HS.out HO.out.1.1 (by omega) qs r HP.out).mono ?_
        rintro e w10 ⟨⟨s1, rfl, ho⟩, hb⟩
        have HB10 : Hid (Below w.heap.size w w10) := Lib.hid (HB9.out.trans (hb.mono HB9.out.size))
        have HZ10 : Hid (w9.heap.size ≤ w10.heap.size) := Lib.hid hb.size
        have HRu10 := Lib.hid (HRu0.out.below HB10.out (Nat.le_refl _))
        have HRx10 := Lib.hid (HRx0.out.below HB10.out (Nat.le_refl _))
        have HRy10 := Lib.hid (HRy0.out.below HB10.out (Nat.le_refl _))
        have HKx10 := Lib.hid ((hb.block _ (lt_of_block HKx9.out)).trans HKx9.out)
        have HKy10 := Lib.hid ((hb.block _ (lt_of_block HKy9.out)).trans HKy9.out)
        have HKz10 := Lib.hid ((hb.block _ (lt_of_block HKz9.out)).trans HKz9.out)
        have HKo10 := Lib.hid ((hb.block _ (lt_of_block HKo9.out)).trans HKo9.out)
        clear hb
        obtain ⟨pv, kv, rfl⟩ := ho.form
        have HOv10 := Lib.hid (ho)
        clear ho
        clear cx0 fx0 ltx cy0 fy0 lty cz0 fz0 ltz co0 fo0 lto
        have ltx := lt_of_block HKx10.out
        obtain ⟨cx0, fx0⟩ := cell1 HKx10.out
        have lty := lt_of_block HKy10.out
        obtain ⟨cy0, fy0⟩ := cell1 HKy10.out
        have ltz := lt_of_block HKz10.out
        obtain ⟨cz0, fz0⟩ := cell1 HKz10.out
        have lto := lt_of_block HKo10.out
        obtain ⟨co0, fo0⟩ := cell1 HKo10.out
        try go_simp
        refine hK.out _ _ (⟨cx0, cy0⟩) (fun hHeld => ?_)
        clear hK K
        try simp only [Act.put, List.setIfInBounds_toArray, List.set_cons_zero, List.set_cons_succ]
        refine take1 (i := 9) (v := ?v40) (some 21) rfl rfl (by kernel_rfl) (by kernel_rfl) (by kernel_rfl) (fun _ _ _ h => h) (Or.inl ⟨by rfl, ?y40⟩) (by assumption) ?r40
        case y40 => (intro w hSw; (try dsimp only at hSw); go_simp; (first | done | with_reducible rfl))
        try simp only [Act.put, List.setIfInBounds_toArray, List.set_cons_zero, List.set_cons_succ]
        refine take1 (i := 10) (v := ?v41) (some 31) rfl rfl (by kernel_rfl) (by kernel_rfl) (by kernel_rfl) (fun _ _ _ h => h) (Or.inl ⟨by rfl, ?y41⟩) (by assumption) ?r41
        case y41 => (intro w hSw; (try dsimp only at hSw); go_simp; (first | done | with_reducible rfl))
        try simp only [Act.put, List.setIfInBounds_toArray, List.set_cons_zero, List.set_cons_succ]
        refine take1 (i := 11) (v := ?v42) (some 32) rfl rfl (by kernel_rfl) (by kernel_rfl) (by kernel_rfl) (fun _ _ _ h => h) (Or.inl ⟨by rfl, ?y42⟩) (by assumption) ?r42
        case y42 => (intro w hSw; (try dsimp only at hSw); go_simp; (first | done | with_reducible rfl))
        try simp only [Act.put, List.setIfInBounds_toArray, List.set_cons_zero, List.set_cons_succ]
        refine wpAnyH_ready (rs := [13]) (by kernel_rfl) (by simp) ?_
        refine AllReadyH.cons rfl (fun K hK => ?_) AllReadyH.nil
        go_simp
        have hko := box1_set HKo10.out (.slice pv qs.length kv)
        have hm : Btw w7.heap.size (w7.heap.size + 1) w10 (w10.setCell ⟨w7.heap.size, 0, none⟩ (.slice pv qs.length kv)) := (Btw.refl w7.heap.size (w7.heap.size + 1) w10).setCell (p := ⟨w7.heap.size, 0, none⟩) (Nat.le_refl _) (Nat.lt_succ_self _) _
        generalize w10.setCell ⟨w7.heap.size, 0, none⟩ (.slice pv qs.length kv) = w11 at hko hm ⊢
        have HZ11 : Hid (w10.heap.size ≤ w11.heap.size) := Lib.hid hm.size
        have HB11 : Hid (Below w.heap.size w w11) := Lib.hid (HB10.out.trans (hm.below.mono (by have := HZ1.out; have := HZ2.out; have := HZ3.out; have := HZ4.out; have := HZ5.out; have := HZ6.out; have := HZ7.out; have := HZ8.out; have := HZ9.out; have := HZ10.out; have := HB0.out.size; omega)))
        have HRu11 := Lib.hid (HRu0.out.below HB11.out (Nat.le_refl _))
        have HRx11 := Lib.hid (HRx0.out.below HB11.out (Nat.le_refl _))
        have HRy11 := Lib.hid (HRy0.out.below HB11.out (Nat.le_refl _))
        have HKx11 := Lib.hid ((hm.block _ (by have := lt_of_block HKx10.out; have := HZ1.out; have := HZ2.out; have := HZ3.out; have := HZ4.out; have := HZ5.out; have := HZ6.out; have := HZ7.out; have := HZ8.out; have := HZ9.out; have := HZ10.out; omega)).trans HKx10.out)
        have HKy11 := Lib.hid ((hm.block _ (by have := lt_of_block HKy10.out; have := HZ1.out; have := HZ2.out; have := HZ3.out; have := HZ4.out; have := HZ5.out; have := HZ6.out; have := HZ7.out; have := HZ8.out; have := HZ9.out; have := HZ10.out; omega)).trans HKy10.out)
        have HKz11 := Lib.hid ((hm.block _ (by have := lt_of_block HKz10.out; have := HZ1.out; have := HZ2.out; have := HZ3.out; have := HZ4.out; have := HZ5.out; have := HZ6.out; have := HZ7.out; have := HZ8.out; have := HZ9.out; have := HZ10.out; omega)).trans HKz10.out)
        have HOv11 := Lib.hid (HOv10.out.btw hm (by have := HZ1.out; have := HZ2.out; have := HZ3.out; have := HZ4.out; have := HZ5.out; have := HZ6.out; have := HZ7.out; have := HZ8.out; have := HZ9.out; have := HZ10.out; omega))
        clear hm
        have HKo11 := Lib.hid (hko)
        clear hko
        clear cx0 fx0 ltx cy0 fy0 lty cz0 fz0 ltz co0 fo0 lto
        have ltx := lt_of_block HKx11.out
        obtain ⟨cx0, fx0⟩ := cell1 HKx11.out
        have lty := lt_of_block HKy11.out
        obtain ⟨cy0, fy0⟩ := cell1 HKy11.out
        have ltz := lt_of_block HKz11.out
        obtain ⟨cz0, fz0⟩ := cell1 HKz11.out
        have lto := lt_of_block HKo11.out
        obtain ⟨co0, fo0⟩ := cell1 HKo11.out
        refine hK.out _ _ (⟨cx0, cy0⟩) (fun hHeld => ?_)
        clear hK K
        try simp only [Act.put]
        refine take1 (i := 14) (v := ?v43) (some 9) rfl rfl (by kernel_rfl) (by kernel_rfl) (by kernel_rfl) (fun _ _ _ h => h) (Or.inl ⟨by rfl, ?y43⟩) (by assumption) ?r43
        case y43 => (intro w hSw; (try dsimp only at hSw); go_simp; (first | done | with_reducible rfl))
        try simp only [Act.put, List.setIfInBounds_toArray, List.set_cons_zero, List.set_cons_succ]
        refine wpAnyH_done (by kernel_rfl) ?_ _
        go_wp2_with fail
        exact bodyPost_ret (v := .tuple #[.agg #[.slice pv qs.length kv], .bool r]) (by simp [results, Try.results36, go_sem, cz0]) rfl ⟨⟨_, rfl, (OwA.set HOv11.out (a := ⟨w.heap.size + 2, 0, none⟩) (by show w.heap.size + 2 < _; have := hlz; have := HZ1.out; have := HZ2.out; have := HZ3.out; have := HZ4.out; have := HZ5.out; have := HZ6.out; have := HZ7.out; have := HZ8.out; have := HZ9.out; have := HZ10.out; have := HZ11.out;  omega) _).mono (by have := HZ1.out; have := HZ2.out; have := HZ3.out; have := HZ4.out; have := HZ5.out; have := HZ6.out; have := HZ7.out; have := HZ8.out; have := HZ9.out; have := HZ10.out; have := HZ11.out;  omega) (by simp [World.setCell] <;> (have := HZ1.out; have := HZ2.out; have := HZ3.out; have := HZ4.out; have := HZ5.out; have := HZ6.out; have := HZ7.out; have := HZ8.out; have := HZ9.out; have := HZ10.out; have := HZ11.out;  omega))⟩, HB11.out.setCell (p := ⟨w.heap.size + 2, 0, none⟩) (by show w.heap.size ≤ w.heap.size + 2; omega) _⟩
    · go_simp
      have hb : Below w6.heap.size w6 (w6.alloc (.cells #[.slice none 0 0] 50)) := (Below.refl _ _).alloc (Nat.le_refl _) _
      have hk : (w6.alloc (.cells #[.slice none 0 0] 50)).heap[w6.heap.size]? = some (.cells #[.slice none 0 0] 50 (0, 0)) := alloc_at rfl
      have hz : (w6.alloc (.cells #[.slice none 0 0] 50)).heap.size = w6.heap.size + 1 := by simp
      generalize w6.alloc (.cells #[.slice none 0 0] 50) = w7 at hb hk hz ⊢
      have HB7 : Hid (Below w.heap.size w w7) := Lib.hid (HB6.out.trans (hb.mono HB6.out.size))
      have HZ7 : Hid (w6.heap.size ≤ w7.heap.size) := Lib.hid hb.size
      have HRu7 := Lib.hid (HRu0.out.below HB7.out (Nat.le_refl _))
      have HRx7 := Lib.hid (HRx0.out.below HB7.out (Nat.le_refl _))
      have HRy7 := Lib.hid (HRy0.out.below HB7.out (Nat.le_refl _))
      have HKx7 := Lib.hid ((hb.block _ (lt_of_block HKx6.out)).trans HKx6.out)
      have HKy7 := Lib.hid ((hb.block _ (lt_of_block HKy6.out)).trans HKy6.out)
      have HKz7 := Lib.hid ((hb.block _ (lt_of_block HKz6.out)).trans HKz6.out)
      have HKo7 := Lib.hid hk
      replace HZ7 : Hid (w6.heap.size < w7.heap.size) := Lib.hid (by omega)
      have HE7 := Lib.hid hz
      clear hb hk hz
      clear cx0 fx0 ltx cy0 fy0 lty cz0 fz0 ltz
      have ltx := lt_of_block HKx7.out
      obtain ⟨cx0, fx0⟩ := cell1 HKx7.out
      have lty := lt_of_block HKy7.out
      obtain ⟨cy0, fy0⟩ := cell1 HKy7.out
      have ltz := lt_of_block HKz7.out
      obtain ⟨cz0, fz0⟩ := cell1 HKz7.out
      have lto := lt_of_block HKo7.out
      obtain ⟨co0, fo0⟩ := cell1 HKo7.out
      refine hK.out _ _ (⟨cx0, cy0⟩) (fun hHeld => ?_)
      clear hK K
      try simp only [Act.put, List.setIfInBounds_toArray, List.set_cons_zero, List.set_cons_succ]
      refine wpAnyH_ready (rs := [3]) (by kernel_rfl) (by simp) ?_
      refine AllReadyH.cons rfl (fun K hK => ?_) AllReadyH.nil
      go_simp
      go_at_call 63
      refine (l7Value_any _ _ us xs _ HRu7.out HRx7.out HO.out.1).mono ?_
      rintro e w8 ⟨rfl, hb⟩
      have HB8 : Hid (Below w.heap.size w w8) := Lib.hid (HB7.out.trans (hb.mono HB7.out.size))
      have HZ8 : Hid (w7.heap.size ≤ w8.heap.size) := Lib.hid hb.size
      have HRu8 := Lib.hid (HRu0.out.below HB8.out (Nat.le_refl _))
      have HRx8 := Lib.hid (HRx0.out.below HB8.out (Nat.le_refl _))
      have HRy8 := Lib.hid (HRy0.out.below HB8.out (Nat.le_refl _))
      have HKx8 := Lib.hid ((hb.block _ (lt_of_block HKx7.out)).trans HKx7.out)
      have HKy8 := Lib.hid ((hb.block _ (lt_of_block HKy7.out)).trans HKy7.out)
      have HKz8 := Lib.hid ((hb.block _ (lt_of_block HKz7.out)).trans HKz7.out)
      have HKo8 := Lib.hid ((hb.block _ (lt_of_block HKo7.out)).trans HKo7.out)
      clear hb
      clear cx0 fx0 ltx cy0 fy0 lty cz0 fz0 ltz co0 fo0 lto
      have ltx := lt_of_block HKx8.out
      obtain ⟨cx0, fx0⟩ := cell1 HKx8.out
      have lty := lt_of_block HKy8.out
      obtain ⟨cy0, fy0⟩ := cell1 HKy8.out
      have ltz := lt_of_block HKz8.out
      obtain ⟨cz0, fz0⟩ := cell1 HKz8.out
      have lto := lt_of_block HKo8.out
      obtain ⟨co0, fo0⟩ := cell1 HKo8.out
      try go_simp
      refine hK.out _ _ (⟨cx0, cy0⟩) (fun hHeld => ?_)
      clear hK K
      try simp only [Act.put, List.setIfInBounds_toArray, List.set_cons_zero, List.set_cons_succ]
      refine wpAnyH_ready (rs := [6]) (by kernel_rfl) (by simp) ?_
      refine AllReadyH.cons rfl (fun K hK => ?_) AllReadyH.nil
      go_simp
      go_at_call 63
      refine (l7Value_any _ _ us ys _ HRu8.out HRy8.out HO.out.2).mono ?_
      rintro e w9 ⟨rfl, hb⟩
      have HB9 : Hid (Below w.heap.size w w9) := Lib.hid (HB8.out.trans (hb.mono HB8.out.size))
      have HZ9 : Hid (w8.heap.size ≤ w9.heap.size) := Lib.hid hb.size
      have HRu9 := Lib.hid (HRu0.out.below HB9.out (Nat.le_refl _))
      have HRx9 := Lib.hid (HRx0.out.below HB9.out (Nat.le_refl _))
      have HRy9 := Lib.hid (HRy0.out.below HB9.out (Nat.le_refl _))
      have HKx9 := Lib.hid ((hb.block _ (lt_of_block HKx8.out)).trans HKx8.out)
      have HKy9 := Lib.hid ((hb.block _ (lt_of_block HKy8.out)).trans HKy8.out)
      have HKz9 := Lib.hid ((hb.block _ (lt_of_block HKz8.out)).trans HKz8.out)
      have HKo9 := Lib.hid ((hb.block _ (lt_of_block HKo8.out)).trans HKo8.out)
      clear hb
      clear cx0 fx0 ltx cy0 fy0 lty cz0 fz0 ltz co0 fo0 lto
      have ltx := lt_of_block HKx9.out
      obtain ⟨cx0, fx0⟩ := cell1 HKx9.out
      have lty := lt_of_block HKy9.out
      obtain ⟨cy0, fy0⟩ := cell1 HKy9.out
      have ltz := lt_of_block HKz9.out
      obtain ⟨cz0, fz0⟩ := cell1 HKz9.out
      have lto := lt_of_block HKo9.out
      obtain ⟨co0, fo0⟩ := cell1 HKo9.out
      try go_simp
      refine hK.out _ _ (⟨cx0, cy0⟩) (fun hHeld => ?_)
      clear hK K
      try simp only [Act.put, List.setIfInBounds_toArray, List.set_cons_zero, List.set_cons_succ]
      refine take1 (i := 7) (v := ?v44) (some 29) rfl rfl (by kernel_rfl) (by kernel_rfl) (by kernel_rfl) (fun _ _ _ h => h) (Or.inl ⟨by rfl, ?y44⟩) (by assumption) ?r44
      case y44 => (intro w hSw; (try dsimp only at hSw); go_simp; (first | done | with_reducible rfl))
      try simp only [Act.put, List.setIfInBounds_toArray, List.set_cons_zero, List.set_cons_succ]
      refine wpAnyH_ready (rs := [8]) (by kernel_rfl) (by simp) ?_
      refine AllReadyH.cons rfl (fun K hK => ?_) AllReadyH.nil
      go_simp
      go_at_call 58
      refine (l7Proper_any _ us (valA us xs - valA us ys) _ HRu9.out HS.out HO.out.1.1 (by omega) qs r HP.out).mono ?_
      rintro e w10 ⟨⟨s1, rfl, ho⟩, hb⟩
      have HB10 : Hid (Below w.heap.size w w10) := Lib.hid (HB9.out.trans (hb.mono HB9.out.size))
      have HZ10 : Hid (w9.heap.size ≤ w10.heap.size) := Lib.hid hb.size
      have HRu10 := Lib.hid (HRu0.out.below HB10.out (Nat.le_refl _))
      have HRx10 := Lib.hid (HRx0.out.below HB10.out (Nat.le_refl _))
      have HRy10 := Lib.hid (HRy0.out.below HB10.out (Nat.le_refl _))
      have HKx10 := Lib.hid ((hb.block _ (lt_of_block HKx9.out)).trans HKx9.out)
      have HKy10 := Lib.hid ((hb.block _ (lt_of_block HKy9.out)).trans HKy9.out)
      have HKz10 := Lib.hid ((hb.block _ (lt_of_block HKz9.out)).trans HKz9.out)
      have HKo10 := Lib.hid ((hb.block _ (lt_of_block HKo9.out)).trans HKo9.out)
      clear hb
      obtain ⟨pv, kv, rfl⟩ := ho.form
      have HOv10 := Lib.hid (ho)
      clear ho
      clear cx0 fx0 ltx cy0 fy0 lty cz0 fz0 ltz co0 fo0 lto
      have ltx := lt_of_block HKx10.out
      obtain ⟨cx0, fx0⟩ := cell1 HKx10.out
      have lty := lt_of_block HKy10.out
      obtain ⟨cy0, fy0⟩ := cell1 HKy10.out
      have ltz := lt_of_block HKz10.out
      obtain ⟨cz0, fz0⟩ := cell1 HKz10.out
      have lto := lt_of_block HKo10.out
      obtain ⟨co0, fo0⟩ := cell1 HKo10.out
      try go_simp
      refine hK.out _ _ (⟨cx0, cy0⟩) (fun hHeld => ?_)
      clear hK K
      try simp only [Act.put, List.setIfInBounds_toArray, List.set_cons_zero, List.set_cons_succ]
      refine take1 (i := 9) (v := ?v45) (some 21) rfl rfl (by kernel_rfl) (by kernel_rfl) (by kernel_rfl) (fun _ _ _ h => h) (Or.inl ⟨by rfl, ?y45⟩) (by assumption) ?r45
      case y45 => (intro w hSw; (try dsimp only at hSw); go_simp; (first | done | with_reducible rfl))
      try simp only [Act.put, List.setIfInBounds_toArray, List.set_cons_zero, List.set_cons_succ]
      refine take1 (i := 10) (v := ?v46) (some 31) rfl rfl (by kernel_rfl) (by kernel_rfl) (by kernel_rfl) (fun _ _ _ h => h) (Or.inl ⟨by rfl, ?y46⟩) (by assumption) ?r46
      case y46 => (intro w hSw; (try dsimp only at hSw); go_simp; (first | done | with_reducible rfl))
      try simp only [Act.put, List.setIfInBounds_toArray, List.set_cons_zero, List.set_cons_succ]
      refine take1 (i := 11) (v := ?v47) (some 32) rfl rfl (by kernel_rfl) (by kernel_rfl) (by kernel_rfl) (fun _ _ _ h => h) (Or.inl ⟨by rfl, ?y47⟩) (by assumption) ?r47
      case y47 => (intro w hSw; (try dsimp only at hSw); go_simp; (first | done | with_reducible rfl))
      try simp only [Act.put, List.setIfInBounds_toArray, List.set_cons_zero, List.set_cons_succ]
      refine wpAnyH_ready (rs := [13]) (by kernel_rfl) (by simp) ?_
      refine AllReadyH.cons rfl (fun K hK => ?_) AllReadyH.nil
      go_simp
      have hko := box1_set HKo10.out (.slice pv qs.length kv)
      have hm : Btw w6.heap.size (w6.heap.size + 1) w10 (w10.setCell ⟨w6.heap.size, 0, none⟩ (.slice pv qs.length kv)) := (Btw.refl w6.heap.size (w6.heap.size + 1) w10).setCell (p := ⟨w6.heap.size, 0, none⟩) (Nat.le_refl _) (Nat.lt_succ_self _) _
      generalize w10.setCell ⟨w6.heap.size, 0, none⟩ (.slice pv qs.length kv) = w11 at hko hm ⊢
      have HZ11 : Hid (w10.heap.size ≤ w11.heap.size) := Lib.hid hm.size
      have HB11 : Hid (Below w.heap.size w w11) := Lib.hid (HB10.out.trans (hm.below.mono (by have := HZ1.out; have := HZ2.out; have := HZ3.out; have := HZ4.out; have := HZ5.out; have := HZ6.out; have := HZ7.out; have := HZ8.out; have := HZ9.out; have := HZ10.out; have := HB0.out.size; omega)))
      have HRu11 := Lib.hid (HRu0.out.below HB11.out (Nat.le_refl _))
      have HRx11 := Lib.hid (HRx0.out.below HB11.out (Nat.le_refl _))
      have HRy11 := Lib.hid (HRy0.out.below HB11.out (Nat.le_refl _))
      have HKx11 := Lib.hid ((hm.block _ (by have := lt_of_block HKx10.out; have := HZ1.out; have := HZ2.out; have := HZ3.out; have := HZ4.out; have := HZ5.out; have := HZ6.out; have := HZ7.out; have := HZ8.out; have := HZ9.out; have := HZ10.out; omega)).trans HKx10.out)
      have HKy11 := Lib.hid ((hm.block _ (by have := lt_of_block HKy10.out; have := HZ1.out; have := HZ2.out; have := HZ3.out; have := HZ4.out; have := HZ5.out; have := HZ6.out; have := HZ7.out; have := HZ8.out; have := HZ9.out; have := HZ10.out; omega)).trans HKy10.out)
      have HKz11 := Lib.hid ((hm.block _ (by have := lt_of_block HKz10.out; have := HZ1.out; have := HZ2.out; have := HZ3.out; have := HZ4.out; have := HZ5.out; have := HZ6.out; have := HZ7.out; have := HZ8.out; have := HZ9.out; have := HZ10.out; omega)).trans HKz10.out)
      have HOv11 := Lib.hid (HOv10.out.btw hm (by have := HZ1.out; have := HZ2.out; have := HZ3.out; have := HZ4.out; have := HZ5.out; have := HZ6.out; have := HZ7.out; have := HZ8.out; have := HZ9.out; have := HZ10.out; omega))
      clear hm
      have HKo11 := Lib.hid (hko)
      clear hko
      clear cx0 fx0 ltx cy0 fy0 lty cz0 fz0 ltz co0 fo0 lto
      have ltx := lt_of_block HKx11.out
      obtain ⟨cx0, fx0⟩ := cell1 HKx11.out
      have lty := lt_of_block HKy11.out
      obtain ⟨cy0, fy0⟩ := cell1 HKy11.out
      have ltz := lt_of_block HKz11.out
      obtain ⟨cz0, fz0⟩ := cell1 HKz11.out
      have lto := lt_of_block HKo11.out
      obtain ⟨co0, fo0⟩ := cell1 HKo11.out
      refine hK.out _ _ (⟨cx0, cy0⟩) (fun hHeld => ?_)
      clear hK K
      try simp only [Act.put]
      refine take1 (i := 14) (v := ?v48) (some 9) rfl rfl (by kernel_rfl) (by kernel_rfl) (by kernel_rfl) (fun _ _ _ h => h) (Or.inl ⟨by rfl, ?y48⟩) (by assumption) ?r48
      case y48 => (intro w hSw; (try dsimp only at hSw); go_simp; (first | done | with_reducible rfl))
      try simp only [Act.put, List.setIfInBounds_toArray, List.set_cons_zero, List.set_cons_succ]
      refine wpAnyH_done (by kernel_rfl) ?_ _
      go_wp2_with fail
      exact bodyPost_ret (v := .tuple #[.agg #[.slice pv qs.length kv], .bool r]) (by simp [results, Try.results36, go_sem, cz0]) rfl ⟨⟨_, rfl, (OwA.set HOv11.out (a := ⟨w.heap.size + 2, 0, none⟩) (by show w.heap.size + 2 < _; have := hlz; have := HZ1.out; have := HZ2.out; have := HZ3.out; have := HZ4.out; have := HZ5.out; have := HZ6.out; have := HZ7.out; have := HZ8.out; have := HZ9.out; have := HZ10.out; have := HZ11.out;  omega) _).mono (by have := HZ1.out; have := HZ2.out; have := HZ3.out; have := HZ4.out; have := HZ5.out; have := HZ6.out; have := HZ7.out; have := HZ8.out; have := HZ9.out; have := HZ10.out; have := HZ11.out;  omega) (by simp [World.setCell] <;> (have := HZ1.out; have := HZ2.out; have := HZ3.out; have := HZ4.out; have := HZ5.out; have := HZ6.out; have := HZ7.out; have := HZ8.out; have := HZ9.out; have := HZ10.out; have := HZ11.out;  omega))⟩, HB11.out.setCell (p := ⟨w.heap.size + 2, 0, none⟩) (by show w.heap.size ≤ w.heap.size + 2; omega) _⟩
  · by_cases hox : okAm us xs
    · have HO := Lib.hid hox
      have HN : Hid (¬ okAm us ys) := Lib.hid (fun hy => ho ⟨hox, hy⟩)
      have HB0 : Hid (Below w.heap.size w w) := Lib.hid (Below.refl _ _)
      have HRu0 := Lib.hid (h)
      have HRx0 := Lib.hid (hx)
      have HRy0 := Lib.hid (hy)
      clear h hs hx hy ho
      clear hox
      go_enter Try.func36, Try.ntmps36
      go_wp2_with fail
      have hb : Below w.heap.size w (w.alloc (.cells #[.slice a1 xs.length c1] 50)) := (Below.refl _ _).alloc (Nat.le_refl _) _
      have hk : (w.alloc (.cells #[.slice a1 xs.length c1] 50)).heap[w.heap.size]? = some (.cells #[.slice a1 xs.length c1] 50 (0, 0)) := alloc_at rfl
      have hz : (w.alloc (.cells #[.slice a1 xs.length c1] 50)).heap.size = w.heap.size + 1 := by simp
      generalize w.alloc (.cells #[.slice a1 xs.length c1] 50) = w1 at hb hk hz ⊢
      have HB1 : Hid (Below w.heap.size w w1) := Lib.hid (HB0.out.trans (hb.mono HB0.out.size))
      have HZ1 : Hid (w.heap.size ≤ w1.heap.size) := Lib.hid hb.size
      have HRu1 := Lib.hid (HRu0.out.below HB1.out (Nat.le_refl _))
      have HRx1 := Lib.hid (HRx0.out.below HB1.out (Nat.le_refl _))
      have HRy1 := Lib.hid (HRy0.out.below HB1.out (Nat.le_refl _))
      have HKx1 := Lib.hid hk
      replace HZ1 : Hid (w.heap.size < w1.heap.size) := Lib.hid (by omega)
      have HE1 := Lib.hid hz
      clear hb hk hz
      have hb : Below w1.heap.size w1 (w1.alloc (.cells #[.slice a2 ys.length c2] 50)) := (Below.refl _ _).alloc (Nat.le_refl _) _
      have hk : (w1.alloc (.cells #[.slice a2 ys.length c2] 50)).heap[w.heap.size + 1]? = some (.cells #[.slice a2 ys.length c2] 50 (0, 0)) := alloc_at (by have := HE1.out; omega)
      have hz : (w1.alloc (.cells #[.slice a2 ys.length c2] 50)).heap.size = w1.heap.size + 1 := by simp
      generalize w1.alloc (.cells #[.slice a2 ys.length c2] 50) = w2 at hb hk hz ⊢
      have HB2 : Hid (Below w.heap.size w w2) := Lib.hid (HB1.out.trans (hb.mono HB1.out.size))
      have HZ2 : Hid (w1.heap.size ≤ w2.heap.size) := Lib.hid hb.size
      have HRu2 := Lib.hid (HRu0.out.below HB2.out (Nat.le_refl _))
      have HRx2 := Lib.hid (HRx0.out.below HB2.out (Nat.le_refl _))
      have HRy2 := Lib.hid (HRy0.out.below HB2.out (Nat.le_refl _))
      have HKx2 := Lib.hid ((hb.block _ (lt_of_block HKx1.out)).trans HKx1.out)
      have HKy2 := Lib.hid hk
      replace HZ2 : Hid (w1.heap.size < w2.heap.size) := Lib.hid (by omega)
      have HE2 := Lib.hid hz
      clear hb hk hz
      have hb : Below w2.heap.size w2 (w2.alloc (.cells #[.slice none 0 0] 50)) := (Below.refl _ _).alloc (Nat.le_refl _) _
      have hk : (w2.alloc (.cells #[.slice none 0 0] 50)).heap[w.heap.size + 2]? = some (.cells #[.slice none 0 0] 50 (0, 0)) := alloc_at (by have := HE1.out; have := HE2.out; omega)
      have hz : (w2.alloc (.cells #[.slice none 0 0] 50)).heap.size = w2.heap.size + 1 := by simp
      generalize w2.alloc (.cells #[.slice none 0 0] 50) = w3 at hb hk hz ⊢
      have HB3 : Hid (Below w.heap.size w w3) := Lib.hid (HB2.out.trans (hb.mono HB2.out.size))
      have HZ3 : Hid (w2.heap.size ≤ w3.heap.size) := Lib.hid hb.size
      have HRu3 := Lib.hid (HRu0.out.below HB3.out (Nat.le_refl _))
      have HRx3 := Lib.hid (HRx0.out.below HB3.out (Nat.le_refl _))
      have HRy3 := Lib.hid (HRy0.out.below HB3.out (Nat.le_refl _))
      have HKx3 := Lib.hid ((hb.block _ (lt_of_block HKx2.out)).trans HKx2.out)
      have HKy3 := Lib.hid ((hb.block _ (lt_of_block HKy2.out)).trans HKy2.out)
      have HKz3 := Lib.hid hk
      replace HZ3 : Hid (w2.heap.size < w3.heap.size) := Lib.hid (by omega)
      have HE3 := Lib.hid hz
      clear hb hk hz
      have hlz : w.heap.size + 2 < w3.heap.size := lt_of_block HKz3.out
      have ltx := lt_of_block HKx3.out
      obtain ⟨cx0, fx0⟩ := cell1 HKx3.out
      have lty := lt_of_block HKy3.out
      obtain ⟨cy0, fy0⟩ := cell1 HKy3.out
      have ltz := lt_of_block HKz3.out
      obtain ⟨cz0, fz0⟩ := cell1 HKz3.out
      refine (l7Amount_any _ _ us xs _ HRu3.out HS.out HRx3.out true ⟨fun _ => HO.out, fun _ => rfl⟩).mono ?_
      rintro e w4 ⟨rfl, hb⟩
      have HB4 : Hid (Below w.heap.size w w4) := Lib.hid (HB3.out.trans (hb.mono HB3.out.size))
      have HZ4 : Hid (w3.heap.size ≤ w4.heap.size) := Lib.hid hb.size
      have HRu4 := Lib.hid (HRu0.out.below HB4.out (Nat.le_refl _))
      have HRx4 := Lib.hid (HRx0.out.below HB4.out (Nat.le_refl _))
      have HRy4 := Lib.hid (HRy0.out.below HB4.out (Nat.le_refl _))
      have HKx4 := Lib.hid ((hb.block _ (lt_of_block HKx3.out)).trans HKx3.out)
      have HKy4 := Lib.hid ((hb.block _ (lt_of_block HKy3.out)).trans HKy3.out)
      have HKz4 := Lib.hid ((hb.block _ (lt_of_block HKz3.out)).trans HKz3.out)
      clear hb
      clear cx0 fx0 ltx cy0 fy0 lty cz0 fz0 ltz
      have ltx := lt_of_block HKx4.out
      obtain ⟨cx0, fx0⟩ := cell1 HKx4.out
      have lty := lt_of_block HKy4.out
      obtain ⟨cy0, fy0⟩ := cell1 HKy4.out
      have ltz := lt_of_block HKz4.out
      obtain ⟨cz0, fz0⟩ := cell1 HKz4.out
      go_wp2_with fail
      refine (l7Amount_any _ _ us ys _ HRu4.out HS.out HRy4.out false ⟨fun e => (by simp at e), fun e => absurd e HN.out⟩).mono ?_
      rintro e w5 ⟨rfl, hb⟩
      have HB5 : Hid (Below w.heap.size w w5) := Lib.hid (HB4.out.trans (hb.mono HB4.out.size))
      have HZ5 : Hid (w4.heap.size ≤ w5.heap.size) := Lib.hid hb.size
      have HRu5 := Lib.hid (HRu0.out.below HB5.out (Nat.le_refl _))
      have HRx5 := Lib.hid (HRx0.out.below HB5.out (Nat.le_refl _))
      have HRy5 := Lib.hid (HRy0.out.below HB5.out (Nat.le_refl _))
      have HKx5 := Lib.hid ((hb.block _ (lt_of_block HKx4.out)).trans HKx4.out)
      have HKy5 := Lib.hid ((hb.block _ (lt_of_block HKy4.out)).trans HKy4.out)
      have HKz5 := Lib.hid ((hb.block _ (lt_of_block HKz4.out)).trans HKz4.out)
      clear hb
      clear cx0 fx0 ltx cy0 fy0 lty cz0 fz0 ltz
      have ltx := lt_of_block HKx5.out
      obtain ⟨cx0, fx0⟩ := cell1 HKx5.out
      have lty := lt_of_block HKy5.out
      obtain ⟨cy0, fy0⟩ := cell1 HKy5.out
      have ltz := lt_of_block HKz5.out
      obtain ⟨cz0, fz0⟩ := cell1 HKz5.out
      go_wp2_with fail
      exact bodyPost_ret (v := .tuple #[.agg #[.slice none 0 0], .bool false]) (by simp [results, Try.results36, go_sem, cz0]) rfl ⟨⟨_, rfl, OwA.nil _ _ _⟩, by first | exact HB5.out | exact HB5.out.setCell (p := ⟨w.heap.size + 2, 0, none⟩) (by show w.heap.size ≤ w.heap.size + 2; omega) _⟩
    · have HN := Lib.hid hox
      have HB0 : Hid (Below w.heap.size w w) := Lib.hid (Below.refl _ _)
      have HRu0 := Lib.hid (h)
      have HRx0 := Lib.hid (hx)
      have HRy0 := Lib.hid (hy)
      clear h hs hx hy ho
      clear hox
      go_enter Try.func36, Try.ntmps36
      go_wp2_with fail
      have hb : Below w.heap.size w (w.alloc (.cells #[.slice a1 xs.length c1] 50)) := (Below.refl _ _).alloc (Nat.le_refl _) _
      have hk : (w.alloc (.cells #[.slice a1 xs.length c1] 50)).heap[w.heap.size]? = some (.cells #[.slice a1 xs.length c1] 50 (0, 0)) := alloc_at rfl
      have hz : (w.alloc (.cells #[.slice a1 xs.length c1] 50)).heap.size = w.heap.size + 1 := by simp
      generalize w.alloc (.cells #[.slice a1 xs.length c1] 50) = w1 at hb hk hz ⊢
      have HB1 : Hid (Below w.heap.size w w1) := Lib.hid (HB0.out.trans (hb.mono HB0.out.size))
      have HZ1 : Hid (w.heap.size ≤ w1.heap.size) := Lib.hid hb.size
      have HRu1 := Lib.hid (HRu0.out.below HB1.out (Nat.le_refl _))
      have HRx1 := Lib.hid (HRx0.out.below HB1.out (Nat.le_refl _))
      have HRy1 := Lib.hid (HRy0.out.below HB1.out (Nat.le_refl _))
      have HKx1 := Lib.hid hk
      replace HZ1 : Hid (w.heap.size < w1.heap.size) := Lib.hid (by omega)
      have HE1 := Lib.hid hz
      clear hb hk hz
      have hb : Below w1.heap.size w1 (w1.alloc (.cells #[.slice a2 ys.length c2] 50)) := (Below.refl _ _).alloc (Nat.le_refl _) _
      have hk : (w1.alloc (.cells #[.slice a2 ys.length c2] 50)).heap[w.heap.size + 1]? = some (.cells #[.slice a2 ys.length c2] 50 (0, 0)) := alloc_at (by have := HE1.out; omega)
      have hz : (w1.alloc (.cells #[.slice a2 ys.length c2] 50)).heap.size = w1.heap.size + 1 := by simp
      generalize w1.alloc (.cells #[.slice a2 ys.length c2] 50) = w2 at hb hk hz ⊢
      have HB2 : Hid (Below w.heap.size w w2) := Lib.hid (HB1.out.trans (hb.mono HB1.out.size))
      have HZ2 : Hid (w1.heap.size ≤ w2.heap.size) := Lib.hid hb.size
      have HRu2 := Lib.hid (HRu0.out.below HB2.out (Nat.le_refl _))
      have HRx2 := Lib.hid (HRx0.out.below HB2.out (Nat.le_refl _))
      have HRy2 := Lib.hid (HRy0.out.below HB2.out (Nat.le_refl _))
      have HKx2 := Lib.hid ((hb.block _ (lt_of_block HKx1.out)).trans HKx1.out)
      have HKy2 := Lib.hid hk
      replace HZ2 : Hid (w1.heap.size < w2.heap.size) := Lib.hid (by omega)
      have HE2 := Lib.hid hz
      clear hb hk hz
      have hb : Below w2.heap.size w2 (w2.alloc (.cells #[.slice none 0 0] 50)) := (Below.refl _ _).alloc (Nat.le_refl _) _
      have hk : (w2.alloc (.cells #[.slice none 0 0] 50)).heap[w.heap.size + 2]? = some (.cells #[.slice none 0 0] 50 (0, 0)) := alloc_at (by have := HE1.out; have := HE2.out; omega)
      have hz : (w2.alloc (.cells #[.slice none 0 0] 50)).heap.size = w2.heap.size + 1 := by simp
      generalize w2.alloc (.cells #[.slice none 0 0] 50) = w3 at hb hk hz ⊢
      have HB3 : Hid (Below w.heap.size w w3) := Lib.hid (HB2.out.trans (hb.mono HB2.out.size))
      have HZ3 : Hid (w2.heap.size ≤ w3.heap.size) := Lib.hid hb.size
      have HRu3 := Lib.hid (HRu0.out.below HB3.out (Nat.le_refl _))
      have HRx3 := Lib.hid (HRx0.out.below HB3.out (Nat.le_refl _))
      have HRy3 := Lib.hid (HRy0.out.below HB3.out (Nat.le_refl _))
      have HKx3 := Lib.hid ((hb.block _ (lt_of_block HKx2.out)).trans HKx2.out)
      have HKy3 := Lib.hid ((hb.block _ (lt_of_block HKy2.out)).trans HKy2.out)
      have HKz3 := Lib.hid hk
      replace HZ3 : Hid (w2.heap.size < w3.heap.size) := Lib.hid (by omega)
      have HE3 := Lib.hid hz
      clear hb hk hz
      have hlz : w.heap.size + 2 < w3.heap.size := lt_of_block HKz3.out
      have ltx := lt_of_block HKx3.out
      obtain ⟨cx0, fx0⟩ := cell1 HKx3.out
      have lty := lt_of_block HKy3.out
      obtain ⟨cy0, fy0⟩ := cell1 HKy3.out
      have ltz := lt_of_block HKz3.out
      obtain ⟨cz0, fz0⟩ := cell1 HKz3.out
      refine (l7Amount_any _ _ us xs _ HRu3.out HS.out HRx3.out false ⟨fun e => (by simp at e), fun e => absurd e HN.out⟩).mono ?_
      rintro e w4 ⟨rfl, hb⟩
      have HB4 : Hid (Below w.heap.size w w4) := Lib.hid (HB3.out.trans (hb.mono HB3.out.size))
      have HZ4 : Hid (w3.heap.size ≤ w4.heap.size) := Lib.hid hb.size
      have HRu4 := Lib.hid (HRu0.out.below HB4.out (Nat.le_refl _))
      have HRx4 := Lib.hid (HRx0.out.below HB4.out (Nat.le_refl _))
      have HRy4 := Lib.hid (HRy0.out.below HB4.out (Nat.le_refl _))
      have HKx4 := Lib.hid ((hb.block _ (lt_of_block HKx3.out)).trans HKx3.out)
      have HKy4 := Lib.hid ((hb.block _ (lt_of_block HKy3.out)).trans HKy3.out)
      have HKz4 := Lib.hid ((hb.block _ (lt_of_block HKz3.out)).trans HKz3.out)
      clear hb
      clear cx0 fx0 ltx cy0 fy0 lty cz0 fz0 ltz
      have ltx := lt_of_block HKx4.out
      obtain ⟨cx0, fx0⟩ := cell1 HKx4.out
      have lty := lt_of_block HKy4.out
      obtain ⟨cy0, fy0⟩ := cell1 HKy4.out
      have ltz := lt_of_block HKz4.out
      obtain ⟨cz0, fz0⟩ := cell1 HKz4.out
      go_wp2_with fail
      exact bodyPost_ret (v := .tuple #[.agg #[.slice none 0 0], .bool false]) (by simp [results, Try.results36, go_sem, cz0]) rfl ⟨⟨_, rfl, OwA.nil _ _ _⟩, by first | exact HB4.out | exact HB4.out.setCell (p := ⟨w.heap.size + 2, 0, none⟩) (by show w.heap.size ≤ w.heap.size + 2; omega) _⟩
end Go.Proofs.Ytpmccebifncpeaa
