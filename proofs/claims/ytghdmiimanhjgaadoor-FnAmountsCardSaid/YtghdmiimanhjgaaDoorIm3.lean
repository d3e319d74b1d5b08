/- The program's PartOf, UnitsIn, ConvertTo. -/
import Derived.Test.YtghdmiimanhjgaaDoorIm2
namespace Go.Proofs.YtghdmiimanhjgaaDoor
set_option linter.unusedVariables false
open Go.RowKit

set_option maxRecDepth 100000 in
set_option maxHeartbeats 1600000 in
theorem iUnits_yes (v : Value) (us : List Un) (nm : ByteArray) (w : World) (h : RowsR 2 unC w v us) (hs : ∀ u ∈ us, u.nm.size ≤ maxLen) (ho : okS us) (K : Nat) (hK : fstU us nm K) :
    Calls Tryd.prog 11 #[v, .string nm] w fun e w' => e = .returned (.tuple #[.int .i64 (unP us (K + 1)), .bool true]) ∧ Below w.heap.size w w' := by
  have hu6 : us.length ≤ 6 := ho.1.2
  have hKl : K < us.length := hK.1
  obtain ⟨a, cp, rfl⟩ := h.form
  have hcap : us.length ≤ cp := by obtain ⟨_, _, e, ⟨_, m⟩, _⟩ := h; obtain ⟨_, _, rfl⟩ := Value.slice.inj e; exact m
  have A2 := Lib.hid (szS_at h)
  have HO := Lib.hid ho
  have HS := Lib.hid hs
  have HI : Hid (IdxU us nm (K : Int)) := Lib.hid (.inl ⟨K, hK, rfl⟩)
  have z3 : (K : Int) + 1 ≤ (cp : Int) := by omega
  have z4 : K + 1 ≤ cp := by omega
  have HB0 : Hid (Below w.heap.size w w) := Lib.hid (Below.refl _ _)
  have HRu0 := Lib.hid (h)
  clear h hs ho hK
  go_enter Tryd.func11, Tryd.ntmps11
  go_wp2_with fail
  refine (iSys_any _ us _ HRu0.out HS.out true ⟨fun _ => HO.out, fun _ => rfl⟩).mono ?_
  rintro e w1 ⟨rfl, hb⟩
  have HB1 : Hid (Below w.heap.size w w1) := Lib.hid (HB0.out.trans (hb.mono HB0.out.size))
  have HZ1 : Hid (w.heap.size ≤ w1.heap.size) := Lib.hid hb.size
  have HRu1 := Lib.hid (HRu0.out.below HB1.out (Nat.le_refl _))
  clear hb
  go_wp2_with fail
  refine (unitIndex_any _ us nm _ HRu1.out (K : Int) HI.out).mono ?_
  rintro e w2 ⟨rfl, hb⟩
  have HB2 : Hid (Below w.heap.size w w2) := Lib.hid (HB1.out.trans (hb.mono HB1.out.size))
  have HZ2 : Hid (w1.heap.size ≤ w2.heap.size) := Lib.hid hb.size
  have HRu2 := Lib.hid (HRu0.out.below HB2.out (Nat.le_refl _))
  clear hb
  go_wp2_with fail
  go_loopw [7, 23] (fun nv i wr => ∃ (k : Nat) (m : Int), k ≤ K + 1 ∧ i = .int .i64 k ∧ nv = .int .i64 m ∧ Hid (m = unP us k) ∧ Below w.heap.size w wr) (fun _ i _ => K + 1 - (intOf i).toNat)
  case atStart => exact ⟨0, 1, Nat.zero_le _, rfl, rfl, Lib.hid rfl, HB2.out⟩
  case round =>
    obtain ⟨k, m, hk, rfl, rfl, HM, hb⟩ := hrel
    by_cases hlt : k < K + 1
    · have z1 : (0 : Int) ≤ (k : Int) := by omega
      have z2 : (k : Int) < (K : Int) + 1 := by omega
      obtain ⟨b1, o1, rfl, _, p0, p1⟩ := A2.out _ hb k (by omega)
      have hub := unP_lt HO.out k (by omega)
      rw [← HM.out] at hub
      have hsb := okS_sz HO.out k
      have HST : Hid (unP us (k + 1) = m * szU us k) := Lib.hid (by rw [unP, HM.out])
      generalize szU us k = z at p1 hsb HST
      have hmb := mul_bd (show 0 ≤ m by omega) hub.2 (show 0 ≤ z by omega) hsb.2
      have hw : IntKind.i64.wrap (m * z) = m * z := wrap_small _ (by omega) (by omega)
      have HB := Lib.hid hb
      generalize (us[k]'(by omega)).nm = nm2 at p0
      clear hmb hb
      go_wp2_with fail
      go_roundw
      case rel => exact ⟨k + 1, m * z, by omega, by go_num, rfl, Lib.hid HST.out.symm, HB.out.alloc HB.out.size _⟩
      case measure => simp [intOf]; omega
    · obtain rfl : k = K + 1 := by omega
      go_wp2_with fail
      go_ret2
      exact ⟨ret_int2 HM.out, hb⟩
set_option maxRecDepth 100000 in
set_option maxHeartbeats 800000 in
theorem iUnits_any (v : Value) (us : List Un) (nm : ByteArray) (w : World) (h : RowsR 2 unC w v us) (hs : ∀ u ∈ us, u.nm.size ≤ maxLen) (x : Int) (r : Bool) (hk : UnF us nm x r) :
    Calls Tryd.prog 11 #[v, .string nm] w fun e w' => e = .returned (.tuple #[.int .i64 x, .bool r]) ∧ Below w.heap.size w w' := by
  rcases hk with ⟨ho, k, hk, rfl, rfl⟩ | ⟨ho, hno, rfl, rfl⟩ | ⟨ho, rfl, rfl⟩
  · exact iUnits_yes v us nm w h hs ho k hk
  · have HO := Lib.hid ho
    have HS := Lib.hid hs
    have HI : Hid (IdxU us nm (-1)) := Lib.hid (.inr ⟨hno, rfl⟩)
    have HB0 : Hid (Below w.heap.size w w) := Lib.hid (Below.refl _ _)
    have HRu0 := Lib.hid (h)
    clear h hs ho hno
    go_enter Tryd.func11, Tryd.ntmps11
    go_wp2_with fail
    refine (iSys_any _ us _ HRu0.out HS.out true ⟨fun _ => HO.out, fun _ => rfl⟩).mono ?_
    rintro e w1 ⟨rfl, hb⟩
    have HB1 : Hid (Below w.heap.size w w1) := Lib.hid (HB0.out.trans (hb.mono HB0.out.size))
    have HZ1 : Hid (w.heap.size ≤ w1.heap.size) := Lib.hid hb.size
    have HRu1 := Lib.hid (HRu0.out.below HB1.out (Nat.le_refl _))
    clear hb
    go_wp2_with fail
    refine (unitIndex_any _ us nm _ HRu1.out (-1) HI.out).mono ?_
    rintro e w2 ⟨rfl, hb⟩
    have HB2 : Hid (Below w.heap.size w w2) := Lib.hid (HB1.out.trans (hb.mono HB1.out.size))
    have HZ2 : Hid (w1.heap.size ≤ w2.heap.size) := Lib.hid hb.size
    have HRu2 := Lib.hid (HRu0.out.below HB2.out (Nat.le_refl _))
    clear hb
    go_wp2_with fail
    go_ret2
    exact ⟨rfl, HB2.out⟩
  · have HN := Lib.hid ho
    have HS := Lib.hid hs
    have HB0 : Hid (Below w.heap.size w w) := Lib.hid (Below.refl _ _)
    have HRu0 := Lib.hid (h)
    clear h hs ho
    go_enter Tryd.func11, Tryd.ntmps11
    go_wp2_with fail
    refine (iSys_any _ us _ HRu0.out HS.out false ⟨fun e => (by simp at e), fun e => absurd e HN.out⟩).mono ?_
    rintro e w1 ⟨rfl, hb⟩
    have HB1 : Hid (Below w.heap.size w w1) := Lib.hid (HB0.out.trans (hb.mono HB0.out.size))
    have HZ1 : Hid (w.heap.size ≤ w1.heap.size) := Lib.hid hb.size
    have HRu1 := Lib.hid (HRu0.out.below HB1.out (Nat.le_refl _))
    clear hb
    go_wp2_with fail
    go_ret2
    exact ⟨rfl, HB1.out⟩
set_option maxRecDepth 100000 in
set_option maxHeartbeats 3200000 in
theorem iConvertTo_any (v sx v2 : Value) (us us2 : List Un) (xs : List Int) (num den : Int) (w : World) (h : RowsR 2 unC w v us) (hs : ∀ u ∈ us, u.nm.size ≤ maxLen) (hh : RowsR 2 unC w v2 us2) (hs2 : ∀ u ∈ us2, u.nm.size ≤ maxLen) (hx : RowsR 1 inC w sx xs) (qs : List Int) (r : Bool) (hk : TestF (okAm us xs ∧ okS us2 ∧ (1 ≤ num ∧ num ≤ 10000) ∧ (1 ≤ den ∧ den ≤ 10000)) us2 (valA us xs * num / den) qs r) :
    Calls Tryd.prog 15 #[v, .agg #[sx], v2, .int .i64 num, .int .i64 den] w fun e w' => (∃ s1, e = .returned (.tuple #[.agg #[s1], .bool r]) ∧ OwA w.heap.size w'.heap.size w' s1 qs) ∧ Below w.heap.size w w' := by
  obtain ⟨a, cp, rfl⟩ := h.form
  have HS := Lib.hid hs
  have HS2 := Lib.hid hs2
  obtain ⟨a1, c1, rfl⟩ := hx.form
  obtain ⟨a2, c2, rfl⟩ := hh.form
  rcases hk with ⟨ho, hp⟩ | ⟨ho, rfl, rfl⟩
  · have HO := Lib.hid ho
    have hvx := valA_lt ho.1
    have HVX : Hid (ValF us xs (valA us xs) true) := Lib.hid (.inl ⟨ho.1, rfl, rfl⟩)
    have HP0 := Lib.hid hp
    generalize valA us xs = x at hvx HVX HP0
    have n0 : 0 ≤ num := by have := ho.2.2.1; omega
    have hmb := mul_bd hvx.1 hvx.2 n0 ho.2.2.1.2
    have hw : IntKind.i64.wrap (x * num) = x * num := wrap_small _ (by omega) (by omega)
    have d0 : 0 < den := by have := ho.2.2.2.1; omega
    obtain ⟨q, hq⟩ : ∃ q, IntKind.i64.wrap ((x * num).tdiv den) = q := ⟨_, rfl⟩
    have hq1 : 0 ≤ x * num / den ∧ x * num / den ≤ x * num := ⟨Int.ediv_nonneg hmb.1 (by omega), Int.ediv_le_self _ hmb.1⟩
    have hqe : q = x * num / den := by rw [← hq, Int.tdiv_eq_ediv_of_nonneg hmb.1, wrap_small _ (by omega) (by omega)]
    have HQ9 : Hid (-9223372036854775808 ≤ q ∧ q ≤ 9223372036854775807) := Lib.hid (by omega)
    have HP : Hid (PropF us2 q qs r) := Lib.hid (by rw [hqe]; exact HP0.out)
    have y3 : (den == 0) = false := beq_eq_false_iff_ne.2 (by omega)
    have y4 : den ≠ 0 := by omega
    clear hp hmb hq1 hqe HP0
    have HB0 : Hid (Below w.heap.size w w) := Lib.hid (Below.refl _ _)
    have HRu0 := Lib.hid (h)
    have HRt0 := Lib.hid (hh)
    have HRx0 := Lib.hid (hx)
    clear h hs hh hs2 hx ho
    go_enter Tryd.func15, Tryd.ntmps15
    go_wp2_with fail
    have hb : Below w.heap.size w (w.alloc (.cells #[.slice a1 xs.length c1] 27)) := (Below.refl _ _).alloc (Nat.le_refl _) _
    have hk : (w.alloc (.cells #[.slice a1 xs.length c1] 27)).heap[w.heap.size]? = some (.cells #[.slice a1 xs.length c1] 27 (0, 0)) := alloc_at rfl
    have hz : (w.alloc (.cells #[.slice a1 xs.length c1] 27)).heap.size = w.heap.size + 1 := by simp
    generalize w.alloc (.cells #[.slice a1 xs.length c1] 27) = w1 at hb hk hz ⊢
    have HB1 : Hid (Below w.heap.size w w1) := Lib.hid (HB0.out.trans (hb.mono HB0.out.size))
    have HZ1 : Hid (w.heap.size ≤ w1.heap.size) := Lib.hid hb.size
    have HRu1 := Lib.hid (HRu0.out.below HB1.out (Nat.le_refl _))
    have HRt1 := Lib.hid (HRt0.out.below HB1.out (Nat.le_refl _))
    have HRx1 := Lib.hid (HRx0.out.below HB1.out (Nat.le_refl _))
    have HKx1 := Lib.hid hk
    replace HZ1 : Hid (w.heap.size < w1.heap.size) := Lib.hid (by omega)
    have HE1 := Lib.hid hz
    clear hb hk hz
    have hb : Below w1.heap.size w1 (w1.alloc (.cells #[.slice none 0 0] 27)) := (Below.refl _ _).alloc (Nat.le_refl _) _
    have hk : (w1.alloc (.cells #[.slice none 0 0] 27)).heap[w.heap.size + 1]? = some (.cells #[.slice none 0 0] 27 (0, 0)) := alloc_at (by have := HE1.out; omega)
    have hz : (w1.alloc (.cells #[.slice none 0 0] 27)).heap.size = w1.heap.size + 1 := by simp
    generalize w1.alloc (.cells #[.slice none 0 0] 27) = w2 at hb hk hz ⊢
    have HB2 : Hid (Below w.heap.size w w2) := Lib.hid (HB1.out.trans (hb.mono HB1.out.size))
    have HZ2 : Hid (w1.heap.size ≤ w2.heap.size) := Lib.hid hb.size
    have HRu2 := Lib.hid (HRu0.out.below HB2.out (Nat.le_refl _))
    have HRt2 := Lib.hid (HRt0.out.below HB2.out (Nat.le_refl _))
    have HRx2 := Lib.hid (HRx0.out.below HB2.out (Nat.le_refl _))
    have HKx2 := Lib.hid ((hb.block _ (lt_of_block HKx1.out)).trans HKx1.out)
    have HKz2 := Lib.hid hk
    replace HZ2 : Hid (w1.heap.size < w2.heap.size) := Lib.hid (by omega)
    have HE2 := Lib.hid hz
    clear hb hk hz
    have hlz : w.heap.size + 1 < w2.heap.size := lt_of_block HKz2.out
    have ltx := lt_of_block HKx2.out
    obtain ⟨cx0, fx0⟩ := cell1 HKx2.out
    have ltz := lt_of_block HKz2.out
    obtain ⟨cz0, fz0⟩ := cell1 HKz2.out
    refine (iVal_any _ _ us xs _ HRu2.out HS.out HRx2.out x true HVX.out).mono ?_
    rintro e w3 ⟨rfl, hb⟩
    have HB3 : Hid (Below w.heap.size w w3) := Lib.hid (HB2.out.trans (hb.mono HB2.out.size))
    have HZ3 : Hid (w2.heap.size ≤ w3.heap.size) := Lib.hid hb.size
    have HRu3 := Lib.hid (HRu0.out.below HB3.out (Nat.le_refl _))
    have HRt3 := Lib.hid (HRt0.out.below HB3.out (Nat.le_refl _))
    have HRx3 := Lib.hid (HRx0.out.below HB3.out (Nat.le_refl _))
    have HKx3 := Lib.hid ((hb.block _ (lt_of_block HKx2.out)).trans HKx2.out)
    have HKz3 := Lib.hid ((hb.block _ (lt_of_block HKz2.out)).trans HKz2.out)
    clear hb
    clear cx0 fx0 ltx cz0 fz0 ltz
    have ltx := lt_of_block HKx3.out
    obtain ⟨cx0, fx0⟩ := cell1 HKx3.out
    have ltz := lt_of_block HKz3.out
    obtain ⟨cz0, fz0⟩ := cell1 HKz3.out
    go_wp2_with fail
    refine (isInFr_any num _ true ⟨fun _ => HO.out.2.2.1, fun _ => rfl⟩).mono ?_
    rintro e w' ⟨rfl, hw'⟩
    subst w'
    go_wp2_with fail
    refine (isInFr_any den _ true ⟨fun _ => HO.out.2.2.2, fun _ => rfl⟩).mono ?_
    rintro e w' ⟨rfl, hw'⟩
    subst w'
    go_wp2_with fail
    refine (iProper_any _ us2 q _ HRt3.out HS2.out HQ9.out qs r (.inl ⟨HO.out.2.1, HP.out⟩)).mono ?_
    rintro e w4 ⟨⟨s1, rfl, ho⟩, hb⟩
    have HB4 : Hid (Below w.heap.size w w4) := Lib.hid (HB3.out.trans (hb.mono HB3.out.size))
    have HZ4 : Hid (w3.heap.size ≤ w4.heap.size) := Lib.hid hb.size
    have HRu4 := Lib.hid (HRu0.out.below HB4.out (Nat.le_refl _))
    have HRt4 := Lib.hid (HRt0.out.below HB4.out (Nat.le_refl _))
    have HRx4 := Lib.hid (HRx0.out.below HB4.out (Nat.le_refl _))
    have HKx4 := Lib.hid ((hb.block _ (lt_of_block HKx3.out)).trans HKx3.out)
    have HKz4 := Lib.hid ((hb.block _ (lt_of_block HKz3.out)).trans HKz3.out)
    clear hb
    obtain ⟨pv, kv, rfl⟩ := ho.form
    have HOv4 := Lib.hid (ho)
    clear ho
    clear cx0 fx0 ltx cz0 fz0 ltz
    have ltx := lt_of_block HKx4.out
    obtain ⟨cx0, fx0⟩ := cell1 HKx4.out
    have ltz := lt_of_block HKz4.out
    obtain ⟨cz0, fz0⟩ := cell1 HKz4.out
    go_wp2_with fail
    exact bodyPost_ret (v := .tuple #[.agg #[.slice pv qs.length kv], .bool r]) (by simp [results, Tryd.results15, go_sem, cz0]) rfl ⟨⟨_, rfl, (OwA.set HOv4.out (a := ⟨w.heap.size + 1, 0, none⟩) (by show w.heap.size + 1 < _; have := hlz; have := HZ1.out; have := HZ2.out; have := HZ3.out; have := HZ4.out;  omega) _).mono (by have := HZ1.out; have := HZ2.out; have := HZ3.out; have := HZ4.out;  omega) (by simp [World.setCell] <;> (have := HZ1.out; have := HZ2.out; have := HZ3.out; have := HZ4.out;  omega))⟩, HB4.out.setCell (p := ⟨w.heap.size + 1, 0, none⟩) (by show w.heap.size ≤ w.heap.size + 1; omega) _⟩
  · by_cases hox : okAm us xs
    · have HO := Lib.hid hox
      by_cases hn : 1 ≤ num ∧ num ≤ 10000
      · have HNU := Lib.hid hn
        by_cases hd : 1 ≤ den ∧ den ≤ 10000
        · have HDE := Lib.hid hd
          have HN : Hid (¬ okS us2) := Lib.hid (fun hy => ho ⟨hox, hy, hn, hd⟩)
          have hvx := valA_lt hox
          have HVX : Hid (ValF us xs (valA us xs) true) := Lib.hid (.inl ⟨hox, rfl, rfl⟩)
          generalize valA us xs = x at hvx HVX
          have n0 : 0 ≤ num := by omega
          have hmb := mul_bd hvx.1 hvx.2 n0 hn.2
          have hw : IntKind.i64.wrap (x * num) = x * num := wrap_small _ (by omega) (by omega)
          obtain ⟨q, hq⟩ : ∃ q, IntKind.i64.wrap ((x * num).tdiv den) = q := ⟨_, rfl⟩
          have hq1 : 0 ≤ x * num / den ∧ x * num / den ≤ x * num := ⟨Int.ediv_nonneg hmb.1 (by omega), Int.ediv_le_self _ hmb.1⟩
          have hqe : q = x * num / den := by rw [← hq, Int.tdiv_eq_ediv_of_nonneg hmb.1, wrap_small _ (by omega) (by omega)]
          have HQ9 : Hid (-9223372036854775808 ≤ q ∧ q ≤ 9223372036854775807) := Lib.hid (by omega)
          have y3 : (den == 0) = false := beq_eq_false_iff_ne.2 (by omega)
          have y4 : den ≠ 0 := by omega
          clear hmb hq1 hqe
          have HB0 : Hid (Below w.heap.size w w) := Lib.hid (Below.refl _ _)
          have HRu0 := Lib.hid (h)
          have HRt0 := Lib.hid (hh)
          have HRx0 := Lib.hid (hx)
          clear h hs hh hs2 hx ho
          clear hox hn hd
          go_enter Tryd.func15, Tryd.ntmps15
          go_wp2_with fail
          have hb : Below w.heap.size w (w.alloc (.cells #[.slice a1 xs.length c1] 27)) := (Below.refl _ _).alloc (Nat.le_refl _) _
          have hk : (w.alloc (.cells #[.slice a1 xs.length c1] 27)).heap[w.heap.size]? = some (.cells #[.slice a1 xs.length c1] 27 (0, 0)) := alloc_at rfl
          have hz : (w.alloc (.cells #[.slice a1 xs.length c1] 27)).heap.size = w.heap.size + 1 := by simp
          generalize w.alloc (.cells #[.slice a1 xs.length c1] 27) = w1 at hb hk hz ⊢
          have HB1 : Hid (Below w.heap.size w w1) := Lib.hid (HB0.out.trans (hb.mono HB0.out.size))
          have HZ1 : Hid (w.heap.size ≤ w1.heap.size) := Lib.hid hb.size
          have HRu1 := Lib.hid (HRu0.out.below HB1.out (Nat.le_refl _))
          have HRt1 := Lib.hid (HRt0.out.below HB1.out (Nat.le_refl _))
          have HRx1 := Lib.hid (HRx0.out.below HB1.out (Nat.le_refl _))
          have HKx1 := Lib.hid hk
          replace HZ1 : Hid (w.heap.size < w1.heap.size) := Lib.hid (by omega)
          have HE1 := Lib.hid hz
          clear hb hk hz
          have hb : Below w1.heap.size w1 (w1.alloc (.cells #[.slice none 0 0] 27)) := (Below.refl _ _).alloc (Nat.le_refl _) _
          have hk : (w1.alloc (.cells #[.slice none 0 0] 27)).heap[w.heap.size + 1]? = some (.cells #[.slice none 0 0] 27 (0, 0)) := alloc_at (by have := HE1.out; omega)
          have hz : (w1.alloc (.cells #[.slice none 0 0] 27)).heap.size = w1.heap.size + 1 := by simp
          generalize w1.alloc (.cells #[.slice none 0 0] 27) = w2 at hb hk hz ⊢
          have HB2 : Hid (Below w.heap.size w w2) := Lib.hid (HB1.out.trans (hb.mono HB1.out.size))
          have HZ2 : Hid (w1.heap.size ≤ w2.heap.size) := Lib.hid hb.size
          have HRu2 := Lib.hid (HRu0.out.below HB2.out (Nat.le_refl _))
          have HRt2 := Lib.hid (HRt0.out.below HB2.out (Nat.le_refl _))
          have HRx2 := Lib.hid (HRx0.out.below HB2.out (Nat.le_refl _))
          have HKx2 := Lib.hid ((hb.block _ (lt_of_block HKx1.out)).trans HKx1.out)
          have HKz2 := Lib.hid hk
          replace HZ2 : Hid (w1.heap.size < w2.heap.size) := Lib.hid (by omega)
          have HE2 := Lib.hid hz
          clear hb hk hz
          have hlz : w.heap.size + 1 < w2.heap.size := lt_of_block HKz2.out
          have ltx := lt_of_block HKx2.out
          obtain ⟨cx0, fx0⟩ := cell1 HKx2.out
          have ltz := lt_of_block HKz2.out
          obtain ⟨cz0, fz0⟩ := cell1 HKz2.out
          refine (iVal_any _ _ us xs _ HRu2.out HS.out HRx2.out x true HVX.out).mono ?_
          rintro e w3 ⟨rfl, hb⟩
          have HB3 : Hid (Below w.heap.size w w3) := Lib.hid (HB2.out.trans (hb.mono HB2.out.size))
          have HZ3 : Hid (w2.heap.size ≤ w3.heap.size) := Lib.hid hb.size
          have HRu3 := Lib.hid (HRu0.out.below HB3.out (Nat.le_refl _))
          have HRt3 := Lib.hid (HRt0.out.below HB3.out (Nat.le_refl _))
          have HRx3 := Lib.hid (HRx0.out.below HB3.out (Nat.le_refl _))
          have HKx3 := Lib.hid ((hb.block _ (lt_of_block HKx2.out)).trans HKx2.out)
          have HKz3 := Lib.hid ((hb.block _ (lt_of_block HKz2.out)).trans HKz2.out)
          clear hb
          clear cx0 fx0 ltx cz0 fz0 ltz
          have ltx := lt_of_block HKx3.out
          obtain ⟨cx0, fx0⟩ := cell1 HKx3.out
          have ltz := lt_of_block HKz3.out
          obtain ⟨cz0, fz0⟩ := cell1 HKz3.out
          go_wp2_with fail
          refine (isInFr_any num _ true ⟨fun _ => HNU.out, fun _ => rfl⟩).mono ?_
          rintro e w' ⟨rfl, hw'⟩
          subst w'
          go_wp2_with fail
          refine (isInFr_any den _ true ⟨fun _ => HDE.out, fun _ => rfl⟩).mono ?_
          rintro e w' ⟨rfl, hw'⟩
          subst w'
          go_wp2_with fail
          refine (iProper_any _ us2 q _ HRt3.out HS2.out HQ9.out [] false (.inr ⟨HN.out, rfl, rfl⟩)).mono ?_
          rintro e w4 ⟨⟨s1, rfl, ho⟩, hb⟩
          have HB4 : Hid (Below w.heap.size w w4) := Lib.hid (HB3.out.trans (hb.mono HB3.out.size))
          have HZ4 : Hid (w3.heap.size ≤ w4.heap.size) := Lib.hid hb.size
          have HRu4 := Lib.hid (HRu0.out.below HB4.out (Nat.le_refl _))
          have HRt4 := Lib.hid (HRt0.out.below HB4.out (Nat.le_refl _))
          have HRx4 := Lib.hid (HRx0.out.below HB4.out (Nat.le_refl _))
          have HKx4 := Lib.hid ((hb.block _ (lt_of_block HKx3.out)).trans HKx3.out)
          have HKz4 := Lib.hid ((hb.block _ (lt_of_block HKz3.out)).trans HKz3.out)
          clear hb
          obtain ⟨pv, kv, rfl⟩ := ho.form
          have HOv4 := Lib.hid (ho)
          clear ho
          clear cx0 fx0 ltx cz0 fz0 ltz
          have ltx := lt_of_block HKx4.out
          obtain ⟨cx0, fx0⟩ := cell1 HKx4.out
          have ltz := lt_of_block HKz4.out
          obtain ⟨cz0, fz0⟩ := cell1 HKz4.out
          go_wp2_with fail
          exact bodyPost_ret (v := .tuple #[.agg #[.slice pv ([] : List Int).length kv], .bool false]) (by simp [results, Tryd.results15, go_sem, cz0]) rfl ⟨⟨_, rfl, (OwA.set HOv4.out (a := ⟨w.heap.size + 1, 0, none⟩) (by show w.heap.size + 1 < _; have := hlz; have := HZ1.out; have := HZ2.out; have := HZ3.out; have := HZ4.out;  omega) _).mono (by have := HZ1.out; have := HZ2.out; have := HZ3.out; have := HZ4.out;  omega) (by simp [World.setCell] <;> (have := HZ1.out; have := HZ2.out; have := HZ3.out; have := HZ4.out;  omega))⟩, HB4.out.setCell (p := ⟨w.heap.size + 1, 0, none⟩) (by show w.heap.size ≤ w.heap.size + 1; omega) _⟩
        · have HN := Lib.hid hd
          have HB0 : Hid (Below w.heap.size w w) := Lib.hid (Below.refl _ _)
          have HRu0 := Lib.hid (h)
          have HRt0 := Lib.hid (hh)
          have HRx0 := Lib.hid (hx)
          clear h hs hh hs2 hx ho
          clear hox hn hd
          go_enter Tryd.func15, Tryd.ntmps15
          go_wp2_with fail
          have hb : Below w.heap.size w (w.alloc (.cells #[.slice a1 xs.length c1] 27)) := (Below.refl _ _).alloc (Nat.le_refl _) _
          have hk : (w.alloc (.cells #[.slice a1 xs.length c1] 27)).heap[w.heap.size]? = some (.cells #[.slice a1 xs.length c1] 27 (0, 0)) := alloc_at rfl
          have hz : (w.alloc (.cells #[.slice a1 xs.length c1] 27)).heap.size = w.heap.size + 1 := by simp
          generalize w.alloc (.cells #[.slice a1 xs.length c1] 27) = w1 at hb hk hz ⊢
          have HB1 : Hid (Below w.heap.size w w1) := Lib.hid (HB0.out.trans (hb.mono HB0.out.size))
          have HZ1 : Hid (w.heap.size ≤ w1.heap.size) := Lib.hid hb.size
          have HRu1 := Lib.hid (HRu0.out.below HB1.out (Nat.le_refl _))
          have HRt1 := Lib.hid (HRt0.out.below HB1.out (Nat.le_refl _))
          have HRx1 := Lib.hid (HRx0.out.below HB1.out (Nat.le_refl _))
          have HKx1 := Lib.hid hk
          replace HZ1 : Hid (w.heap.size < w1.heap.size) := Lib.hid (by omega)
          have HE1 := Lib.hid hz
          clear hb hk hz
          have hb : Below w1.heap.size w1 (w1.alloc (.cells #[.slice none 0 0] 27)) := (Below.refl _ _).alloc (Nat.le_refl _) _
          have hk : (w1.alloc (.cells #[.slice none 0 0] 27)).heap[w.heap.size + 1]? = some (.cells #[.slice none 0 0] 27 (0, 0)) := alloc_at (by have := HE1.out; omega)
          have hz : (w1.alloc (.cells #[.slice none 0 0] 27)).heap.size = w1.heap.size + 1 := by simp
          generalize w1.alloc (.cells #[.slice none 0 0] 27) = w2 at hb hk hz ⊢
          have HB2 : Hid (Below w.heap.size w w2) := Lib.hid (HB1.out.trans (hb.mono HB1.out.size))
          have HZ2 : Hid (w1.heap.size ≤ w2.heap.size) := Lib.hid hb.size
          have HRu2 := Lib.hid (HRu0.out.below HB2.out (Nat.le_refl _))
          have HRt2 := Lib.hid (HRt0.out.below HB2.out (Nat.le_refl _))
          have HRx2 := Lib.hid (HRx0.out.below HB2.out (Nat.le_refl _))
          have HKx2 := Lib.hid ((hb.block _ (lt_of_block HKx1.out)).trans HKx1.out)
          have HKz2 := Lib.hid hk
          replace HZ2 : Hid (w1.heap.size < w2.heap.size) := Lib.hid (by omega)
          have HE2 := Lib.hid hz
          clear hb hk hz
          have hlz : w.heap.size + 1 < w2.heap.size := lt_of_block HKz2.out
          have ltx := lt_of_block HKx2.out
          obtain ⟨cx0, fx0⟩ := cell1 HKx2.out
          have ltz := lt_of_block HKz2.out
          obtain ⟨cz0, fz0⟩ := cell1 HKz2.out
          refine (iVal_any _ _ us xs _ HRu2.out HS.out HRx2.out (valA us xs) true (.inl ⟨HO.out, rfl, rfl⟩)).mono ?_
          rintro e w3 ⟨rfl, hb⟩
          have HB3 : Hid (Below w.heap.size w w3) := Lib.hid (HB2.out.trans (hb.mono HB2.out.size))
          have HZ3 : Hid (w2.heap.size ≤ w3.heap.size) := Lib.hid hb.size
          have HRu3 := Lib.hid (HRu0.out.below HB3.out (Nat.le_refl _))
          have HRt3 := Lib.hid (HRt0.out.below HB3.out (Nat.le_refl _))
          have HRx3 := Lib.hid (HRx0.out.below HB3.out (Nat.le_refl _))
          have HKx3 := Lib.hid ((hb.block _ (lt_of_block HKx2.out)).trans HKx2.out)
          have HKz3 := Lib.hid ((hb.block _ (lt_of_block HKz2.out)).trans HKz2.out)
          clear hb
          clear cx0 fx0 ltx cz0 fz0 ltz
          have ltx := lt_of_block HKx3.out
          obtain ⟨cx0, fx0⟩ := cell1 HKx3.out
          have ltz := lt_of_block HKz3.out
          obtain ⟨cz0, fz0⟩ := cell1 HKz3.out
          go_wp2_with fail
          refine (isInFr_any num _ true ⟨fun _ => HNU.out, fun _ => rfl⟩).mono ?_
          rintro e w' ⟨rfl, hw'⟩
          subst w'
          go_wp2_with fail
          refine (isInFr_any den _ false ⟨fun e => (by simp at e), fun e => absurd e HN.out⟩).mono ?_
          rintro e w' ⟨rfl, hw'⟩
          subst w'
          go_wp2_with fail
          exact bodyPost_ret (v := .tuple #[.agg #[.slice none 0 0], .bool false]) (by simp [results, Tryd.results15, go_sem, cz0]) rfl ⟨⟨_, rfl, OwA.nil _ _ _⟩, by first | exact HB3.out | exact HB3.out.setCell (p := ⟨w.heap.size + 1, 0, none⟩) (by show w.heap.size ≤ w.heap.size + 1; omega) _⟩
      · have HN := Lib.hid hn
        have HB0 : Hid (Below w.heap.size w w) := Lib.hid (Below.refl _ _)
        have HRu0 := Lib.hid (h)
        have HRt0 := Lib.hid (hh)
        have HRx0 := Lib.hid (hx)
        clear h hs hh hs2 hx ho
        clear hox hn
        go_enter Tryd.func15, Tryd.ntmps15
        go_wp2_with fail
        have hb : Below w.heap.size w (w.alloc (.cells #[.slice a1 xs.length c1] 27)) := (Below.refl _ _).alloc (Nat.le_refl _) _
        have hk : (w.alloc (.cells #[.slice a1 xs.length c1] 27)).heap[w.heap.size]? = some (.cells #[.slice a1 xs.length c1] 27 (0, 0)) := alloc_at rfl
        have hz : (w.alloc (.cells #[.slice a1 xs.length c1] 27)).heap.size = w.heap.size + 1 := by simp
        generalize w.alloc (.cells #[.slice a1 xs.length c1] 27) = w1 at hb hk hz ⊢
        have HB1 : Hid (Below w.heap.size w w1) := Lib.hid (HB0.out.trans (hb.mono HB0.out.size))
        have HZ1 : Hid (w.heap.size ≤ w1.heap.size) := Lib.hid hb.size
        have HRu1 := Lib.hid (HRu0.out.below HB1.out (Nat.le_refl _))
        have HRt1 := Lib.hid (HRt0.out.below HB1.out (Nat.le_refl _))
        have HRx1 := Lib.hid (HRx0.out.below HB1.out (Nat.le_refl _))
        have HKx1 := Lib.hid hk
        replace HZ1 : Hid (w.heap.size < w1.heap.size) := Lib.hid (by omega)
        have HE1 := Lib.hid hz
        clear hb hk hz
        have hb : Below w1.heap.size w1 (w1.alloc (.cells #[.slice none 0 0] 27)) := (Below.refl _ _).alloc (Nat.le_refl _) _
        have hk : (w1.alloc (.cells #[.slice none 0 0] 27)).heap[w.heap.size + 1]? = some (.cells #[.slice none 0 0] 27 (0, 0)) := alloc_at (by have := HE1.out; omega)
        have hz : (w1.alloc (.cells #[.slice none 0 0] 27)).heap.size = w1.heap.size + 1 := by simp
        generalize w1.alloc (.cells #[.slice none 0 0] 27) = w2 at hb hk hz ⊢
        have HB2 : Hid (Below w.heap.size w w2) := Lib.hid (HB1.out.trans (hb.mono HB1.out.size))
        have HZ2 : Hid (w1.heap.size ≤ w2.heap.size) := Lib.hid hb.size
        have HRu2 := Lib.hid (HRu0.out.below HB2.out (Nat.le_refl _))
        have HRt2 := Lib.hid (HRt0.out.below HB2.out (Nat.le_refl _))
        have HRx2 := Lib.hid (HRx0.out.below HB2.out (Nat.le_refl _))
        have HKx2 := Lib.hid ((hb.block _ (lt_of_block HKx1.out)).trans HKx1.out)
        have HKz2 := Lib.hid hk
        replace HZ2 : Hid (w1.heap.size < w2.heap.size) := Lib.hid (by omega)
        have HE2 := Lib.hid hz
        clear hb hk hz
        have hlz : w.heap.size + 1 < w2.heap.size := lt_of_block HKz2.out
        have ltx := lt_of_block HKx2.out
        obtain ⟨cx0, fx0⟩ := cell1 HKx2.out
        have ltz := lt_of_block HKz2.out
        obtain ⟨cz0, fz0⟩ := cell1 HKz2.out
        refine (iVal_any _ _ us xs _ HRu2.out HS.out HRx2.out (valA us xs) true (.inl ⟨HO.out, rfl, rfl⟩)).mono ?_
        rintro e w3 ⟨rfl, hb⟩
        have HB3 : Hid (Below w.heap.size w w3) := Lib.hid (HB2.out.trans (hb.mono HB2.out.size))
        have HZ3 : Hid (w2.heap.size ≤ w3.heap.size) := Lib.hid hb.size
        have HRu3 := Lib.hid (HRu0.out.below HB3.out (Nat.le_refl _))
        have HRt3 := Lib.hid (HRt0.out.below HB3.out (Nat.le_refl _))
        have HRx3 := Lib.hid (HRx0.out.below HB3.out (Nat.le_refl _))
        have HKx3 := Lib.hid ((hb.block _ (lt_of_block HKx2.out)).trans HKx2.out)
        have HKz3 := Lib.hid ((hb.block _ (lt_of_block HKz2.out)).trans HKz2.out)
        clear hb
        clear cx0 fx0 ltx cz0 fz0 ltz
        have ltx := lt_of_block HKx3.out
        obtain ⟨cx0, fx0⟩ := cell1 HKx3.out
        have ltz := lt_of_block HKz3.out
        obtain ⟨cz0, fz0⟩ := cell1 HKz3.out
        go_wp2_with fail
        refine (isInFr_any num _ false ⟨fun e => (by simp at e), fun e => absurd e HN.out⟩).mono ?_
        rintro e w' ⟨rfl, hw'⟩
        subst w'
        go_wp2_with fail
        exact bodyPost_ret (v := .tuple #[.agg #[.slice none 0 0], .bool false]) (by simp [results, Tryd.results15, go_sem, cz0]) rfl ⟨⟨_, rfl, OwA.nil _ _ _⟩, by first | exact HB3.out | exact HB3.out.setCell (p := ⟨w.heap.size + 1, 0, none⟩) (by show w.heap.size ≤ w.heap.size + 1; omega) _⟩
    · have HN := Lib.hid hox
      have HB0 : Hid (Below w.heap.size w w) := Lib.hid (Below.refl _ _)
      have HRu0 := Lib.hid (h)
      have HRt0 := Lib.hid (hh)
      have HRx0 := Lib.hid (hx)
      clear h hs hh hs2 hx ho
      clear hox
      go_enter Tryd.func15, Tryd.ntmps15
      go_wp2_with fail
      have hb : Below w.heap.size w (w.alloc (.cells #[.slice a1 xs.length c1] 27)) := (Below.refl _ _).alloc (Nat.le_refl _) _
      have hk : (w.alloc (.cells #[.slice a1 xs.length c1] 27)).heap[w.heap.size]? = some (.cells #[.slice a1 xs.length c1] 27 (0, 0)) := alloc_at rfl
      have hz : (w.alloc (.cells #[.slice a1 xs.length c1] 27)).heap.size = w.heap.size + 1 := by simp
      generalize w.alloc (.cells #[.slice a1 xs.length c1] 27) = w1 at hb hk hz ⊢
      have HB1 : Hid (Below w.heap.size w w1) := Lib.hid (HB0.out.trans (hb.mono HB0.out.size))
      have HZ1 : Hid (w.heap.size ≤ w1.heap.size) := Lib.hid hb.size
      have HRu1 := Lib.hid (HRu0.out.below HB1.out (Nat.le_refl _))
      have HRt1 := Lib.hid (HRt0.out.below HB1.out (Nat.le_refl _))
      have HRx1 := Lib.hid (HRx0.out.below HB1.out (Nat.le_refl _))
      have HKx1 := Lib.hid hk
      replace HZ1 : Hid (w.heap.size < w1.heap.size) := Lib.hid (by omega)
      have HE1 := Lib.hid hz
      clear hb hk hz
      have hb : Below w1.heap.size w1 (w1.alloc (.cells #[.slice none 0 0] 27)) := (Below.refl _ _).alloc (Nat.le_refl _) _
      have hk : (w1.alloc (.cells #[.slice none 0 0] 27)).heap[w.heap.size + 1]? = some (.cells #[.slice none 0 0] 27 (0, 0)) := alloc_at (by have := HE1.out; omega)
      have hz : (w1.alloc (.cells #[.slice none 0 0] 27)).heap.size = w1.heap.size + 1 := by simp
      generalize w1.alloc (.cells #[.slice none 0 0] 27) = w2 at hb hk hz ⊢
      have HB2 : Hid (Below w.heap.size w w2) := Lib.hid (HB1.out.trans (hb.mono HB1.out.size))
      have HZ2 : Hid (w1.heap.size ≤ w2.heap.size) := Lib.hid hb.size
      have HRu2 := Lib.hid (HRu0.out.below HB2.out (Nat.le_refl _))
      have HRt2 := Lib.hid (HRt0.out.below HB2.out (Nat.le_refl _))
      have HRx2 := Lib.hid (HRx0.out.below HB2.out (Nat.le_refl _))
      have HKx2 := Lib.hid ((hb.block _ (lt_of_block HKx1.out)).trans HKx1.out)
      have HKz2 := Lib.hid hk
      replace HZ2 : Hid (w1.heap.size < w2.heap.size) := Lib.hid (by omega)
      have HE2 := Lib.hid hz
      clear hb hk hz
      have hlz : w.heap.size + 1 < w2.heap.size := lt_of_block HKz2.out
      have ltx := lt_of_block HKx2.out
      obtain ⟨cx0, fx0⟩ := cell1 HKx2.out
      have ltz := lt_of_block HKz2.out
      obtain ⟨cz0, fz0⟩ := cell1 HKz2.out
      refine (iVal_any _ _ us xs _ HRu2.out HS.out HRx2.out 0 false (.inr ⟨HN.out, rfl, rfl⟩)).mono ?_
      rintro e w3 ⟨rfl, hb⟩
      have HB3 : Hid (Below w.heap.size w w3) := Lib.hid (HB2.out.trans (hb.mono HB2.out.size))
      have HZ3 : Hid (w2.heap.size ≤ w3.heap.size) := Lib.hid hb.size
      have HRu3 := Lib.hid (HRu0.out.below HB3.out (Nat.le_refl _))
      have HRt3 := Lib.hid (HRt0.out.below HB3.out (Nat.le_refl _))
      have HRx3 := Lib.hid (HRx0.out.below HB3.out (Nat.le_refl _))
      have HKx3 := Lib.hid ((hb.block _ (lt_of_block HKx2.out)).trans HKx2.out)
      have HKz3 := Lib.hid ((hb.block _ (lt_of_block HKz2.out)).trans HKz2.out)
      clear hb
      clear cx0 fx0 ltx cz0 fz0 ltz
      have ltx := lt_of_block HKx3.out
      obtain ⟨cx0, fx0⟩ := cell1 HKx3.out
      have ltz := lt_of_block HKz3.out
      obtain ⟨cz0, fz0⟩ := cell1 HKz3.out
      go_wp2_with fail
      exact bodyPost_ret (v := .tuple #[.agg #[.slice none 0 0], .bool false]) (by simp [results, Tryd.results15, go_sem, cz0]) rfl ⟨⟨_, rfl, OwA.nil _ _ _⟩, by first | exact HB3.out | exact HB3.out.setCell (p := ⟨w.heap.size + 1, 0, none⟩) (by show w.heap.size ≤ w.heap.size + 1; omega) _⟩
end Go.Proofs.YtghdmiimanhjgaaDoor
