/- The program's addition of a digit. -/
import Derived.Test.YtjkjaadcdolbhaaAdo
import Derived.Test.YtjkjaadcdolbhaaAdz
import Derived.Test.YtjkjaadcdolbhaaSet
import Derived.Test.YtjkjaadcdolbhaaMade
namespace Go.Proofs.Ytjkjaadcdolbhaa
set_option linter.unusedVariables false
open Go.RowKit

theorem not_good0 (u l : Int) : ¬ goodF u l [] := fun h => by have := h.2.2.2; simp at this
theorem clrI_any (up lo : Int) (rs : List (Int × Int)) : ∃ (fu fl : Int) (qs : List (Int × Int)) (t : Bool), (goodF up lo rs → fu = up ∧ fl = lo ∧ qs = forR rs.length 0) ∧ (¬ goodF up lo rs → ¬ goodF fu fl qs) ∧
    ∀ sv w, RodsR w sv rs → Calls Try.prog 111 #[.agg #[.int .i64 up, .int .i64 lo, sv]] w fun e w' => (∃ v, e = .returned (.tuple #[.agg #[.int .i64 fu, .int .i64 fl, v], .bool t]) ∧ w'.ownsRow w.heap.size 83 2 v qs.length (flat qs)) ∧ Below w.heap.size w w' := by
  by_cases hg : goodF up lo rs
  · exact ⟨up, lo, forR rs.length 0, true, fun _ => ⟨rfl, rfl, rfl⟩, fun h => absurd hg h, fun sv w h => implCleared_yes up lo sv rs w h hg⟩
  · exact ⟨0, 0, [], false, fun h => absurd h hg, fun _ => not_good0 _ _, fun sv w h => implCleared_no up lo sv rs w h hg⟩
theorem setI_any (up lo : Int) (rs : List (Int × Int)) (q d : Int) : ∃ (fu fl : Int) (qs : List (Int × Int)) (t : Bool), (goodF up lo rs → ∀ k : Nat, q = k → k < rs.length → 0 ≤ d → d ≤ 9 → fu = up ∧ fl = lo ∧ qs = rs.set k (digR d)) ∧ (¬ (goodF up lo rs ∧ (0 ≤ q ∧ q ≤ (rs.length : Int) - 1) ∧ (0 ≤ d ∧ d ≤ 9)) → ¬ goodF fu fl qs) ∧
    ∀ sv w, RodsR w sv rs → Calls Try.prog 112 #[.agg #[.int .i64 up, .int .i64 lo, sv], .int .i64 q, .int .i64 d] w fun e w' => (∃ v, e = .returned (.tuple #[.agg #[.int .i64 fu, .int .i64 fl, v], .bool t]) ∧ w'.ownsRow w.heap.size 83 2 v qs.length (flat qs)) ∧ Below w.heap.size w w' := by
  by_cases hg : goodF up lo rs
  · by_cases hq : 0 ≤ q ∧ q ≤ (rs.length : Int) - 1
    · by_cases hd : 0 ≤ d ∧ d ≤ 9
      · obtain ⟨k, rfl⟩ : ∃ k : Nat, q = (k : Int) := ⟨q.toNat, by omega⟩
        refine ⟨up, lo, rs.set k (digR d), true, fun _ j hj _ _ _ => ?_, fun h => absurd ⟨hg, hq, hd⟩ h, fun sv w h => implSetRod_ok up lo sv rs w h k d hg (by omega) hd.1 hd.2⟩
        obtain rfl : k = j := by omega
        exact ⟨rfl, rfl, rfl⟩
      · exact ⟨0, 0, [], false, fun _ _ _ _ h1 h2 => absurd ⟨h1, h2⟩ hd, fun _ => not_good0 _ _, fun sv w h => implSetRod_dig up lo sv rs w h q d hg hq hd⟩
    · exact ⟨0, 0, [], false, fun _ k hk hl _ _ => absurd ⟨by omega, by omega⟩ hq, fun _ => not_good0 _ _, fun sv w h => implSetRod_out up lo sv rs w h q d hg hq⟩
  · exact ⟨0, 0, [], false, fun h => absurd h hg, fun _ => not_good0 _ _, fun sv w h => implSetRod_bad up lo sv rs w h q d hg⟩
theorem nmI_any (up lo : Int) (rs : List (Int × Int)) : ∃ (n : Int) (t : Bool), (goodF up lo rs → n = numF rs ∧ t = true) ∧ (¬ goodF up lo rs → t = false) ∧ (0 ≤ n ∧ n ≤ 200000000) ∧ ∀ sv w, RodsR w sv rs → Calls Try.prog 21 #[.agg #[.int .i64 up, .int .i64 lo, sv]] w fun e w' => e = .returned (.tuple #[.int .i64 n, .bool t]) ∧ Below w.heap.size w w' := by
  by_cases hg : goodF up lo rs
  · exact ⟨numF rs, true, fun _ => ⟨rfl, rfl⟩, fun h => absurd hg h, numF_top up lo rs hg, fun sv w h => implNumberOn_yes up lo sv rs w h hg⟩
  · exact ⟨0, false, fun h => absurd h hg, fun _ => rfl, by omega, fun sv w h => implNumberOn_no up lo sv rs w h hg⟩

set_option maxRecDepth 100000 in
set_option maxHeartbeats 3200000 in
theorem adDg_no (up lo : Int) (sv : Value) (rs : List (Int × Int)) (q d : Int) (w : World) (h : RodsR w sv rs) (hc : ¬ canD up lo rs q d) :
    Calls Try.prog 73 #[.agg #[.int .i64 up, .int .i64 lo, sv], .int .i64 q, .int .i64 d] w fun e w' => e = .returned (.tuple #[.agg #[.int .i64 0, .int .i64 0, .slice none 0 0, .slice none 0 0, .int .i64 0, .int .i64 0, .int .i64 0, .int .i64 0, .int .i64 0], .bool false]) ∧ Below w.heap.size w w' := by
  obtain ⟨a, cp, rfl⟩ : ∃ a c, sv = .slice a rs.length c := by obtain ⟨a, c, e, _⟩ := h; exact ⟨a, c, e⟩
  have hm : rs.length ≤ 9223372036854775807 := by obtain ⟨_, _, _, ⟨m, _⟩, _⟩ := h; exact m
  obtain ⟨f1, l1, q1, t1, hc1, hc2, hC⟩ := clrI_any up lo rs
  obtain ⟨f2, l2, q2, t2, hs1, hs2, hS⟩ := setI_any f1 l1 q1 q d
  obtain ⟨n, t3, hn1, hn2, hnb, hN⟩ := nmI_any f2 l2 q2
  have hno : t3 = false ∨ ¬ canF up lo rs n := by
    by_cases hg : goodF up lo rs
    · obtain ⟨rfl, rfl, rfl⟩ := hc1 hg
      by_cases hq : 0 ≤ q ∧ q ≤ (rs.length : Int) - 1
      · by_cases hd : 0 ≤ d ∧ d ≤ 9
        · right
          obtain ⟨k, rfl⟩ : ∃ k : Nat, q = (k : Int) := ⟨q.toNat, by omega⟩
          have hk : k < rs.length := by omega
          have hgz := forR_good f1 l1 rs.length 0 hg.2.1 hg.2.2.1 hg.2.2.2
          obtain ⟨rfl, rfl, rfl⟩ := hs1 hgz k rfl (by rw [forR_len]; exact hk) hd.1 hd.2
          have hg3 : goodF f2 l2 ((forR rs.length 0).set k (digR d)) := ⟨fun i hi => by
            rw [List.length_set] at hi
            by_cases e : k = i
            · subst e; rw [List.getElem_set_self]; have := digR_bd d hd.1 hd.2; have := hg.2; exact ⟨⟨by omega, by omega⟩, by omega, by omega⟩
            · rw [List.getElem_set_ne e]; exact hgz.1 i hi, hg.2.1, hg.2.2.1, by rw [List.length_set, forR_len]; exact hg.2.2.2⟩
          obtain ⟨rfl, _⟩ := hn1 hg3
          rw [numF_one _ _ _ hk]
          exact fun h' => hc ((canD_F hk hd.1 hd.2).1 h')
        · exact Or.inl (hn2 (hs2 fun h' => hd h'.2.2))
      · exact Or.inl (hn2 (hs2 fun h' => hq (by rw [forR_len] at h'; exact h'.2.1)))
    · exact Or.inl (hn2 (hs2 fun h' => hc2 hg h'.1))
  have HNO := Lib.hid hno
  clear hc hno
  have HC := Lib.hid hC
  have HS := Lib.hid hS
  have HN := Lib.hid hN
  have HNB := Lib.hid hnb
  have HB0 : Hid (Below w.heap.size w w) := Lib.hid (Below.refl _ _)
  have HRf0 := Lib.hid (h)
  clear h hC hS hN hc1 hc2 hs1 hs2 hn1 hn2 hnb
  go_enter Try.func73, Try.ntmps73
  go_wp2_with fail
  have hb : Below w.heap.size w (w.alloc (.cells #[.int .i64 up, .int .i64 lo, .slice a rs.length cp] 26)) := (Below.refl _ _).alloc (Nat.le_refl _) _
  have hk : (w.alloc (.cells #[.int .i64 up, .int .i64 lo, .slice a rs.length cp] 26)).heap[w.heap.size]? = some (.cells #[.int .i64 up, .int .i64 lo, .slice a rs.length cp] 26 (0, 0)) := alloc_at rfl
  have hz : (w.alloc (.cells #[.int .i64 up, .int .i64 lo, .slice a rs.length cp] 26)).heap.size = w.heap.size + 1 := by simp
  generalize w.alloc (.cells #[.int .i64 up, .int .i64 lo, .slice a rs.length cp] 26) = w1 at hb hk hz ⊢
  have HB1 : Hid (Below w.heap.size w w1) := Lib.hid (HB0.out.trans (hb.mono HB0.out.size))
  have HZ1 : Hid (w.heap.size ≤ w1.heap.size) := Lib.hid hb.size
  have HRf1 := Lib.hid (HRf0.out.below HB1.out (Nat.le_refl _))
  have HKf1 := Lib.hid hk
  replace HZ1 : Hid (w.heap.size < w1.heap.size) := Lib.hid (by omega)
  have HE1 := Lib.hid hz
  clear hb hk hz
  have hb : Below w1.heap.size w1 (w1.alloc (.cells #[.int .i64 0, .int .i64 0, .slice none 0 0, .slice none 0 0, .int .i64 0, .int .i64 0, .int .i64 0, .int .i64 0, .int .i64 0] 78)) := (Below.refl _ _).alloc (Nat.le_refl _) _
  have hk : (w1.alloc (.cells #[.int .i64 0, .int .i64 0, .slice none 0 0, .slice none 0 0, .int .i64 0, .int .i64 0, .int .i64 0, .int .i64 0, .int .i64 0] 78)).heap[w.heap.size + 1]? = some (.cells #[.int .i64 0, .int .i64 0, .slice none 0 0, .slice none 0 0, .int .i64 0, .int .i64 0, .int .i64 0, .int .i64 0, .int .i64 0] 78 (0, 0)) := alloc_at (by have := HE1.out; omega)
  have hz : (w1.alloc (.cells #[.int .i64 0, .int .i64 0, .slice none 0 0, .slice none 0 0, .int .i64 0, .int .i64 0, .int .i64 0, .int .i64 0, .int .i64 0] 78)).heap.size = w1.heap.size + 1 := by simp
  generalize w1.alloc (.cells #[.int .i64 0, .int .i64 0, .slice none 0 0, .slice none 0 0, .int .i64 0, .int .i64 0, .int .i64 0, .int .i64 0, .int .i64 0] 78) = w2 at hb hk hz ⊢
  have HB2 : Hid (Below w.heap.size w w2) := Lib.hid (HB1.out.trans (hb.mono HB1.out.size))
  have HZ2 : Hid (w1.heap.size ≤ w2.heap.size) := Lib.hid hb.size
  have HRf2 := Lib.hid (HRf0.out.below HB2.out (Nat.le_refl _))
  have HKf2 := Lib.hid ((hb.block _ (lt_of_block HKf1.out)).trans HKf1.out)
  have HKz2 := Lib.hid hk
  replace HZ2 : Hid (w1.heap.size < w2.heap.size) := Lib.hid (by omega)
  have HE2 := Lib.hid hz
  clear hb hk hz
  have ltf := lt_of_block HKf2.out
  obtain ⟨cf0, cf1, cf2, ff0, ff1, ff2⟩ := cell3 HKf2.out
  have ltz := lt_of_block HKz2.out
  obtain ⟨cz0, cz1, cz2, cz3, cz4, cz5, cz6, cz7, cz8, fz0, fz1, fz2, fz3, fz4, fz5, fz6, fz7, fz8⟩ := cell9 HKz2.out
  go_wp2_with fail
  refine (HC.out _ _ HRf2.out).mono ?_
  rintro e w3 ⟨⟨v1, rfl, oa⟩, hb⟩
  have HB3 : Hid (Below w.heap.size w w3) := Lib.hid (HB2.out.trans (hb.mono HB2.out.size))
  have HZ3 : Hid (w2.heap.size ≤ w3.heap.size) := Lib.hid hb.size
  have HRf3 := Lib.hid (HRf0.out.below HB3.out (Nat.le_refl _))
  have HKf3 := Lib.hid ((hb.block _ (lt_of_block HKf2.out)).trans HKf2.out)
  have HKz3 := Lib.hid ((hb.block _ (lt_of_block HKz2.out)).trans HKz2.out)
  clear hb
  obtain ⟨p1, k1, rfl⟩ := own_form oa
  have HRc3 := Lib.hid ((RodsR.of_own oa))
  have HBs3_3 : Hid (Below w3.heap.size w3 w3) := Lib.hid (Below.refl _ _)
  clear oa
  clear cf0 cf1 cf2 ff0 ff1 ff2 ltf cz0 cz1 cz2 cz3 cz4 cz5 cz6 cz7 cz8 fz0 fz1 fz2 fz3 fz4 fz5 fz6 fz7 fz8 ltz
  have ltf := lt_of_block HKf3.out
  obtain ⟨cf0, cf1, cf2, ff0, ff1, ff2⟩ := cell3 HKf3.out
  have ltz := lt_of_block HKz3.out
  obtain ⟨cz0, cz1, cz2, cz3, cz4, cz5, cz6, cz7, cz8, fz0, fz1, fz2, fz3, fz4, fz5, fz6, fz7, fz8⟩ := cell9 HKz3.out
  go_wp2_with fail
  have hb : Below w3.heap.size w3 (w3.alloc (.cells #[.int .i64 f1, .int .i64 l1, .slice p1 q1.length k1] 26)) := (Below.refl _ _).alloc (Nat.le_refl _) _
  have hk : (w3.alloc (.cells #[.int .i64 f1, .int .i64 l1, .slice p1 q1.length k1] 26)).heap[w3.heap.size]? = some (.cells #[.int .i64 f1, .int .i64 l1, .slice p1 q1.length k1] 26 (0, 0)) := alloc_at rfl
  have hz : (w3.alloc (.cells #[.int .i64 f1, .int .i64 l1, .slice p1 q1.length k1] 26)).heap.size = w3.heap.size + 1 := by simp
  generalize w3.alloc (.cells #[.int .i64 f1, .int .i64 l1, .slice p1 q1.length k1] 26) = w4 at hb hk hz ⊢
  have HB4 : Hid (Below w.heap.size w w4) := Lib.hid (HB3.out.trans (hb.mono HB3.out.size))
  have HZ4 : Hid (w3.heap.size ≤ w4.heap.size) := Lib.hid hb.size
  have HRf4 := Lib.hid (HRf0.out.below HB4.out (Nat.le_refl _))
  have HKf4 := Lib.hid ((hb.block _ (lt_of_block HKf3.out)).trans HKf3.out)
  have HKz4 := Lib.hid ((hb.block _ (lt_of_block HKz3.out)).trans HKz3.out)
  have HRc4 := Lib.hid (HRc3.out.below hb (Nat.le_refl _))
  have HBs3_4 : Hid (Below w3.heap.size w3 w4) := Lib.hid (HBs3_3.out.trans (hb.mono HBs3_3.out.size))
  have HKt4 := Lib.hid hk
  replace HZ4 : Hid (w3.heap.size < w4.heap.size) := Lib.hid (by omega)
  have HE4 := Lib.hid hz
  clear hb hk hz
  refine (HS.out _ _ HRc4.out).mono ?_
  rintro e w5 ⟨⟨v2, rfl, oa⟩, hb⟩
  have HB5 : Hid (Below w.heap.size w w5) := Lib.hid (HB4.out.trans (hb.mono HB4.out.size))
  have HZ5 : Hid (w4.heap.size ≤ w5.heap.size) := Lib.hid hb.size
  have HRf5 := Lib.hid (HRf0.out.below HB5.out (Nat.le_refl _))
  have HKf5 := Lib.hid ((hb.block _ (lt_of_block HKf4.out)).trans HKf4.out)
  have HKz5 := Lib.hid ((hb.block _ (lt_of_block HKz4.out)).trans HKz4.out)
  have HRc5 := Lib.hid (HRc4.out.below hb (Nat.le_refl _))
  have HKt5 := Lib.hid ((hb.block _ (lt_of_block HKt4.out)).trans HKt4.out)
  have HBs3_5 : Hid (Below w3.heap.size w3 w5) := Lib.hid (HBs3_4.out.trans (hb.mono HBs3_4.out.size))
  clear hb
  obtain ⟨p2, k2, rfl⟩ := own_form oa
  have HRs5 := Lib.hid ((RodsR.of_own oa))
  have HBs5_5 : Hid (Below w5.heap.size w5 w5) := Lib.hid (Below.refl _ _)
  clear oa
  clear cf0 cf1 cf2 ff0 ff1 ff2 ltf cz0 cz1 cz2 cz3 cz4 cz5 cz6 cz7 cz8 fz0 fz1 fz2 fz3 fz4 fz5 fz6 fz7 fz8 ltz
  have ltf := lt_of_block HKf5.out
  obtain ⟨cf0, cf1, cf2, ff0, ff1, ff2⟩ := cell3 HKf5.out
  have ltz := lt_of_block HKz5.out
  obtain ⟨cz0, cz1, cz2, cz3, cz4, cz5, cz6, cz7, cz8, fz0, fz1, fz2, fz3, fz4, fz5, fz6, fz7, fz8⟩ := cell9 HKz5.out
  have ltt := lt_of_block HKt5.out
  obtain ⟨ct0, ct1, ct2, ft0, ft1, ft2⟩ := cell3 HKt5.out
  go_wp2_with fail
  have hb : Below w5.heap.size w5 (w5.alloc (.cells #[.int .i64 f2, .int .i64 l2, .slice p2 q2.length k2] 26)) := (Below.refl _ _).alloc (Nat.le_refl _) _
  have hk : (w5.alloc (.cells #[.int .i64 f2, .int .i64 l2, .slice p2 q2.length k2] 26)).heap[w5.heap.size]? = some (.cells #[.int .i64 f2, .int .i64 l2, .slice p2 q2.length k2] 26 (0, 0)) := alloc_at rfl
  have hz : (w5.alloc (.cells #[.int .i64 f2, .int .i64 l2, .slice p2 q2.length k2] 26)).heap.size = w5.heap.size + 1 := by simp
  generalize w5.alloc (.cells #[.int .i64 f2, .int .i64 l2, .slice p2 q2.length k2] 26) = w6 at hb hk hz ⊢
  have HB6 : Hid (Below w.heap.size w w6) := Lib.hid (HB5.out.trans (hb.mono HB5.out.size))
  have HZ6 : Hid (w5.heap.size ≤ w6.heap.size) := Lib.hid hb.size
  have HRf6 := Lib.hid (HRf0.out.below HB6.out (Nat.le_refl _))
  have HKf6 := Lib.hid ((hb.block _ (lt_of_block HKf5.out)).trans HKf5.out)
  have HKz6 := Lib.hid ((hb.block _ (lt_of_block HKz5.out)).trans HKz5.out)
  have HRc6 := Lib.hid (HRc5.out.below hb (Nat.le_refl _))
  have HKt6 := Lib.hid ((hb.block _ (lt_of_block HKt5.out)).trans HKt5.out)
  have HRs6 := Lib.hid (HRs5.out.below hb (Nat.le_refl _))
  have HBs3_6 : Hid (Below w3.heap.size w3 w6) := Lib.hid (HBs3_5.out.trans (hb.mono HBs3_5.out.size))
  have HBs5_6 : Hid (Below w5.heap.size w5 w6) := Lib.hid (HBs5_5.out.trans (hb.mono HBs5_5.out.size))
  have HKs6 := Lib.hid hk
  replace HZ6 : Hid (w5.heap.size < w6.heap.size) := Lib.hid (by omega)
  have HE6 := Lib.hid hz
  clear hb hk hz
  refine (HN.out _ _ HRs6.out).mono ?_
  rintro e w7 ⟨rfl, hb⟩
  have HB7 : Hid (Below w.heap.size w w7) := Lib.hid (HB6.out.trans (hb.mono HB6.out.size))
  have HZ7 : Hid (w6.heap.size ≤ w7.heap.size) := Lib.hid hb.size
  have HRf7 := Lib.hid (HRf0.out.below HB7.out (Nat.le_refl _))
  have HKf7 := Lib.hid ((hb.block _ (lt_of_block HKf6.out)).trans HKf6.out)
  have HKz7 := Lib.hid ((hb.block _ (lt_of_block HKz6.out)).trans HKz6.out)
  have HRc7 := Lib.hid (HRc6.out.below hb (Nat.le_refl _))
  have HKt7 := Lib.hid ((hb.block _ (lt_of_block HKt6.out)).trans HKt6.out)
  have HRs7 := Lib.hid (HRs6.out.below hb (Nat.le_refl _))
  have HKs7 := Lib.hid ((hb.block _ (lt_of_block HKs6.out)).trans HKs6.out)
  have HBs3_7 : Hid (Below w3.heap.size w3 w7) := Lib.hid (HBs3_6.out.trans (hb.mono HBs3_6.out.size))
  have HBs5_7 : Hid (Below w5.heap.size w5 w7) := Lib.hid (HBs5_6.out.trans (hb.mono HBs5_6.out.size))
  clear hb
  cases t3 with
  | false =>
    clear cf0 cf1 cf2 ff0 ff1 ff2 ltf cz0 cz1 cz2 cz3 cz4 cz5 cz6 cz7 cz8 fz0 fz1 fz2 fz3 fz4 fz5 fz6 fz7 fz8 ltz ct0 ct1 ct2 ft0 ft1 ft2 ltt
    have ltf := lt_of_block HKf7.out
    obtain ⟨cf0, cf1, cf2, ff0, ff1, ff2⟩ := cell3 HKf7.out
    have ltz := lt_of_block HKz7.out
    obtain ⟨cz0, cz1, cz2, cz3, cz4, cz5, cz6, cz7, cz8, fz0, fz1, fz2, fz3, fz4, fz5, fz6, fz7, fz8⟩ := cell9 HKz7.out
    have ltt := lt_of_block HKt7.out
    obtain ⟨ct0, ct1, ct2, ft0, ft1, ft2⟩ := cell3 HKt7.out
    have lts := lt_of_block HKs7.out
    obtain ⟨cs0, cs1, cs2, fs0, fs1, fs2⟩ := cell3 HKs7.out
    go_wp2_with fail
    exact bodyPost_ret (v := .tuple #[.agg #[.int .i64 0, .int .i64 0, .slice none 0 0, .slice none 0 0, .int .i64 0, .int .i64 0, .int .i64 0, .int .i64 0, .int .i64 0], .bool false]) (by simp [results, Try.results73, go_sem, cz0, cz1, cz2, cz3, cz4, cz5, cz6, cz7, cz8]) rfl ⟨rfl, bl_set9 HB7.out (Nat.le_succ _) _ _ _ _ _ _ _ _ _⟩
  | true =>
    have hcn : ¬ canF up lo rs n := by rcases HNO.out with h' | h'; cases h'; exact h'
    have HCN := Lib.hid hcn
    clear hcn
    clear cf0 cf1 cf2 ff0 ff1 ff2 ltf cz0 cz1 cz2 cz3 cz4 cz5 cz6 cz7 cz8 fz0 fz1 fz2 fz3 fz4 fz5 fz6 fz7 fz8 ltz ct0 ct1 ct2 ft0 ft1 ft2 ltt
    have ltf := lt_of_block HKf7.out
    obtain ⟨cf0, cf1, cf2, ff0, ff1, ff2⟩ := cell3 HKf7.out
    have ltz := lt_of_block HKz7.out
    obtain ⟨cz0, cz1, cz2, cz3, cz4, cz5, cz6, cz7, cz8, fz0, fz1, fz2, fz3, fz4, fz5, fz6, fz7, fz8⟩ := cell9 HKz7.out
    have ltt := lt_of_block HKt7.out
    obtain ⟨ct0, ct1, ct2, ft0, ft1, ft2⟩ := cell3 HKt7.out
    have lts := lt_of_block HKs7.out
    obtain ⟨cs0, cs1, cs2, fs0, fs1, fs2⟩ := cell3 HKs7.out
    go_wp2_with fail
    refine (adOf_no up lo _ rs n _ HRf7.out ⟨by have := HNB.out; omega, by have := HNB.out; omega⟩ HCN.out).mono ?_
    rintro e w8 ⟨rfl, hb⟩
    have HB8 : Hid (Below w.heap.size w w8) := Lib.hid (HB7.out.trans (hb.mono HB7.out.size))
    have HZ8 : Hid (w7.heap.size ≤ w8.heap.size) := Lib.hid hb.size
    have HRf8 := Lib.hid (HRf0.out.below HB8.out (Nat.le_refl _))
    have HKf8 := Lib.hid ((hb.block _ (lt_of_block HKf7.out)).trans HKf7.out)
    have HKz8 := Lib.hid ((hb.block _ (lt_of_block HKz7.out)).trans HKz7.out)
    have HRc8 := Lib.hid (HRc7.out.below hb (Nat.le_refl _))
    have HKt8 := Lib.hid ((hb.block _ (lt_of_block HKt7.out)).trans HKt7.out)
    have HRs8 := Lib.hid (HRs7.out.below hb (Nat.le_refl _))
    have HKs8 := Lib.hid ((hb.block _ (lt_of_block HKs7.out)).trans HKs7.out)
    have HBs3_8 : Hid (Below w3.heap.size w3 w8) := Lib.hid (HBs3_7.out.trans (hb.mono HBs3_7.out.size))
    have HBs5_8 : Hid (Below w5.heap.size w5 w8) := Lib.hid (HBs5_7.out.trans (hb.mono HBs5_7.out.size))
    clear hb
    clear cf0 cf1 cf2 ff0 ff1 ff2 ltf cz0 cz1 cz2 cz3 cz4 cz5 cz6 cz7 cz8 fz0 fz1 fz2 fz3 fz4 fz5 fz6 fz7 fz8 ltz ct0 ct1 ct2 ft0 ft1 ft2 ltt cs0 cs1 cs2 fs0 fs1 fs2 lts
    have ltf := lt_of_block HKf8.out
    obtain ⟨cf0, cf1, cf2, ff0, ff1, ff2⟩ := cell3 HKf8.out
    have ltz := lt_of_block HKz8.out
    obtain ⟨cz0, cz1, cz2, cz3, cz4, cz5, cz6, cz7, cz8, fz0, fz1, fz2, fz3, fz4, fz5, fz6, fz7, fz8⟩ := cell9 HKz8.out
    have ltt := lt_of_block HKt8.out
    obtain ⟨ct0, ct1, ct2, ft0, ft1, ft2⟩ := cell3 HKt8.out
    have lts := lt_of_block HKs8.out
    obtain ⟨cs0, cs1, cs2, fs0, fs1, fs2⟩ := cell3 HKs8.out
    go_wp2_with fail
    exact bodyPost_ret (v := .tuple #[.agg #[.int .i64 0, .int .i64 0, .slice none 0 0, .slice none 0 0, .int .i64 0, .int .i64 0, .int .i64 0, .int .i64 0, .int .i64 0], .bool false]) (by simp [results, Try.results73, go_sem, cz0, cz1, cz2, cz3, cz4, cz5, cz6, cz7, cz8]) rfl ⟨rfl, bl_set9 HB8.out (Nat.le_succ _) _ _ _ _ _ _ _ _ _⟩

set_option maxRecDepth 100000 in
set_option maxHeartbeats 3200000 in
theorem adDg_yes (up lo : Int) (sv : Value) (rs : List (Int × Int)) (qn : Nat) (d : Int) (w : World) (h : RodsR w sv rs) (hc : canD up lo rs qn d) :
    Calls Try.prog 73 #[.agg #[.int .i64 up, .int .i64 lo, sv], .int .i64 qn, .int .i64 d] w fun e w' => (∃ (s1 : Value) (g1 k1 : Nat) (j0 j1 j2 j3 : Int), e = .returned (.tuple #[.agg #[.int .i64 up, .int .i64 lo, s1, .slice (some ⟨g1, 0, none⟩) (chM (qn + 1) d rs).length k1, .int .i64 ((chC (qn + 1) d rs : Nat) : Int), .int .i64 j0, .int .i64 j1, .int .i64 j2, .int .i64 j3], .bool true]) ∧
      w'.ownsRow w.heap.size 83 2 s1 (chR (qn + 1) d rs).length (flat (chR (qn + 1) d rs)) ∧ w'.ownsRow w.heap.size 75 3 (.slice (some ⟨g1, 0, none⟩) (chM (qn + 1) d rs).length k1) (chM (qn + 1) d rs).length (flatC mvC (chM (qn + 1) d rs))) ∧ Below w.heap.size w w' := by
  obtain ⟨q, hqn⟩ : ∃ q : Int, q = (qn : Int) := ⟨_, rfl⟩
  rw [← hqn]
  obtain ⟨a, cp, rfl⟩ : ∃ a c, sv = .slice a rs.length c := by obtain ⟨a, c, e, _⟩ := h; exact ⟨a, c, e⟩
  have hm : rs.length ≤ 9223372036854775807 := by obtain ⟨_, _, _, ⟨m, _⟩, _⟩ := h; exact m
  obtain ⟨f1, l1, q1, t1, hc1, hc2, hC⟩ := clrI_any up lo rs
  obtain ⟨f2, l2, q2, t2, hs1, hs2, hS⟩ := setI_any f1 l1 q1 q d
  obtain ⟨n, t3, hn1, hn2, hnb, hN⟩ := nmI_any f2 l2 q2
  obtain ⟨hg, hst, hq, hd, hT⟩ := hc
  have hk : qn < rs.length := by omega
  obtain ⟨e1, e2, e3⟩ := go_digit rs.length qn d rs hk hd.1 hd.2
  have hF : canF up lo rs (d * 10 ^ (rs.length - 1 - qn)) := (canD_F hk hd.1 hd.2).2 ⟨hg, hst, hq, hd, hT⟩
  have HE1 := Lib.hid e1
  have HE2 := Lib.hid e2
  have HE3 := Lib.hid e3
  clear e1 e2 e3
  obtain ⟨rfl, rfl, rfl⟩ := hc1 hg
  have hgz := forR_good f1 l1 rs.length 0 hg.2.1 hg.2.2.1 hg.2.2.2
  obtain ⟨rfl, rfl, hq2⟩ := hs1 hgz qn hqn (by rw [forR_len]; exact hk) hd.1 hd.2
  have hg3 : goodF f2 l2 ((forR rs.length 0).set qn (digR d)) := ⟨fun i hi => by
    rw [List.length_set] at hi
    by_cases e : qn = i
    · subst e; rw [List.getElem_set_self]; have := digR_bd d hd.1 hd.2; have := hg.2; exact ⟨⟨by omega, by omega⟩, by omega, by omega⟩
    · rw [List.getElem_set_ne e]; exact hgz.1 i hi, hg.2.1, hg.2.2.1, by rw [List.length_set, forR_len]; exact hg.2.2.2⟩
  obtain ⟨hnn, rfl⟩ := hn1 (by rw [hq2]; exact hg3)
  rw [hq2, numF_one _ _ _ hk] at hnn
  have HF := Lib.hid hF
  have HNN := Lib.hid hnn
  have HCC : Hid (canF f2 l2 rs n) := Lib.hid (by rw [hnn]; exact hF)
  obtain ⟨MT, hMT⟩ : ∃ MT, MT = chM (qn + 1) d rs := ⟨_, rfl⟩
  obtain ⟨RT, hRT⟩ : ∃ RT, RT = chR (qn + 1) d rs := ⟨_, rfl⟩
  obtain ⟨CT, hCT⟩ : ∃ CT, CT = chC (qn + 1) d rs := ⟨_, rfl⟩
  have GM : Hid (goM 0 (digs rs.length n) rs = MT) := Lib.hid (by rw [hnn, hMT]; exact HE1.out)
  have GR : Hid (goR 0 (digs rs.length n) rs = RT) := Lib.hid (by rw [hnn, hRT]; exact HE2.out)
  have GC : Hid (goC 0 (digs rs.length n) rs = CT) := Lib.hid (by rw [hnn, hCT]; exact HE3.out)
  rw [← hMT, ← hRT, ← hCT]
  obtain ⟨z0, hz0⟩ : ∃ z0, z0 = forR rs.length 0 := ⟨_, rfl⟩
  rw [← hz0] at hC hS
  clear hgz hg3 hnn hF hq2 hg hst hq hd hT hk hMT hRT hCT hqn hz0 HE1 HE2 HE3 HF HNN hc1 hc2 hs1 hs2 hn1 hn2
  have HC := Lib.hid hC
  have HS := Lib.hid hS
  have HN := Lib.hid hN
  have HNB := Lib.hid hnb
  have HB0 : Hid (Below w.heap.size w w) := Lib.hid (Below.refl _ _)
  have HRf0 := Lib.hid (h)
  clear h hC hS hN hnb
  go_enter Try.func73, Try.ntmps73
  go_wp2_with fail
  have hb : Below w.heap.size w (w.alloc (.cells #[.int .i64 f2, .int .i64 l2, .slice a rs.length cp] 26)) := (Below.refl _ _).alloc (Nat.le_refl _) _
  have hk : (w.alloc (.cells #[.int .i64 f2, .int .i64 l2, .slice a rs.length cp] 26)).heap[w.heap.size]? = some (.cells #[.int .i64 f2, .int .i64 l2, .slice a rs.length cp] 26 (0, 0)) := alloc_at rfl
  have hz : (w.alloc (.cells #[.int .i64 f2, .int .i64 l2, .slice a rs.length cp] 26)).heap.size = w.heap.size + 1 := by simp
  generalize w.alloc (.cells #[.int .i64 f2, .int .i64 l2, .slice a rs.length cp] 26) = w1 at hb hk hz ⊢
  have HB1 : Hid (Below w.heap.size w w1) := Lib.hid (HB0.out.trans (hb.mono HB0.out.size))
  have HZ1 : Hid (w.heap.size ≤ w1.heap.size) := Lib.hid hb.size
  have HRf1 := Lib.hid (HRf0.out.below HB1.out (Nat.le_refl _))
  have HKf1 := Lib.hid hk
  replace HZ1 : Hid (w.heap.size < w1.heap.size) := Lib.hid (by omega)
  have HE1 := Lib.hid hz
  clear hb hk hz
  have hb : Below w1.heap.size w1 (w1.alloc (.cells #[.int .i64 0, .int .i64 0, .slice none 0 0, .slice none 0 0, .int .i64 0, .int .i64 0, .int .i64 0, .int .i64 0, .int .i64 0] 78)) := (Below.refl _ _).alloc (Nat.le_refl _) _
  have hk : (w1.alloc (.cells #[.int .i64 0, .int .i64 0, .slice none 0 0, .slice none 0 0, .int .i64 0, .int .i64 0, .int .i64 0, .int .i64 0, .int .i64 0] 78)).heap[w.heap.size + 1]? = some (.cells #[.int .i64 0, .int .i64 0, .slice none 0 0, .slice none 0 0, .int .i64 0, .int .i64 0, .int .i64 0, .int .i64 0, .int .i64 0] 78 (0, 0)) := alloc_at (by have := HE1.out; omega)
  have hz : (w1.alloc (.cells #[.int .i64 0, .int .i64 0, .slice none 0 0, .slice none 0 0, .int .i64 0, .int .i64 0, .int .i64 0, .int .i64 0, .int .i64 0] 78)).heap.size = w1.heap.size + 1 := by simp
  generalize w1.alloc (.cells #[.int .i64 0, .int .i64 0, .slice none 0 0, .slice none 0 0, .int .i64 0, .int .i64 0, .int .i64 0, .int .i64 0, .int .i64 0] 78) = w2 at hb hk hz ⊢
  have HB2 : Hid (Below w.heap.size w w2) := Lib.hid (HB1.out.trans (hb.mono HB1.out.size))
  have HZ2 : Hid (w1.heap.size ≤ w2.heap.size) := Lib.hid hb.size
  have HRf2 := Lib.hid (HRf0.out.below HB2.out (Nat.le_refl _))
  have HKf2 := Lib.hid ((hb.block _ (lt_of_block HKf1.out)).trans HKf1.out)
  have HKz2 := Lib.hid hk
  replace HZ2 : Hid (w1.heap.size < w2.heap.size) := Lib.hid (by omega)
  have HE2 := Lib.hid hz
  clear hb hk hz
  have ltf := lt_of_block HKf2.out
  obtain ⟨cf0, cf1, cf2, ff0, ff1, ff2⟩ := cell3 HKf2.out
  have ltz := lt_of_block HKz2.out
  obtain ⟨cz0, cz1, cz2, cz3, cz4, cz5, cz6, cz7, cz8, fz0, fz1, fz2, fz3, fz4, fz5, fz6, fz7, fz8⟩ := cell9 HKz2.out
  go_wp2_with fail
  refine (HC.out _ _ HRf2.out).mono ?_
  rintro e w3 ⟨⟨v1, rfl, oa⟩, hb⟩
  have HB3 : Hid (Below w.heap.size w w3) := Lib.hid (HB2.out.trans (hb.mono HB2.out.size))
  have HZ3 : Hid (w2.heap.size ≤ w3.heap.size) := Lib.hid hb.size
  have HRf3 := Lib.hid (HRf0.out.below HB3.out (Nat.le_refl _))
  have HKf3 := Lib.hid ((hb.block _ (lt_of_block HKf2.out)).trans HKf2.out)
  have HKz3 := Lib.hid ((hb.block _ (lt_of_block HKz2.out)).trans HKz2.out)
  clear hb
  obtain ⟨p1, k1, rfl⟩ := own_form oa
  have HRc3 := Lib.hid ((RodsR.of_own oa))
  have HBs3_3 : Hid (Below w3.heap.size w3 w3) := Lib.hid (Below.refl _ _)
  clear oa
  clear cf0 cf1 cf2 ff0 ff1 ff2 ltf cz0 cz1 cz2 cz3 cz4 cz5 cz6 cz7 cz8 fz0 fz1 fz2 fz3 fz4 fz5 fz6 fz7 fz8 ltz
  have ltf := lt_of_block HKf3.out
  obtain ⟨cf0, cf1, cf2, ff0, ff1, ff2⟩ := cell3 HKf3.out
  have ltz := lt_of_block HKz3.out
  obtain ⟨cz0, cz1, cz2, cz3, cz4, cz5, cz6, cz7, cz8, fz0, fz1, fz2, fz3, fz4, fz5, fz6, fz7, fz8⟩ := cell9 HKz3.out
  go_wp2_with fail
  have hb : Below w3.heap.size w3 (w3.alloc (.cells #[.int .i64 f2, .int .i64 l2, .slice p1 z0.length k1] 26)) := (Below.refl _ _).alloc (Nat.le_refl _) _
  have hk : (w3.alloc (.cells #[.int .i64 f2, .int .i64 l2, .slice p1 z0.length k1] 26)).heap[w3.heap.size]? = some (.cells #[.int .i64 f2, .int .i64 l2, .slice p1 z0.length k1] 26 (0, 0)) := alloc_at rfl
  have hz : (w3.alloc (.cells #[.int .i64 f2, .int .i64 l2, .slice p1 z0.length k1] 26)).heap.size = w3.heap.size + 1 := by simp
  generalize w3.alloc (.cells #[.int .i64 f2, .int .i64 l2, .slice p1 z0.length k1] 26) = w4 at hb hk hz ⊢
  have HB4 : Hid (Below w.heap.size w w4) := Lib.hid (HB3.out.trans (hb.mono HB3.out.size))
  have HZ4 : Hid (w3.heap.size ≤ w4.heap.size) := Lib.hid hb.size
  have HRf4 := Lib.hid (HRf0.out.below HB4.out (Nat.le_refl _))
  have HKf4 := Lib.hid ((hb.block _ (lt_of_block HKf3.out)).trans HKf3.out)
  have HKz4 := Lib.hid ((hb.block _ (lt_of_block HKz3.out)).trans HKz3.out)
  have HRc4 := Lib.hid (HRc3.out.below hb (Nat.le_refl _))
  have HBs3_4 : Hid (Below w3.heap.size w3 w4) := Lib.hid (HBs3_3.out.trans (hb.mono HBs3_3.out.size))
  have HKt4 := Lib.hid hk
  replace HZ4 : Hid (w3.heap.size < w4.heap.size) := Lib.hid (by omega)
  have HE4 := Lib.hid hz
  clear hb hk hz
  refine (HS.out _ _ HRc4.out).mono ?_
  rintro e w5 ⟨⟨v2, rfl, oa⟩, hb⟩
  have HB5 : Hid (Below w.heap.size w w5) := Lib.hid (HB4.out.trans (hb.mono HB4.out.size))
  have HZ5 : Hid (w4.heap.size ≤ w5.heap.size) := Lib.hid hb.size
  have HRf5 := Lib.hid (HRf0.out.below HB5.out (Nat.le_refl _))
  have HKf5 := Lib.hid ((hb.block _ (lt_of_block HKf4.out)).trans HKf4.out)
  have HKz5 := Lib.hid ((hb.block _ (lt_of_block HKz4.out)).trans HKz4.out)
  have HRc5 := Lib.hid (HRc4.out.below hb (Nat.le_refl _))
  have HKt5 := Lib.hid ((hb.block _ (lt_of_block HKt4.out)).trans HKt4.out)
  have HBs3_5 : Hid (Below w3.heap.size w3 w5) := Lib.hid (HBs3_4.out.trans (hb.mono HBs3_4.out.size))
  clear hb
  obtain ⟨p2, k2, rfl⟩ := own_form oa
  have HRs5 := Lib.hid ((RodsR.of_own oa))
  have HBs5_5 : Hid (Below w5.heap.size w5 w5) := Lib.hid (Below.refl _ _)
  clear oa
  clear cf0 cf1 cf2 ff0 ff1 ff2 ltf cz0 cz1 cz2 cz3 cz4 cz5 cz6 cz7 cz8 fz0 fz1 fz2 fz3 fz4 fz5 fz6 fz7 fz8 ltz
  have ltf := lt_of_block HKf5.out
  obtain ⟨cf0, cf1, cf2, ff0, ff1, ff2⟩ := cell3 HKf5.out
  have ltz := lt_of_block HKz5.out
  obtain ⟨cz0, cz1, cz2, cz3, cz4, cz5, cz6, cz7, cz8, fz0, fz1, fz2, fz3, fz4, fz5, fz6, fz7, fz8⟩ := cell9 HKz5.out
  have ltt := lt_of_block HKt5.out
  obtain ⟨ct0, ct1, ct2, ft0, ft1, ft2⟩ := cell3 HKt5.out
  go_wp2_with fail
  have hb : Below w5.heap.size w5 (w5.alloc (.cells #[.int .i64 f2, .int .i64 l2, .slice p2 q2.length k2] 26)) := (Below.refl _ _).alloc (Nat.le_refl _) _
  have hk : (w5.alloc (.cells #[.int .i64 f2, .int .i64 l2, .slice p2 q2.length k2] 26)).heap[w5.heap.size]? = some (.cells #[.int .i64 f2, .int .i64 l2, .slice p2 q2.length k2] 26 (0, 0)) := alloc_at rfl
  have hz : (w5.alloc (.cells #[.int .i64 f2, .int .i64 l2, .slice p2 q2.length k2] 26)).heap.size = w5.heap.size + 1 := by simp
  generalize w5.alloc (.cells #[.int .i64 f2, .int .i64 l2, .slice p2 q2.length k2] 26) = w6 at hb hk hz ⊢
  have HB6 : Hid (Below w.heap.size w w6) := Lib.hid (HB5.out.trans (hb.mono HB5.out.size))
  have HZ6 : Hid (w5.heap.size ≤ w6.heap.size) := Lib.hid hb.size
  have HRf6 := Lib.hid (HRf0.out.below HB6.out (Nat.le_refl _))
  have HKf6 := Lib.hid ((hb.block _ (lt_of_block HKf5.out)).trans HKf5.out)
  have HKz6 := Lib.hid ((hb.block _ (lt_of_block HKz5.out)).trans HKz5.out)
  have HRc6 := Lib.hid (HRc5.out.below hb (Nat.le_refl _))
  have HKt6 := Lib.hid ((hb.block _ (lt_of_block HKt5.out)).trans HKt5.out)
  have HRs6 := Lib.hid (HRs5.out.below hb (Nat.le_refl _))
  have HBs3_6 : Hid (Below w3.heap.size w3 w6) := Lib.hid (HBs3_5.out.trans (hb.mono HBs3_5.out.size))
  have HBs5_6 : Hid (Below w5.heap.size w5 w6) := Lib.hid (HBs5_5.out.trans (hb.mono HBs5_5.out.size))
  have HKs6 := Lib.hid hk
  replace HZ6 : Hid (w5.heap.size < w6.heap.size) := Lib.hid (by omega)
  have HE6 := Lib.hid hz
  clear hb hk hz
  refine (HN.out _ _ HRs6.out).mono ?_
  rintro e w7 ⟨rfl, hb⟩
  have HB7 : Hid (Below w.heap.size w w7) := Lib.hid (HB6.out.trans (hb.mono HB6.out.size))
  have HZ7 : Hid (w6.heap.size ≤ w7.heap.size) := Lib.hid hb.size
  have HRf7 := Lib.hid (HRf0.out.below HB7.out (Nat.le_refl _))
  have HKf7 := Lib.hid ((hb.block _ (lt_of_block HKf6.out)).trans HKf6.out)
  have HKz7 := Lib.hid ((hb.block _ (lt_of_block HKz6.out)).trans HKz6.out)
  have HRc7 := Lib.hid (HRc6.out.below hb (Nat.le_refl _))
  have HKt7 := Lib.hid ((hb.block _ (lt_of_block HKt6.out)).trans HKt6.out)
  have HRs7 := Lib.hid (HRs6.out.below hb (Nat.le_refl _))
  have HKs7 := Lib.hid ((hb.block _ (lt_of_block HKs6.out)).trans HKs6.out)
  have HBs3_7 : Hid (Below w3.heap.size w3 w7) := Lib.hid (HBs3_6.out.trans (hb.mono HBs3_6.out.size))
  have HBs5_7 : Hid (Below w5.heap.size w5 w7) := Lib.hid (HBs5_6.out.trans (hb.mono HBs5_6.out.size))
  clear hb
  clear cf0 cf1 cf2 ff0 ff1 ff2 ltf cz0 cz1 cz2 cz3 cz4 cz5 cz6 cz7 cz8 fz0 fz1 fz2 fz3 fz4 fz5 fz6 fz7 fz8 ltz ct0 ct1 ct2 ft0 ft1 ft2 ltt
  have ltf := lt_of_block HKf7.out
  obtain ⟨cf0, cf1, cf2, ff0, ff1, ff2⟩ := cell3 HKf7.out
  have ltz := lt_of_block HKz7.out
  obtain ⟨cz0, cz1, cz2, cz3, cz4, cz5, cz6, cz7, cz8, fz0, fz1, fz2, fz3, fz4, fz5, fz6, fz7, fz8⟩ := cell9 HKz7.out
  have ltt := lt_of_block HKt7.out
  obtain ⟨ct0, ct1, ct2, ft0, ft1, ft2⟩ := cell3 HKt7.out
  have lts := lt_of_block HKs7.out
  obtain ⟨cs0, cs1, cs2, fs0, fs1, fs2⟩ := cell3 HKs7.out
  go_wp2_with fail
  refine (adOf_yes f2 l2 _ rs n _ HRf7.out HCC.out).mono ?_
  rintro e w8 ⟨⟨s1, g1, m1, j0, j1, j2, j3, rfl, -, or, om⟩, hb⟩
  have HB8 : Hid (Below w.heap.size w w8) := Lib.hid (HB7.out.trans (hb.mono HB7.out.size))
  have HZ8 : Hid (w7.heap.size ≤ w8.heap.size) := Lib.hid hb.size
  have HRf8 := Lib.hid (HRf0.out.below HB8.out (Nat.le_refl _))
  have HKf8 := Lib.hid ((hb.block _ (lt_of_block HKf7.out)).trans HKf7.out)
  have HKz8 := Lib.hid ((hb.block _ (lt_of_block HKz7.out)).trans HKz7.out)
  have HRc8 := Lib.hid (HRc7.out.below hb (Nat.le_refl _))
  have HKt8 := Lib.hid ((hb.block _ (lt_of_block HKt7.out)).trans HKt7.out)
  have HRs8 := Lib.hid (HRs7.out.below hb (Nat.le_refl _))
  have HKs8 := Lib.hid ((hb.block _ (lt_of_block HKs7.out)).trans HKs7.out)
  have HBs3_8 : Hid (Below w3.heap.size w3 w8) := Lib.hid (HBs3_7.out.trans (hb.mono HBs3_7.out.size))
  have HBs5_8 : Hid (Below w5.heap.size w5 w8) := Lib.hid (HBs5_7.out.trans (hb.mono HBs5_7.out.size))
  clear hb
  rw [GM.out] at om
  rw [GR.out] at or
  simp only [GM.out, GC.out]
  obtain ⟨pr, kr, rfl⟩ := own_form or
  have hzl := lt_of_block HKz8.out
  have HOr8 := Lib.hid (Ow.mk' or)
  have HOm8 := Lib.hid (Ow.mk' om)
  clear or om
  clear cf0 cf1 cf2 ff0 ff1 ff2 ltf cz0 cz1 cz2 cz3 cz4 cz5 cz6 cz7 cz8 fz0 fz1 fz2 fz3 fz4 fz5 fz6 fz7 fz8 ltz ct0 ct1 ct2 ft0 ft1 ft2 ltt cs0 cs1 cs2 fs0 fs1 fs2 lts
  have ltf := lt_of_block HKf8.out
  obtain ⟨cf0, cf1, cf2, ff0, ff1, ff2⟩ := cell3 HKf8.out
  have ltz := lt_of_block HKz8.out
  obtain ⟨cz0, cz1, cz2, cz3, cz4, cz5, cz6, cz7, cz8, fz0, fz1, fz2, fz3, fz4, fz5, fz6, fz7, fz8⟩ := cell9 HKz8.out
  have ltt := lt_of_block HKt8.out
  obtain ⟨ct0, ct1, ct2, ft0, ft1, ft2⟩ := cell3 HKt8.out
  have lts := lt_of_block HKs8.out
  obtain ⟨cs0, cs1, cs2, fs0, fs1, fs2⟩ := cell3 HKs8.out
  go_wp2_with fail
  have hr := HOr8.out.1
  have hmv := HOm8.out.1
  have hlt : w.heap.size + 1 < w7.heap.size := by have := HZ1.out; have := HZ2.out; have := HZ3.out; have := HZ4.out; have := HZ5.out; have := HZ6.out; have := HZ7.out; have := HZ8.out;  omega
  have hle : w.heap.size ≤ w7.heap.size := by omega
  exact bodyPost_ret (v := .tuple #[.agg #[.int .i64 f2, .int .i64 l2, .slice pr RT.length kr, .slice (some ⟨g1, 0, none⟩) MT.length m1, .int .i64 (CT : Int), .int .i64 j0, .int .i64 j1, .int .i64 j2, .int .i64 j3], .bool true]) (by simp [results, Try.results73, go_sem, cz0, cz1, cz2, cz3, cz4, cz5, cz6, cz7, cz8]) rfl
    ⟨⟨_, _, _, _, _, _, _, rfl, own_mono (own_set9 hr hlt _ _ _ _ _ _ _ _ _) hle, own_mono (own_set9 hmv hlt _ _ _ _ _ _ _ _ _) hle⟩, bl_set9 HB8.out (Nat.le_succ _) _ _ _ _ _ _ _ _ _⟩
end Go.Proofs.Ytjkjaadcdolbhaa
