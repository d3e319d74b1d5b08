/- The model's JoinBoards. -/
import Derived.Test.YtbdddpchlmddbaaDoorBcarry
namespace Go.Proofs.YtbdddpchlmddbaaDoor
set_option linter.unusedVariables false
open Go.RowKit

theorem OwB.fr1 {lo hi g n c : Nat} {w : World} {v2 : Value} {ls ss : List Int} (h : OwB lo hi w (.slice (some ⟨g, 0, none⟩) n c) v2 ls ss) (k : Nat) : w.frozen? ⟨g, k, none⟩ = false := by
  have hn := own_n h.1.1
  subst hn
  exact h.1.1.frozenAt k
theorem OwB.fr2 {lo hi g n c : Nat} {w : World} {v1 : Value} {ls ss : List Int} (h : OwB lo hi w v1 (.slice (some ⟨g, 0, none⟩) n c) ls ss) (k : Nat) : w.frozen? ⟨g, k, none⟩ = false := by
  have hn := own_n h.2.1.1
  subst hn
  exact h.2.1.1.frozenAt k
def jn (a b : List Int) : Nat → List Int
  | 0 => a
  | k + 1 => (jn a b k).set k (a.getD k 0 + b.getD k 0)
theorem jn_len (a b : List Int) : ∀ k, (jn a b k).length = a.length
  | 0 => rfl
  | k + 1 => by rw [jn, List.length_set, jn_len a b k]
theorem jn_late (a b : List Int) : ∀ k i (h : i < (jn a b k).length) (h' : i < a.length), k ≤ i → (jn a b k)[i] = a[i]
  | 0, _, _, _, _ => rfl
  | k + 1, i, h, h', hk => by
    have h1 : i < (jn a b k).length := by rw [jn_len]; exact h'
    show ((jn a b k).set k _)[i]'(by rw [List.length_set]; exact h1) = _
    rw [List.getElem_set_ne (by omega)]
    exact jn_late a b k i h1 h' (by omega)
theorem jn_early (a b : List Int) : ∀ k i (h : i < (jn a b k).length) (h1 : i < a.length) (h2 : i < b.length), i < k → (jn a b k)[i] = a[i] + b[i]
  | 0, _, _, _, _, hk => by omega
  | k + 1, i, h, h1, h2, hk => by
    have h3 : i < (jn a b k).length := by rw [jn_len]; exact h1
    show ((jn a b k).set k _)[i]'(by rw [List.length_set]; exact h3) = _
    by_cases e : i = k
    · subst e
      rw [List.getElem_set_self, getDi_at a i h1, getDi_at b i h2]
    · rw [List.getElem_set_ne (by omega)]
      exact jn_early a b k i h3 h1 h2 (by omega)
theorem jn_step (a b : List Int) (k : Nat) (h1 : k < a.length) (h2 : k < b.length) : (jn a b k).set k (a[k] + b[k]) = jn a b (k + 1) := by
  rw [jn, getDi_at a k h1, getDi_at b k h2]
/-- The answer of JoinBoards. -/
def JbF (ls ss ms ts qs qt : List Int) (r : Bool) : Prop :=
  ((okB ls ss ∧ okB ms ts ∧ ls.length = ms.length) ∧ okB (jn ls ms ls.length) (jn ss ts ss.length) ∧ qs = jn ls ms ls.length ∧ qt = jn ss ts ss.length ∧ r = true) ∨
  (¬ ((okB ls ss ∧ okB ms ts ∧ ls.length = ms.length) ∧ okB (jn ls ms ls.length) (jn ss ts ss.length)) ∧ qs = [] ∧ qt = [] ∧ r = false)
theorem jbF_or (ls ss ms ts : List Int) : ∃ qs qt r, JbF ls ss ms ts qs qt r := by
  by_cases h : (okB ls ss ∧ okB ms ts ∧ ls.length = ms.length) ∧ okB (jn ls ms ls.length) (jn ss ts ss.length)
  · exact ⟨_, _, _, .inl ⟨h.1, h.2, rfl, rfl, rfl⟩⟩
  · exact ⟨_, _, _, .inr ⟨h, rfl, rfl, rfl⟩⟩
set_option maxRecDepth 100000 in
set_option maxHeartbeats 1600000 in
theorem specJoin_no (v1 v2 u1 u2 : Value) (ls ss ms ts : List Int) (w : World) (h : BrdR w v1 v2 ls ss) (h' : BrdR w u1 u2 ms ts) (hg : ¬ (okB ls ss ∧ okB ms ts ∧ ls.length = ms.length)) (qs qt : List Int) (r : Bool) (hk : qs = [] ∧ qt = [] ∧ r = false) :
    Calls Tryd.prog 15 #[.agg #[v1, v2], .agg #[u1, u2]] w fun e w' => (∃ s1 t1, e = .returned (.tuple #[.agg #[s1, t1], .bool r]) ∧ OwB w.heap.size w'.heap.size w' s1 t1 qs qt) ∧ Below w.heap.size w w' := by
  obtain ⟨a1, c1, a2, c2, rfl, rfl⟩ := h.form
  obtain ⟨b1, d1, b2, d2, rfl, rfl⟩ := h'.form
  obtain ⟨rfl, rfl, rfl⟩ := hk
  have HB0 : Hid (Below w.heap.size w w) := Lib.hid (Below.refl _ _)
  have HRf0 := Lib.hid (h)
  have HRg0 := Lib.hid (h')
  clear h h'
  by_cases h1 : okB ls ss
  · by_cases h2 : okB ms ts
    · have hne : ((ls.length : Int) != (ms.length : Int)) = true := by rw [bne_iff_ne]; intro e; exact hg ⟨h1, h2, by omega⟩
      have H1 := Lib.hid h1
      have H2 := Lib.hid h2
      clear h1 h2 hg
      go_enter Tryd.func15, Tryd.ntmps15
      go_wp2_with fail
      have hb : Below w.heap.size w (w.alloc (.cells #[.slice a1 ls.length c1, .slice a2 ss.length c2] 26)) := (Below.refl _ _).alloc (Nat.le_refl _) _
      have hk : (w.alloc (.cells #[.slice a1 ls.length c1, .slice a2 ss.length c2] 26)).heap[w.heap.size]? = some (.cells #[.slice a1 ls.length c1, .slice a2 ss.length c2] 26 (0, 0)) := alloc_at rfl
      have hz : (w.alloc (.cells #[.slice a1 ls.length c1, .slice a2 ss.length c2] 26)).heap.size = w.heap.size + 1 := by simp
      generalize w.alloc (.cells #[.slice a1 ls.length c1, .slice a2 ss.length c2] 26) = w1 at hb hk hz ⊢
      have HB1 : Hid (Below w.heap.size w w1) := Lib.hid (HB0.out.trans (hb.mono HB0.out.size))
      have HZ1 : Hid (w.heap.size ≤ w1.heap.size) := Lib.hid hb.size
      have HRf1 := Lib.hid (HRf0.out.below HB1.out (Nat.le_refl _))
      have HRg1 := Lib.hid (HRg0.out.below HB1.out (Nat.le_refl _))
      have HKa1 := Lib.hid hk
      replace HZ1 : Hid (w.heap.size < w1.heap.size) := Lib.hid (by omega)
      have HE1 := Lib.hid hz
      clear hb hk hz
      have hb : Below w1.heap.size w1 (w1.alloc (.cells #[.slice b1 ms.length d1, .slice b2 ts.length d2] 26)) := (Below.refl _ _).alloc (Nat.le_refl _) _
      have hk : (w1.alloc (.cells #[.slice b1 ms.length d1, .slice b2 ts.length d2] 26)).heap[w.heap.size + 1]? = some (.cells #[.slice b1 ms.length d1, .slice b2 ts.length d2] 26 (0, 0)) := alloc_at (by have := HE1.out; omega)
      have hz : (w1.alloc (.cells #[.slice b1 ms.length d1, .slice b2 ts.length d2] 26)).heap.size = w1.heap.size + 1 := by simp
      generalize w1.alloc (.cells #[.slice b1 ms.length d1, .slice b2 ts.length d2] 26) = w2 at hb hk hz ⊢
      have HB2 : Hid (Below w.heap.size w w2) := Lib.hid (HB1.out.trans (hb.mono HB1.out.size))
      have HZ2 : Hid (w1.heap.size ≤ w2.heap.size) := Lib.hid hb.size
      have HRf2 := Lib.hid (HRf0.out.below HB2.out (Nat.le_refl _))
      have HRg2 := Lib.hid (HRg0.out.below HB2.out (Nat.le_refl _))
      have HKa2 := Lib.hid ((hb.block _ (lt_of_block HKa1.out)).trans HKa1.out)
      have HKc2 := Lib.hid hk
      replace HZ2 : Hid (w1.heap.size < w2.heap.size) := Lib.hid (by omega)
      have HE2 := Lib.hid hz
      clear hb hk hz
      have hb : Below w2.heap.size w2 (w2.alloc (.cells #[.slice none 0 0, .slice none 0 0] 26)) := (Below.refl _ _).alloc (Nat.le_refl _) _
      have hk : (w2.alloc (.cells #[.slice none 0 0, .slice none 0 0] 26)).heap[w.heap.size + 2]? = some (.cells #[.slice none 0 0, .slice none 0 0] 26 (0, 0)) := alloc_at (by have := HE1.out; have := HE2.out; omega)
      have hz : (w2.alloc (.cells #[.slice none 0 0, .slice none 0 0] 26)).heap.size = w2.heap.size + 1 := by simp
      generalize w2.alloc (.cells #[.slice none 0 0, .slice none 0 0] 26) = w3 at hb hk hz ⊢
      have HB3 : Hid (Below w.heap.size w w3) := Lib.hid (HB2.out.trans (hb.mono HB2.out.size))
      have HZ3 : Hid (w2.heap.size ≤ w3.heap.size) := Lib.hid hb.size
      have HRf3 := Lib.hid (HRf0.out.below HB3.out (Nat.le_refl _))
      have HRg3 := Lib.hid (HRg0.out.below HB3.out (Nat.le_refl _))
      have HKa3 := Lib.hid ((hb.block _ (lt_of_block HKa2.out)).trans HKa2.out)
      have HKc3 := Lib.hid ((hb.block _ (lt_of_block HKc2.out)).trans HKc2.out)
      have HKz3 := Lib.hid hk
      replace HZ3 : Hid (w2.heap.size < w3.heap.size) := Lib.hid (by omega)
      have HE3 := Lib.hid hz
      clear hb hk hz
      have lta := lt_of_block HKa3.out
      obtain ⟨ca0, ca1, fa0, fa1⟩ := cell2 HKa3.out
      have ltc := lt_of_block HKc3.out
      obtain ⟨cc0, cc1, fc0, fc1⟩ := cell2 HKc3.out
      have ltz := lt_of_block HKz3.out
      obtain ⟨cz0, cz1, fz0, fz1⟩ := cell2 HKz3.out
      refine (l5Good_any _ _ ls ss _ HRf3.out true ⟨fun _ => H1.out, fun _ => rfl⟩).mono ?_
      rintro e w4 ⟨rfl, hb⟩
      have HB4 : Hid (Below w.heap.size w w4) := Lib.hid (HB3.out.trans (hb.mono HB3.out.size))
      have HZ4 : Hid (w3.heap.size ≤ w4.heap.size) := Lib.hid hb.size
      have HRf4 := Lib.hid (HRf0.out.below HB4.out (Nat.le_refl _))
      have HRg4 := Lib.hid (HRg0.out.below HB4.out (Nat.le_refl _))
      have HKa4 := Lib.hid ((hb.block _ (lt_of_block HKa3.out)).trans HKa3.out)
      have HKc4 := Lib.hid ((hb.block _ (lt_of_block HKc3.out)).trans HKc3.out)
      have HKz4 := Lib.hid ((hb.block _ (lt_of_block HKz3.out)).trans HKz3.out)
      clear hb
      clear ca0 ca1 fa0 fa1 lta cc0 cc1 fc0 fc1 ltc cz0 cz1 fz0 fz1 ltz
      have lta := lt_of_block HKa4.out
      obtain ⟨ca0, ca1, fa0, fa1⟩ := cell2 HKa4.out
      have ltc := lt_of_block HKc4.out
      obtain ⟨cc0, cc1, fc0, fc1⟩ := cell2 HKc4.out
      have ltz := lt_of_block HKz4.out
      obtain ⟨cz0, cz1, fz0, fz1⟩ := cell2 HKz4.out
      go_wp2_with fail
      refine (l5Good_any _ _ ms ts _ HRg4.out true ⟨fun _ => H2.out, fun _ => rfl⟩).mono ?_
      rintro e w5 ⟨rfl, hb⟩
      have HB5 : Hid (Below w.heap.size w w5) := Lib.hid (HB4.out.trans (hb.mono HB4.out.size))
      have HZ5 : Hid (w4.heap.size ≤ w5.heap.size) := Lib.hid hb.size
      have HRf5 := Lib.hid (HRf0.out.below HB5.out (Nat.le_refl _))
      have HRg5 := Lib.hid (HRg0.out.below HB5.out (Nat.le_refl _))
      have HKa5 := Lib.hid ((hb.block _ (lt_of_block HKa4.out)).trans HKa4.out)
      have HKc5 := Lib.hid ((hb.block _ (lt_of_block HKc4.out)).trans HKc4.out)
      have HKz5 := Lib.hid ((hb.block _ (lt_of_block HKz4.out)).trans HKz4.out)
      clear hb
      clear ca0 ca1 fa0 fa1 lta cc0 cc1 fc0 fc1 ltc cz0 cz1 fz0 fz1 ltz
      have lta := lt_of_block HKa5.out
      obtain ⟨ca0, ca1, fa0, fa1⟩ := cell2 HKa5.out
      have ltc := lt_of_block HKc5.out
      obtain ⟨cc0, cc1, fc0, fc1⟩ := cell2 HKc5.out
      have ltz := lt_of_block HKz5.out
      obtain ⟨cz0, cz1, fz0, fz1⟩ := cell2 HKz5.out
      go_wp2_with fail
      exact bodyPost_ret (v := .tuple #[.agg #[(.slice none 0 0), (.slice none 0 0)], .bool false]) (by simp [results, Tryd.results15, go_sem, cz0, cz1]) rfl ⟨⟨_, _, rfl, OwB.nil' _ _ _⟩, by first | exact HB5.out | exact (HB5.out.setCell (p := ⟨w.heap.size + 2, 0, none⟩) (by show w.heap.size ≤ w.heap.size + 2; omega) _).setCell (p := ⟨w.heap.size + 2, 1, none⟩) (by show w.heap.size ≤ w.heap.size + 2; omega) _⟩
    · have H1 := Lib.hid h1
      have H2 := Lib.hid h2
      clear h1 h2 hg
      go_enter Tryd.func15, Tryd.ntmps15
      go_wp2_with fail
      have hb : Below w.heap.size w (w.alloc (.cells #[.slice a1 ls.length c1, .slice a2 ss.length c2] 26)) := (Below.refl _ _).alloc (Nat.le_refl _) _
      have hk : (w.alloc (.cells #[.slice a1 ls.length c1, .slice a2 ss.length c2] 26)).heap[w.heap.size]? = some (.cells #[.slice a1 ls.length c1, .slice a2 ss.length c2] 26 (0, 0)) := alloc_at rfl
      have hz : (w.alloc (.cells #[.slice a1 ls.length c1, .slice a2 ss.length c2] 26)).heap.size = w.heap.size + 1 := by simp
      generalize w.alloc (.cells #[.slice a1 ls.length c1, .slice a2 ss.length c2] 26) = w1 at hb hk hz ⊢
      have HB1 : Hid (Below w.heap.size w w1) := Lib.hid (HB0.out.trans (hb.mono HB0.out.size))
      have HZ1 : Hid (w.heap.size ≤ w1.heap.size) := Lib.hid hb.size
      have HRf1 := Lib.hid (HRf0.out.below HB1.out (Nat.le_refl _))
      have HRg1 := Lib.hid (HRg0.out.below HB1.out (Nat.le_refl _))
      have HKa1 := Lib.hid hk
      replace HZ1 : Hid (w.heap.size < w1.heap.size) := Lib.hid (by omega)
      have HE1 := Lib.hid hz
      clear hb hk hz
      have hb : Below w1.heap.size w1 (w1.alloc (.cells #[.slice b1 ms.length d1, .slice b2 ts.length d2] 26)) := (Below.refl _ _).alloc (Nat.le_refl _) _
      have hk : (w1.alloc (.cells #[.slice b1 ms.length d1, .slice b2 ts.length d2] 26)).heap[w.heap.size + 1]? = some (.cells #[.slice b1 ms.length d1, .slice b2 ts.length d2] 26 (0, 0)) := alloc_at (by have := HE1.out; omega)
      have hz : (w1.alloc (.cells #[.slice b1 ms.length d1, .slice b2 ts.length d2] 26)).heap.size = w1.heap.size + 1 := by simp
      generalize w1.alloc (.cells #[.slice b1 ms.length d1, .slice b2 ts.length d2] 26) = w2 at hb hk hz ⊢
      have HB2 : Hid (Below w.heap.size w w2) := Lib.hid (HB1.out.trans (hb.mono HB1.out.size))
      have HZ2 : Hid (w1.heap.size ≤ w2.heap.size) := Lib.hid hb.size
      have HRf2 := Lib.hid (HRf0.out.below HB2.out (Nat.le_refl _))
      have HRg2 := Lib.hid (HRg0.out.below HB2.out (Nat.le_refl _))
      have HKa2 := Lib.hid ((hb.block _ (lt_of_block HKa1.out)).trans HKa1.out)
      have HKc2 := Lib.hid hk
      replace HZ2 : Hid (w1.heap.size < w2.heap.size) := Lib.hid (by omega)
      have HE2 := Lib.hid hz
      clear hb hk hz
      have hb : Below w2.heap.size w2 (w2.alloc (.cells #[.slice none 0 0, .slice none 0 0] 26)) := (Below.refl _ _).alloc (Nat.le_refl _) _
      have hk : (w2.alloc (.cells #[.slice none 0 0, .slice none 0 0] 26)).heap[w.heap.size + 2]? = some (.cells #[.slice none 0 0, .slice none 0 0] 26 (0, 0)) := alloc_at (by have := HE1.out; have := HE2.out; omega)
      have hz : (w2.alloc (.cells #[.slice none 0 0, .slice none 0 0] 26)).heap.size = w2.heap.size + 1 := by simp
      generalize w2.alloc (.cells #[.slice none 0 0, .slice none 0 0] 26) = w3 at hb hk hz ⊢
      have HB3 : Hid (Below w.heap.size w w3) := Lib.hid (HB2.out.trans (hb.mono HB2.out.size))
      have HZ3 : Hid (w2.heap.size ≤ w3.heap.size) := Lib.hid hb.size
      have HRf3 := Lib.hid (HRf0.out.below HB3.out (Nat.le_refl _))
      have HRg3 := Lib.hid (HRg0.out.below HB3.out (Nat.le_refl _))
      have HKa3 := Lib.hid ((hb.block _ (lt_of_block HKa2.out)).trans HKa2.out)
      have HKc3 := Lib.hid ((hb.block _ (lt_of_block HKc2.out)).trans HKc2.out)
      have HKz3 := Lib.hid hk
      replace HZ3 : Hid (w2.heap.size < w3.heap.size) := Lib.hid (by omega)
      have HE3 := Lib.hid hz
      clear hb hk hz
      have lta := lt_of_block HKa3.out
      obtain ⟨ca0, ca1, fa0, fa1⟩ := cell2 HKa3.out
      have ltc := lt_of_block HKc3.out
      obtain ⟨cc0, cc1, fc0, fc1⟩ := cell2 HKc3.out
      have ltz := lt_of_block HKz3.out
      obtain ⟨cz0, cz1, fz0, fz1⟩ := cell2 HKz3.out
      refine (l5Good_any _ _ ls ss _ HRf3.out true ⟨fun _ => H1.out, fun _ => rfl⟩).mono ?_
      rintro e w4 ⟨rfl, hb⟩
      have HB4 : Hid (Below w.heap.size w w4) := Lib.hid (HB3.out.trans (hb.mono HB3.out.size))
      have HZ4 : Hid (w3.heap.size ≤ w4.heap.size) := Lib.hid hb.size
      have HRf4 := Lib.hid (HRf0.out.below HB4.out (Nat.le_refl _))
      have HRg4 := Lib.hid (HRg0.out.below HB4.out (Nat.le_refl _))
      have HKa4 := Lib.hid ((hb.block _ (lt_of_block HKa3.out)).trans HKa3.out)
      have HKc4 := Lib.hid ((hb.block _ (lt_of_block HKc3.out)).trans HKc3.out)
      have HKz4 := Lib.hid ((hb.block _ (lt_of_block HKz3.out)).trans HKz3.out)
      clear hb
      clear ca0 ca1 fa0 fa1 lta cc0 cc1 fc0 fc1 ltc cz0 cz1 fz0 fz1 ltz
      have lta := lt_of_block HKa4.out
      obtain ⟨ca0, ca1, fa0, fa1⟩ := cell2 HKa4.out
      have ltc := lt_of_block HKc4.out
      obtain ⟨cc0, cc1, fc0, fc1⟩ := cell2 HKc4.out
      have ltz := lt_of_block HKz4.out
      obtain ⟨cz0, cz1, fz0, fz1⟩ := cell2 HKz4.out
      go_wp2_with fail
      refine (l5Good_any _ _ ms ts _ HRg4.out false ⟨fun e => by simp at e, fun e => absurd e H2.out⟩).mono ?_
      rintro e w5 ⟨rfl, hb⟩
      have HB5 : Hid (Below w.heap.size w w5) := Lib.hid (HB4.out.trans (hb.mono HB4.out.size))
      have HZ5 : Hid (w4.heap.size ≤ w5.heap.size) := Lib.hid hb.size
      have HRf5 := Lib.hid (HRf0.out.below HB5.out (Nat.le_refl _))
      have HRg5 := Lib.hid (HRg0.out.below HB5.out (Nat.le_refl _))
      have HKa5 := Lib.hid ((hb.block _ (lt_of_block HKa4.out)).trans HKa4.out)
      have HKc5 := Lib.hid ((hb.block _ (lt_of_block HKc4.out)).trans HKc4.out)
      have HKz5 := Lib.hid ((hb.block _ (lt_of_block HKz4.out)).trans HKz4.out)
      clear hb
      clear ca0 ca1 fa0 fa1 lta cc0 cc1 fc0 fc1 ltc cz0 cz1 fz0 fz1 ltz
      have lta := lt_of_block HKa5.out
      obtain ⟨ca0, ca1, fa0, fa1⟩ := cell2 HKa5.out
      have ltc := lt_of_block HKc5.out
      obtain ⟨cc0, cc1, fc0, fc1⟩ := cell2 HKc5.out
      have ltz := lt_of_block HKz5.out
      obtain ⟨cz0, cz1, fz0, fz1⟩ := cell2 HKz5.out
      go_wp2_with fail
      exact bodyPost_ret (v := .tuple #[.agg #[(.slice none 0 0), (.slice none 0 0)], .bool false]) (by simp [results, Tryd.results15, go_sem, cz0, cz1]) rfl ⟨⟨_, _, rfl, OwB.nil' _ _ _⟩, by first | exact HB5.out | exact (HB5.out.setCell (p := ⟨w.heap.size + 2, 0, none⟩) (by show w.heap.size ≤ w.heap.size + 2; omega) _).setCell (p := ⟨w.heap.size + 2, 1, none⟩) (by show w.heap.size ≤ w.heap.size + 2; omega) _⟩
  · have H1 := Lib.hid h1
    clear h1 hg
    go_enter Tryd.func15, Tryd.ntmps15
    go_wp2_with fail
    have hb : Below w.heap.size w (w.alloc (.cells #[.slice a1 ls.length c1, .slice a2 ss.length c2] 26)) := (Below.refl _ _).alloc (Nat.le_refl _) _
    have hk : (w.alloc (.cells #[.slice a1 ls.length c1, .slice a2 ss.length c2] 26)).heap[w.heap.size]? = some (.cells #[.slice a1 ls.length c1, .slice a2 ss.length c2] 26 (0, 0)) := alloc_at rfl
    have hz : (w.alloc (.cells #[.slice a1 ls.length c1, .slice a2 ss.length c2] 26)).heap.size = w.heap.size + 1 := by simp
    generalize w.alloc (.cells #[.slice a1 ls.length c1, .slice a2 ss.length c2] 26) = w1 at hb hk hz ⊢
    have HB1 : Hid (Below w.heap.size w w1) := Lib.hid (HB0.out.trans (hb.mono HB0.out.size))
    have HZ1 : Hid (w.heap.size ≤ w1.heap.size) := Lib.hid hb.size
    have HRf1 := Lib.hid (HRf0.out.below HB1.out (Nat.le_refl _))
    have HRg1 := Lib.hid (HRg0.out.below HB1.out (Nat.le_refl _))
    have HKa1 := Lib.hid hk
    replace HZ1 : Hid (w.heap.size < w1.heap.size) := Lib.hid (by omega)
    have HE1 := Lib.hid hz
    clear hb hk hz
    have hb : Below w1.heap.size w1 (w1.alloc (.cells #[.slice b1 ms.length d1, .slice b2 ts.length d2] 26)) := (Below.refl _ _).alloc (Nat.le_refl _) _
    have hk : (w1.alloc (.cells #[.slice b1 ms.length d1, .slice b2 ts.length d2] 26)).heap[w.heap.size + 1]? = some (.cells #[.slice b1 ms.length d1, .slice b2 ts.length d2] 26 (0, 0)) := alloc_at (by have := HE1.out; omega)
    have hz : (w1.alloc (.cells #[.slice b1 ms.length d1, .slice b2 ts.length d2] 26)).heap.size = w1.heap.size + 1 := by simp
    generalize w1.alloc (.cells #[.slice b1 ms.length d1, .slice b2 ts.length d2] 26) = w2 at hb hk hz ⊢
    have HB2 : Hid (Below w.heap.size w w2) := Lib.hid (HB1.out.trans (hb.mono HB1.out.size))
    have HZ2 : Hid (w1.heap.size ≤ w2.heap.size) := Lib.hid hb.size
    have HRf2 := Lib.hid (HRf0.out.below HB2.out (Nat.le_refl _))
    have HRg2 := Lib.hid (HRg0.out.below HB2.out (Nat.le_refl _))
    have HKa2 := Lib.hid ((hb.block _ (lt_of_block HKa1.out)).trans HKa1.out)
    have HKc2 := Lib.hid hk
    replace HZ2 : Hid (w1.heap.size < w2.heap.size) := Lib.hid (by omega)
    have HE2 := Lib.hid hz
    clear hb hk hz
    have hb : Below w2.heap.size w2 (w2.alloc (.cells #[.slice none 0 0, .slice none 0 0] 26)) := (Below.refl _ _).alloc (Nat.le_refl _) _
    have hk : (w2.alloc (.cells #[.slice none 0 0, .slice none 0 0] 26)).heap[w.heap.size + 2]? = some (.cells #[.slice none 0 0, .slice none 0 0] 26 (0, 0)) := alloc_at (by have := HE1.out; have := HE2.out; omega)
    have hz : (w2.alloc (.cells #[.slice none 0 0, .slice none 0 0] 26)).heap.size = w2.heap.size + 1 := by simp
    generalize w2.alloc (.cells #[.slice none 0 0, .slice none 0 0] 26) = w3 at hb hk hz ⊢
    have HB3 : Hid (Below w.heap.size w w3) := Lib.hid (HB2.out.trans (hb.mono HB2.out.size))
    have HZ3 : Hid (w2.heap.size ≤ w3.heap.size) := Lib.hid hb.size
    have HRf3 := Lib.hid (HRf0.out.below HB3.out (Nat.le_refl _))
    have HRg3 := Lib.hid (HRg0.out.below HB3.out (Nat.le_refl _))
    have HKa3 := Lib.hid ((hb.block _ (lt_of_block HKa2.out)).trans HKa2.out)
    have HKc3 := Lib.hid ((hb.block _ (lt_of_block HKc2.out)).trans HKc2.out)
    have HKz3 := Lib.hid hk
    replace HZ3 : Hid (w2.heap.size < w3.heap.size) := Lib.hid (by omega)
    have HE3 := Lib.hid hz
    clear hb hk hz
    have lta := lt_of_block HKa3.out
    obtain ⟨ca0, ca1, fa0, fa1⟩ := cell2 HKa3.out
    have ltc := lt_of_block HKc3.out
    obtain ⟨cc0, cc1, fc0, fc1⟩ := cell2 HKc3.out
    have ltz := lt_of_block HKz3.out
    obtain ⟨cz0, cz1, fz0, fz1⟩ := cell2 HKz3.out
    refine (l5Good_any _ _ ls ss _ HRf3.out false ⟨fun e => by simp at e, fun e => absurd e H1.out⟩).mono ?_
    rintro e w4 ⟨rfl, hb⟩
    have HB4 : Hid (Below w.heap.size w w4) := Lib.hid (HB3.out.trans (hb.mono HB3.out.size))
    have HZ4 : Hid (w3.heap.size ≤ w4.heap.size) := Lib.hid hb.size
    have HRf4 := Lib.hid (HRf0.out.below HB4.out (Nat.le_refl _))
    have HRg4 := Lib.hid (HRg0.out.below HB4.out (Nat.le_refl _))
    have HKa4 := Lib.hid ((hb.block _ (lt_of_block HKa3.out)).trans HKa3.out)
    have HKc4 := Lib.hid ((hb.block _ (lt_of_block HKc3.out)).trans HKc3.out)
    have HKz4 := Lib.hid ((hb.block _ (lt_of_block HKz3.out)).trans HKz3.out)
    clear hb
    clear ca0 ca1 fa0 fa1 lta cc0 cc1 fc0 fc1 ltc cz0 cz1 fz0 fz1 ltz
    have lta := lt_of_block HKa4.out
    obtain ⟨ca0, ca1, fa0, fa1⟩ := cell2 HKa4.out
    have ltc := lt_of_block HKc4.out
    obtain ⟨cc0, cc1, fc0, fc1⟩ := cell2 HKc4.out
    have ltz := lt_of_block HKz4.out
    obtain ⟨cz0, cz1, fz0, fz1⟩ := cell2 HKz4.out
    go_wp2_with fail
    exact bodyPost_ret (v := .tuple #[.agg #[(.slice none 0 0), (.slice none 0 0)], .bool false]) (by simp [results, Tryd.results15, go_sem, cz0, cz1]) rfl ⟨⟨_, _, rfl, OwB.nil' _ _ _⟩, by first | exact HB4.out | exact (HB4.out.setCell (p := ⟨w.heap.size + 2, 0, none⟩) (by show w.heap.size ≤ w.heap.size + 2; omega) _).setCell (p := ⟨w.heap.size + 2, 1, none⟩) (by show w.heap.size ≤ w.heap.size + 2; omega) _⟩
set_option maxRecDepth 100000 in
set_option maxHeartbeats 3200000 in
theorem specJoin_yes (v1 v2 u1 u2 : Value) (ls ss ms ts : List Int) (w : World) (h : BrdR w v1 v2 ls ss) (h' : BrdR w u1 u2 ms ts) (hg1 : okB ls ss) (hg2 : okB ms ts) (hll : ls.length = ms.length) (qs qt : List Int) (r : Bool)
    (hk : (okB (jn ls ms ls.length) (jn ss ts ss.length) ∧ qs = jn ls ms ls.length ∧ qt = jn ss ts ss.length ∧ r = true) ∨ (¬ okB (jn ls ms ls.length) (jn ss ts ss.length) ∧ qs = [] ∧ qt = [] ∧ r = false)) :
    Calls Tryd.prog 15 #[.agg #[v1, v2], .agg #[u1, u2]] w fun e w' => (∃ s1 t1, e = .returned (.tuple #[.agg #[s1, t1], .bool r]) ∧ OwB w.heap.size w'.heap.size w' s1 t1 qs qt) ∧ Below w.heap.size w w' := by
  obtain ⟨a1, c1, a2, c2, rfl, rfl⟩ := h.form
  obtain ⟨b1, d1, b2, d2, rfl, rfl⟩ := h'.form
  have A1 := Lib.hid (int_at h'.1)
  have A2 := Lib.hid (int_at h'.2)
  have H1 := Lib.hid hg1
  have H2 := Lib.hid hg2
  have HL := Lib.hid hll
  have HK := Lib.hid hk
  have hne : ((ls.length : Int) != (ms.length : Int)) = false := by simp [hll]
  have hl6 : ls.length ≤ 6 := hg1.1.2
  have hs6 : ss.length ≤ 6 := by have := hg1.2.1; omega
  have hlp : 0 < ls.length := hg1.1.1
  have hsp : 0 < ss.length := by have := hg1.2.1; omega
  have HSS : Hid (ss.length = ls.length) := Lib.hid hg1.2.1
  have HTT : Hid (ts.length = ms.length) := Lib.hid hg2.2.1
  have hms6 : (ms.length : Int) ≤ 6 := by omega
  have hts6 : (ts.length : Int) ≤ 6 := by have := hg2.2.1; omega
  have HB0 : Hid (Below w.heap.size w w) := Lib.hid (Below.refl _ _)
  have HRf0 := Lib.hid (h)
  have HRg0 := Lib.hid (h')
  clear h h' hg1 hg2 hll hk
  go_enter Tryd.func15, Tryd.ntmps15
  go_wp2_with fail
  have hb : Below w.heap.size w (w.alloc (.cells #[.slice a1 ls.length c1, .slice a2 ss.length c2] 26)) := (Below.refl _ _).alloc (Nat.le_refl _) _
  have hk : (w.alloc (.cells #[.slice a1 ls.length c1, .slice a2 ss.length c2] 26)).heap[w.heap.size]? = some (.cells #[.slice a1 ls.length c1, .slice a2 ss.length c2] 26 (0, 0)) := alloc_at rfl
  have hz : (w.alloc (.cells #[.slice a1 ls.length c1, .slice a2 ss.length c2] 26)).heap.size = w.heap.size + 1 := by simp
  generalize w.alloc (.cells #[.slice a1 ls.length c1, .slice a2 ss.length c2] 26) = w1 at hb hk hz ⊢
  have HB1 : Hid (Below w.heap.size w w1) := Lib.hid (HB0.out.trans (hb.mono HB0.out.size))
  have HZ1 : Hid (w.heap.size ≤ w1.heap.size) := Lib.hid hb.size
  have HRf1 := Lib.hid (HRf0.out.below HB1.out (Nat.le_refl _))
  have HRg1 := Lib.hid (HRg0.out.below HB1.out (Nat.le_refl _))
  have HKa1 := Lib.hid hk
  replace HZ1 : Hid (w.heap.size < w1.heap.size) := Lib.hid (by omega)
  have HE1 := Lib.hid hz
  clear hb hk hz
  have hb : Below w1.heap.size w1 (w1.alloc (.cells #[.slice b1 ms.length d1, .slice b2 ts.length d2] 26)) := (Below.refl _ _).alloc (Nat.le_refl _) _
  have hk : (w1.alloc (.cells #[.slice b1 ms.length d1, .slice b2 ts.length d2] 26)).heap[w.heap.size + 1]? = some (.cells #[.slice b1 ms.length d1, .slice b2 ts.length d2] 26 (0, 0)) := alloc_at (by have := HE1.out; omega)
  have hz : (w1.alloc (.cells #[.slice b1 ms.length d1, .slice b2 ts.length d2] 26)).heap.size = w1.heap.size + 1 := by simp
  generalize w1.alloc (.cells #[.slice b1 ms.length d1, .slice b2 ts.length d2] 26) = w2 at hb hk hz ⊢
  have HB2 : Hid (Below w.heap.size w w2) := Lib.hid (HB1.out.trans (hb.mono HB1.out.size))
  have HZ2 : Hid (w1.heap.size ≤ w2.heap.size) := Lib.hid hb.size
  have HRf2 := Lib.hid (HRf0.out.below HB2.out (Nat.le_refl _))
  have HRg2 := Lib.hid (HRg0.out.below HB2.out (Nat.le_refl _))
  have HKa2 := Lib.hid ((hb.block _ (lt_of_block HKa1.out)).trans HKa1.out)
  have HKc2 := Lib.hid hk
  replace HZ2 : Hid (w1.heap.size < w2.heap.size) := Lib.hid (by omega)
  have HE2 := Lib.hid hz
  clear hb hk hz
  have hb : Below w2.heap.size w2 (w2.alloc (.cells #[.slice none 0 0, .slice none 0 0] 26)) := (Below.refl _ _).alloc (Nat.le_refl _) _
  have hk : (w2.alloc (.cells #[.slice none 0 0, .slice none 0 0] 26)).heap[w.heap.size + 2]? = some (.cells #[.slice none 0 0, .slice none 0 0] 26 (0, 0)) := alloc_at (by have := HE1.out; have := HE2.out; omega)
  have hz : (w2.alloc (.cells #[.slice none 0 0, .slice none 0 0] 26)).heap.size = w2.heap.size + 1 := by simp
  generalize w2.alloc (.cells #[.slice none 0 0, .slice none 0 0] 26) = w3 at hb hk hz ⊢
  have HB3 : Hid (Below w.heap.size w w3) := Lib.hid (HB2.out.trans (hb.mono HB2.out.size))
  have HZ3 : Hid (w2.heap.size ≤ w3.heap.size) := Lib.hid hb.size
  have HRf3 := Lib.hid (HRf0.out.below HB3.out (Nat.le_refl _))
  have HRg3 := Lib.hid (HRg0.out.below HB3.out (Nat.le_refl _))
  have HKa3 := Lib.hid ((hb.block _ (lt_of_block HKa2.out)).trans HKa2.out)
  have HKc3 := Lib.hid ((hb.block _ (lt_of_block HKc2.out)).trans HKc2.out)
  have HKz3 := Lib.hid hk
  replace HZ3 : Hid (w2.heap.size < w3.heap.size) := Lib.hid (by omega)
  have HE3 := Lib.hid hz
  clear hb hk hz
  have lta := lt_of_block HKa3.out
  obtain ⟨ca0, ca1, fa0, fa1⟩ := cell2 HKa3.out
  have ltc := lt_of_block HKc3.out
  obtain ⟨cc0, cc1, fc0, fc1⟩ := cell2 HKc3.out
  have ltz := lt_of_block HKz3.out
  obtain ⟨cz0, cz1, fz0, fz1⟩ := cell2 HKz3.out
  have hl1 : w.heap.size + 1 < w3.heap.size := ltc
  have hl2 : w.heap.size + 2 < w3.heap.size := ltz
  refine (l5Good_any _ _ ls ss _ HRf3.out true ⟨fun _ => H1.out, fun _ => rfl⟩).mono ?_
  rintro e w4 ⟨rfl, hb⟩
  have HB4 : Hid (Below w.heap.size w w4) := Lib.hid (HB3.out.trans (hb.mono HB3.out.size))
  have HZ4 : Hid (w3.heap.size ≤ w4.heap.size) := Lib.hid hb.size
  have HRf4 := Lib.hid (HRf0.out.below HB4.out (Nat.le_refl _))
  have HRg4 := Lib.hid (HRg0.out.below HB4.out (Nat.le_refl _))
  have HKa4 := Lib.hid ((hb.block _ (lt_of_block HKa3.out)).trans HKa3.out)
  have HKc4 := Lib.hid ((hb.block _ (lt_of_block HKc3.out)).trans HKc3.out)
  have HKz4 := Lib.hid ((hb.block _ (lt_of_block HKz3.out)).trans HKz3.out)
  clear hb
  clear ca0 ca1 fa0 fa1 lta cc0 cc1 fc0 fc1 ltc cz0 cz1 fz0 fz1 ltz
  have lta := lt_of_block HKa4.out
  obtain ⟨ca0, ca1, fa0, fa1⟩ := cell2 HKa4.out
  have ltc := lt_of_block HKc4.out
  obtain ⟨cc0, cc1, fc0, fc1⟩ := cell2 HKc4.out
  have ltz := lt_of_block HKz4.out
  obtain ⟨cz0, cz1, fz0, fz1⟩ := cell2 HKz4.out
  go_wp2_with fail
  refine (l5Good_any _ _ ms ts _ HRg4.out true ⟨fun _ => H2.out, fun _ => rfl⟩).mono ?_
  rintro e w5 ⟨rfl, hb⟩
  have HB5 : Hid (Below w.heap.size w w5) := Lib.hid (HB4.out.trans (hb.mono HB4.out.size))
  have HZ5 : Hid (w4.heap.size ≤ w5.heap.size) := Lib.hid hb.size
  have HRf5 := Lib.hid (HRf0.out.below HB5.out (Nat.le_refl _))
  have HRg5 := Lib.hid (HRg0.out.below HB5.out (Nat.le_refl _))
  have HKa5 := Lib.hid ((hb.block _ (lt_of_block HKa4.out)).trans HKa4.out)
  have HKc5 := Lib.hid ((hb.block _ (lt_of_block HKc4.out)).trans HKc4.out)
  have HKz5 := Lib.hid ((hb.block _ (lt_of_block HKz4.out)).trans HKz4.out)
  clear hb
  clear ca0 ca1 fa0 fa1 lta cc0 cc1 fc0 fc1 ltc cz0 cz1 fz0 fz1 ltz
  have lta := lt_of_block HKa5.out
  obtain ⟨ca0, ca1, fa0, fa1⟩ := cell2 HKa5.out
  have ltc := lt_of_block HKc5.out
  obtain ⟨cc0, cc1, fc0, fc1⟩ := cell2 HKc5.out
  have ltz := lt_of_block HKz5.out
  obtain ⟨cz0, cz1, fz0, fz1⟩ := cell2 HKz5.out
  go_wp2_with fail
  refine (l5Own_any _ _ ls ss _ HRf5.out (by omega) (by omega)).mono ?_
  rintro e w6 ⟨⟨s1, s2, rfl, ho⟩, hb⟩
  have HB6 : Hid (Below w.heap.size w w6) := Lib.hid (HB5.out.trans (hb.mono HB5.out.size))
  have HZ6 : Hid (w5.heap.size ≤ w6.heap.size) := Lib.hid hb.size
  have HRf6 := Lib.hid (HRf0.out.below HB6.out (Nat.le_refl _))
  have HRg6 := Lib.hid (HRg0.out.below HB6.out (Nat.le_refl _))
  have HKa6 := Lib.hid ((hb.block _ (lt_of_block HKa5.out)).trans HKa5.out)
  have HKc6 := Lib.hid ((hb.block _ (lt_of_block HKc5.out)).trans HKc5.out)
  have HKz6 := Lib.hid ((hb.block _ (lt_of_block HKz5.out)).trans HKz5.out)
  clear hb
  obtain ⟨g1, k1, g2, k2, rfl, rfl, ⟨hg1a, hg1b, _⟩, hg2a, hg2b, _⟩ := ho.some' hlp hsp
  have HOv6 := Lib.hid (ho)
  clear ho
  clear ca0 ca1 fa0 fa1 lta cc0 cc1 fc0 fc1 ltc cz0 cz1 fz0 fz1 ltz
  have lta := lt_of_block HKa6.out
  obtain ⟨ca0, ca1, fa0, fa1⟩ := cell2 HKa6.out
  have ltc := lt_of_block HKc6.out
  obtain ⟨cc0, cc1, fc0, fc1⟩ := cell2 HKc6.out
  have ltz := lt_of_block HKz6.out
  obtain ⟨cz0, cz1, fz0, fz1⟩ := cell2 HKz6.out
  go_wp2_with fail
  have hb : Below w6.heap.size w6 (w6.alloc (.cells #[.slice (some ⟨g1, 0, none⟩) ls.length k1, .slice (some ⟨g2, 0, none⟩) ss.length k2] 26)) := (Below.refl _ _).alloc (Nat.le_refl _) _
  have hk : (w6.alloc (.cells #[.slice (some ⟨g1, 0, none⟩) ls.length k1, .slice (some ⟨g2, 0, none⟩) ss.length k2] 26)).heap[w6.heap.size]? = some (.cells #[.slice (some ⟨g1, 0, none⟩) ls.length k1, .slice (some ⟨g2, 0, none⟩) ss.length k2] 26 (0, 0)) := alloc_at rfl
  have hz : (w6.alloc (.cells #[.slice (some ⟨g1, 0, none⟩) ls.length k1, .slice (some ⟨g2, 0, none⟩) ss.length k2] 26)).heap.size = w6.heap.size + 1 := by simp
  generalize w6.alloc (.cells #[.slice (some ⟨g1, 0, none⟩) ls.length k1, .slice (some ⟨g2, 0, none⟩) ss.length k2] 26) = w7 at hb hk hz ⊢
  have HB7 : Hid (Below w.heap.size w w7) := Lib.hid (HB6.out.trans (hb.mono HB6.out.size))
  have HZ7 : Hid (w6.heap.size ≤ w7.heap.size) := Lib.hid hb.size
  have HRf7 := Lib.hid (HRf0.out.below HB7.out (Nat.le_refl _))
  have HRg7 := Lib.hid (HRg0.out.below HB7.out (Nat.le_refl _))
  have HKa7 := Lib.hid ((hb.block _ (lt_of_block HKa6.out)).trans HKa6.out)
  have HKc7 := Lib.hid ((hb.block _ (lt_of_block HKc6.out)).trans HKc6.out)
  have HKz7 := Lib.hid ((hb.block _ (lt_of_block HKz6.out)).trans HKz6.out)
  have HOv7 := Lib.hid (HOv6.out.next hb)
  have HKo7 := Lib.hid hk
  replace HZ7 : Hid (w6.heap.size < w7.heap.size) := Lib.hid (by omega)
  have HE7 := Lib.hid hz
  clear hb hk hz
  have h35 : w3.heap.size ≤ w5.heap.size := by have := HZ4.out; have := HZ5.out; omega
  have hl1 : w.heap.size + 1 < w5.heap.size := by omega
  have hl2 : w.heap.size + 2 < w5.heap.size := by omega
  have h56 : w5.heap.size ≤ w6.heap.size := by have := HZ6.out; omega
  have hws : w.heap.size ≤ w5.heap.size := by omega
  clear ca0 ca1 fa0 fa1 lta cc0 cc1 fc0 fc1 ltc cz0 cz1 fz0 fz1 ltz
  have lta := lt_of_block HKa7.out
  obtain ⟨ca0, ca1, fa0, fa1⟩ := cell2 HKa7.out
  have ltc := lt_of_block HKc7.out
  obtain ⟨cc0, cc1, fc0, fc1⟩ := cell2 HKc7.out
  have ltz := lt_of_block HKz7.out
  obtain ⟨cz0, cz1, fz0, fz1⟩ := cell2 HKz7.out
  have lto := lt_of_block HKo7.out
  obtain ⟨co0, co1, fo0, fo1⟩ := cell2 HKo7.out
  go_wp2_with fail
  go_loopw [7] (fun i wr => ∃ k : Nat, k ≤ ls.length ∧ i = .int .i64 k ∧ wr.heap[w.heap.size + 1]? = some (.cells #[.slice b1 ms.length d1, .slice b2 ts.length d2] 26 (0, 0)) ∧ wr.heap[w.heap.size + 2]? = some (.cells #[.slice none 0 0, .slice none 0 0] 26 (0, 0)) ∧ wr.heap[w6.heap.size]? = some (.cells #[.slice (some ⟨g1, 0, none⟩) ls.length k1, .slice (some ⟨g2, 0, none⟩) ss.length k2] 26 (0, 0)) ∧ OwB w5.heap.size w6.heap.size wr (.slice (some ⟨g1, 0, none⟩) ls.length k1) (.slice (some ⟨g2, 0, none⟩) ss.length k2) (jn ls ms k) (jn ss ts k) ∧ Below w.heap.size w wr ∧ w6.heap.size < wr.heap.size) (fun i _ => ls.length - (intOf i).toNat)
  case atStart => exact ⟨0, Nat.zero_le _, rfl, HKc7.out, HKz7.out, HKo7.out, HOv7.out, HB7.out, lt_of_block HKo7.out⟩
  case round =>
    obtain ⟨k, hk, rfl, hkc, hkz, hko, hov, hb, hsz⟩ := hrel
    have HSZ := Lib.hid hsz
    have HO0 := Lib.hid hov
    by_cases hlt : k < ls.length
    · have hlt2 : k < ms.length := by rw [← HL.out]; exact hlt
      have hlt3 : k < ss.length := by rw [HSS.out]; exact hlt
      have hlt4 : k < ts.length := by rw [HTT.out]; exact hlt2
      have z0 : (0 : Int) ≤ (k : Int) := by omega
      have z1 : (k : Int) < (ls.length : Int) := by omega
      have z2 : (k : Int) < (ms.length : Int) := by omega
      have z3 : (k : Int) < (ss.length : Int) := by omega
      have z4 : (k : Int) < (ts.length : Int) := by omega
      obtain ⟨x, hx⟩ : ∃ x, ls[k] = x := ⟨_, rfl⟩
      obtain ⟨y, hy⟩ : ∃ y, ms[k] = y := ⟨_, rfl⟩
      obtain ⟨u, hu⟩ : ∃ u, ss[k] = u := ⟨_, rfl⟩
      obtain ⟨v, hv⟩ : ∃ v, ts[k] = v := ⟨_, rfl⟩
      have HX : Hid ((jn ls ms k)[k]'(by rw [jn_len]; exact hlt) = x) := Lib.hid ((jn_late ls ms k k _ hlt (Nat.le_refl _)).trans hx)
      have HU : Hid ((jn ss ts k)[k]'(by rw [jn_len]; exact hlt3) = u) := Lib.hid ((jn_late ss ts k k _ hlt3 (Nat.le_refl _)).trans hu)
      have HJ1 : Hid ((jn ls ms k).set k (x + y) = jn ls ms (k + 1)) := Lib.hid (by rw [← hx, ← hy]; exact jn_step ls ms k hlt hlt2)
      have HJ2 : Hid ((jn ss ts k).set k (u + v) = jn ss ts (k + 1)) := Lib.hid (by rw [← hu, ← hv]; exact jn_step ss ts k hlt3 hlt4)
      have hb1 := H1.out.2.2 k hlt hlt3
      have hb2 := H2.out.2.2 k hlt2 hlt4
      rw [hx, hu] at hb1
      rw [hy, hv] at hb2
      obtain ⟨⟨x0, x1⟩, u0, u1⟩ := hb1
      obtain ⟨⟨y0, y1⟩, v0, v1⟩ := hb2
      have wa : IntKind.i64.wrap (x + y) = x + y := by rw [IntKind.wrap_i64]; omega
      have wb : IntKind.i64.wrap (u + v) = u + v := by rw [IntKind.wrap_i64]; omega
      have hj1 : k < (jn ls ms k).length := by rw [jn_len]; exact hlt
      have hj2 : k < (jn ss ts k).length := by rw [jn_len]; exact hlt3
      have HJ1L := Lib.hid hj1
      have HJ2L := Lib.hid hj2
      have HY := Lib.hid hy
      have HV := Lib.hid hv
      obtain ⟨b1', o1, rfl, hlb1, hp1⟩ := A1.out _ hb k hlt2
      obtain ⟨b2', o2, rfl, hlb2, hp2⟩ := A2.out _ hb k hlt4
      have HM1 : Hid (∀ w', Below w.heap.size w w' → w'.cell? ⟨b1', o1 + k, none⟩ = some (.int .i64 y)) := Lib.hid (fun w' hb => by
        obtain ⟨b9, o9, e9, _, p9⟩ := A1.out w' hb k hlt2
        injection e9 with e9
        injection e9 with e1 e2
        subst e1 e2
        rw [HY.out] at p9
        exact p9)
      have HM2 : Hid (∀ w', Below w.heap.size w w' → w'.cell? ⟨b2', o2 + k, none⟩ = some (.int .i64 v)) := Lib.hid (fun w' hb => by
        obtain ⟨b9, o9, e9, _, p9⟩ := A2.out w' hb k hlt4
        injection e9 with e9
        injection e9 with e1 e2
        subst e1 e2
        rw [HV.out] at p9
        exact p9)
      have HB20 : Hid (Below w.heap.size w wr) := Lib.hid hb
      have HRf20 := Lib.hid (HRf0.out.below HB20.out (Nat.le_refl _))
      have HRg20 := Lib.hid (HRg0.out.below HB20.out (Nat.le_refl _))
      have HKc20 := Lib.hid (hkc)
      have HKz20 := Lib.hid (hkz)
      have HKo20 := Lib.hid (hko)
      have HOv20 := Lib.hid (hov)
      clear hkc hkz hko hov hb hsz hx hy hu hv hj1 hj2 hlb1 hlb2 hp1 hp2 HO0
      have p0 := HM1.out _ HB20.out
      have hd : wr.cell? ⟨g1, k, none⟩ = some (.int .i64 x) := HOv20.out.at1 k HJ1L.out HX.out
      have ltc := lt_of_block HKc20.out
      obtain ⟨cc0, cc1, fc0, fc1⟩ := cell2 HKc20.out
      have ltz := lt_of_block HKz20.out
      obtain ⟨cz0, cz1, fz0, fz1⟩ := cell2 HKz20.out
      have lto := lt_of_block HKo20.out
      obtain ⟨co0, co1, fo0, fo1⟩ := cell2 HKo20.out
      go_wp2_with fail
      go_still_tail 15, (by kernel_rfl)
      change wpList _ _ _ _ _ wr.drew
      have hb : Below wr.heap.size wr wr.drew := (Below.refl _ _).drew
      generalize wr.drew = w21 at hb ⊢
      clear hd p0
      have HB21 : Hid (Below w.heap.size w w21) := Lib.hid (HB20.out.trans (hb.mono HB20.out.size))
      have HZ21 : Hid (wr.heap.size ≤ w21.heap.size) := Lib.hid hb.size
      have HRf21 := Lib.hid (HRf0.out.below HB21.out (Nat.le_refl _))
      have HRg21 := Lib.hid (HRg0.out.below HB21.out (Nat.le_refl _))
      have HKc21 := Lib.hid ((hb.block _ (lt_of_block HKc20.out)).trans HKc20.out)
      have HKz21 := Lib.hid ((hb.block _ (lt_of_block HKz20.out)).trans HKz20.out)
      have HKo21 := Lib.hid ((hb.block _ (lt_of_block HKo20.out)).trans HKo20.out)
      have HOv21 := Lib.hid (HOv20.out.next hb)
      clear hb
      have p0 := HM1.out _ HB21.out
      have hd : w21.cell? ⟨g1, k, none⟩ = some (.int .i64 x) := HOv21.out.at1 k HJ1L.out HX.out
      have hfr := HOv21.out.fr1 k
      have hv := HOv21.out.st1 k (x + y)
      have hm : Btw w5.heap.size w6.heap.size w21 (w21.setCell ⟨g1, k, none⟩ (.int .i64 (x + y))) := (Btw.refl w5.heap.size w6.heap.size w21).setCell (p := ⟨g1, k, none⟩) hg1a hg1b _
      clear cc0 cc1 fc0 fc1 ltc cz0 cz1 fz0 fz1 ltz co0 co1 fo0 fo1 lto
      have ltc := lt_of_block HKc21.out
      obtain ⟨cc0, cc1, fc0, fc1⟩ := cell2 HKc21.out
      have ltz := lt_of_block HKz21.out
      obtain ⟨cz0, cz1, fz0, fz1⟩ := cell2 HKz21.out
      have lto := lt_of_block HKo21.out
      obtain ⟨co0, co1, fo0, fo1⟩ := cell2 HKo21.out
      go_wp2_with fail
      clear hd hfr
      generalize w21.setCell ⟨g1, k, none⟩ (.int .i64 (x + y)) = w22 at hm hv ⊢
      have HZ22 : Hid (w21.heap.size ≤ w22.heap.size) := Lib.hid hm.size
      have HB22 : Hid (Below w.heap.size w w22) := Lib.hid (HB21.out.trans (hm.below.mono (by have := HZ21.out; have := HB20.out.size; omega)))
      have HRf22 := Lib.hid (HRf0.out.below HB22.out (Nat.le_refl _))
      have HRg22 := Lib.hid (HRg0.out.below HB22.out (Nat.le_refl _))
      have HKc22 := Lib.hid ((hm.block _ (by have := lt_of_block HKc21.out; have := HZ21.out; omega)).trans HKc21.out)
      have HKz22 := Lib.hid ((hm.block _ (by have := lt_of_block HKz21.out; have := HZ21.out; omega)).trans HKz21.out)
      have HKo22 := Lib.hid ((hm.block _ (by have := lt_of_block HKo21.out; have := HZ21.out; omega)).trans HKo21.out)
      clear hm
      have HOv22 := Lib.hid (hv)
      clear hv
      clear p0
      have p0 := HM2.out _ HB22.out
      have hd : w22.cell? ⟨g2, k, none⟩ = some (.int .i64 u) := HOv22.out.at2 k HJ2L.out HU.out
      clear cc0 cc1 fc0 fc1 ltc cz0 cz1 fz0 fz1 ltz co0 co1 fo0 fo1 lto
      have ltc := lt_of_block HKc22.out
      obtain ⟨cc0, cc1, fc0, fc1⟩ := cell2 HKc22.out
      have ltz := lt_of_block HKz22.out
      obtain ⟨cz0, cz1, fz0, fz1⟩ := cell2 HKz22.out
      have lto := lt_of_block HKo22.out
      obtain ⟨co0, co1, fo0, fo1⟩ := cell2 HKo22.out
      go_wp2_with fail
      go_still_tail 15, (by kernel_rfl)
      change wpList _ _ _ _ _ w22.drew
      have hb : Below w22.heap.size w22 w22.drew := (Below.refl _ _).drew
      generalize w22.drew = w23 at hb ⊢
      clear hd p0
      have HB23 : Hid (Below w.heap.size w w23) := Lib.hid (HB22.out.trans (hb.mono HB22.out.size))
      have HZ23 : Hid (w22.heap.size ≤ w23.heap.size) := Lib.hid hb.size
      have HRf23 := Lib.hid (HRf0.out.below HB23.out (Nat.le_refl _))
      have HRg23 := Lib.hid (HRg0.out.below HB23.out (Nat.le_refl _))
      have HKc23 := Lib.hid ((hb.block _ (lt_of_block HKc22.out)).trans HKc22.out)
      have HKz23 := Lib.hid ((hb.block _ (lt_of_block HKz22.out)).trans HKz22.out)
      have HKo23 := Lib.hid ((hb.block _ (lt_of_block HKo22.out)).trans HKo22.out)
      have HOv23 := Lib.hid (HOv22.out.next hb)
      clear hb
      have p0 := HM2.out _ HB23.out
      have hd : w23.cell? ⟨g2, k, none⟩ = some (.int .i64 u) := HOv23.out.at2 k HJ2L.out HU.out
      have hfr := HOv23.out.fr2 k
      have hv := HOv23.out.st2 k (u + v)
      have hm : Btw w5.heap.size w6.heap.size w23 (w23.setCell ⟨g2, k, none⟩ (.int .i64 (u + v))) := (Btw.refl w5.heap.size w6.heap.size w23).setCell (p := ⟨g2, k, none⟩) hg2a hg2b _
      clear cc0 cc1 fc0 fc1 ltc cz0 cz1 fz0 fz1 ltz co0 co1 fo0 fo1 lto
      have ltc := lt_of_block HKc23.out
      obtain ⟨cc0, cc1, fc0, fc1⟩ := cell2 HKc23.out
      have ltz := lt_of_block HKz23.out
      obtain ⟨cz0, cz1, fz0, fz1⟩ := cell2 HKz23.out
      have lto := lt_of_block HKo23.out
      obtain ⟨co0, co1, fo0, fo1⟩ := cell2 HKo23.out
      go_wp2_with fail
      clear hd hfr
      generalize w23.setCell ⟨g2, k, none⟩ (.int .i64 (u + v)) = w24 at hm hv ⊢
      have HZ24 : Hid (w23.heap.size ≤ w24.heap.size) := Lib.hid hm.size
      have HB24 : Hid (Below w.heap.size w w24) := Lib.hid (HB23.out.trans (hm.below.mono (by have := HZ21.out; have := HZ22.out; have := HZ23.out; have := HB20.out.size; omega)))
      have HRf24 := Lib.hid (HRf0.out.below HB24.out (Nat.le_refl _))
      have HRg24 := Lib.hid (HRg0.out.below HB24.out (Nat.le_refl _))
      have HKc24 := Lib.hid ((hm.block _ (by have := lt_of_block HKc23.out; have := HZ21.out; have := HZ22.out; have := HZ23.out; omega)).trans HKc23.out)
      have HKz24 := Lib.hid ((hm.block _ (by have := lt_of_block HKz23.out; have := HZ21.out; have := HZ22.out; have := HZ23.out; omega)).trans HKz23.out)
      have HKo24 := Lib.hid ((hm.block _ (by have := lt_of_block HKo23.out; have := HZ21.out; have := HZ22.out; have := HZ23.out; omega)).trans HKo23.out)
      clear hm
      have HOv24 := Lib.hid (hv)
      clear hv
      clear p0
      clear cc0 cc1 fc0 fc1 ltc cz0 cz1 fz0 fz1 ltz co0 co1 fo0 fo1 lto
      have ltc := lt_of_block HKc24.out
      obtain ⟨cc0, cc1, fc0, fc1⟩ := cell2 HKc24.out
      have ltz := lt_of_block HKz24.out
      obtain ⟨cz0, cz1, fz0, fz1⟩ := cell2 HKz24.out
      have lto := lt_of_block HKo24.out
      obtain ⟨co0, co1, fo0, fo1⟩ := cell2 HKo24.out
      go_wp2_with fail
      go_roundw
      case rel => exact ⟨k + 1, by omega, by go_num, HKc24.out, HKz24.out, HKo24.out, by rw [← HJ1.out, ← HJ2.out]; exact HOv24.out, HB24.out, by have := HSZ.out; have := HZ21.out; have := HZ22.out; have := HZ23.out; have := HZ24.out;  omega⟩
      case measure => simp [intOf]; omega
    · obtain rfl : k = ls.length := by omega
      have z1 : ¬ ((ls.length : Int) < (ms.length : Int)) := by have := HL.out; omega
      have HO1 : Hid (OwB w5.heap.size w6.heap.size wr (.slice (some ⟨g1, 0, none⟩) ls.length k1) (.slice (some ⟨g2, 0, none⟩) ss.length k2) (jn ls ms ls.length) (jn ss ts ss.length)) := Lib.hid (by rw [HSS.out] at hov ⊢; exact hov)
      have e1 : (jn ls ms ls.length).length = ls.length := jn_len _ _ _
      have e2 : (jn ss ts ss.length).length = ss.length := jn_len _ _ _
      generalize jn ls ms ls.length = jl at HO1 HK e1
      generalize jn ss ts ss.length = jt at HO1 HK e2
      have HB20 : Hid (Below w.heap.size w wr) := Lib.hid hb
      have HRf20 := Lib.hid (HRf0.out.below HB20.out (Nat.le_refl _))
      have HRg20 := Lib.hid (HRg0.out.below HB20.out (Nat.le_refl _))
      have HKc20 := Lib.hid (hkc)
      have HKz20 := Lib.hid (hkz)
      have HKo20 := Lib.hid (hko)
      have HOv20 := Lib.hid (HO1.out)
      clear hkc hkz hko hov hb hsz hlt HO0
      have HE1 := Lib.hid e1
      have HE2 := Lib.hid e2
      clear e1 e2
      have hrd := HOv20.out.reads
      have ltc := lt_of_block HKc20.out
      obtain ⟨cc0, cc1, fc0, fc1⟩ := cell2 HKc20.out
      have ltz := lt_of_block HKz20.out
      obtain ⟨cz0, cz1, fz0, fz1⟩ := cell2 HKz20.out
      have lto := lt_of_block HKo20.out
      obtain ⟨co0, co1, fo0, fo1⟩ := cell2 HKo20.out
      go_wp2_with fail
      rcases HK.out with ⟨hok, hq1, hq2, rfl⟩ | ⟨hok, hq1, hq2, rfl⟩
      · subst hq1 hq2
        have HOK := Lib.hid hok
        clear hok
        refine (l5Good_any _ _ qs qt _ hrd true ⟨fun _ => HOK.out, fun _ => rfl⟩).mono ?_
        rintro e w21 ⟨rfl, hb⟩
        have HB21 : Hid (Below w.heap.size w w21) := Lib.hid (HB20.out.trans (hb.mono HB20.out.size))
        have HZ21 : Hid (wr.heap.size ≤ w21.heap.size) := Lib.hid hb.size
        have HRf21 := Lib.hid (HRf0.out.below HB21.out (Nat.le_refl _))
        have HRg21 := Lib.hid (HRg0.out.below HB21.out (Nat.le_refl _))
        have HKc21 := Lib.hid ((hb.block _ (lt_of_block HKc20.out)).trans HKc20.out)
        have HKz21 := Lib.hid ((hb.block _ (lt_of_block HKz20.out)).trans HKz20.out)
        have HKo21 := Lib.hid ((hb.block _ (lt_of_block HKo20.out)).trans HKo20.out)
        have HOv21 := Lib.hid (HOv20.out.next hb)
        clear hb
        clear hrd
        clear cc0 cc1 fc0 fc1 ltc cz0 cz1 fz0 fz1 ltz co0 co1 fo0 fo1 lto
        have ltc := lt_of_block HKc21.out
        obtain ⟨cc0, cc1, fc0, fc1⟩ := cell2 HKc21.out
        have ltz := lt_of_block HKz21.out
        obtain ⟨cz0, cz1, fz0, fz1⟩ := cell2 HKz21.out
        have lto := lt_of_block HKo21.out
        obtain ⟨co0, co1, fo0, fo1⟩ := cell2 HKo21.out
        go_wp2_with fail
        exact bodyPost_ret (v := .tuple #[.agg #[.slice (some ⟨g1, 0, none⟩) ls.length k1, .slice (some ⟨g2, 0, none⟩) ss.length k2], .bool true]) (by simp [results, Tryd.results15, go_sem, cz0, cz1]) rfl ⟨⟨_, _, rfl, ((HOv21.out.set (a := ⟨w.heap.size + 2, 0, none⟩) hl2 _).set (a := ⟨w.heap.size + 2, 1, none⟩) hl2 _).mono (by omega) (by have := HB21.out.size; have := HSZ.out; simp [World.setCell]; have := HZ21.out;  omega)⟩, by first | exact HB21.out | exact (HB21.out.setCell (p := ⟨w.heap.size + 2, 0, none⟩) (by show w.heap.size ≤ w.heap.size + 2; omega) _).setCell (p := ⟨w.heap.size + 2, 1, none⟩) (by show w.heap.size ≤ w.heap.size + 2; omega) _⟩
      · subst hq1 hq2
        have HOK := Lib.hid hok
        clear hok
        refine (l5Good_any _ _ jl jt _ hrd false ⟨fun e => by simp at e, fun e => absurd e HOK.out⟩).mono ?_
        rintro e w21 ⟨rfl, hb⟩
        have HB21 : Hid (Below w.heap.size w w21) := Lib.hid (HB20.out.trans (hb.mono HB20.out.size))
        have HZ21 : Hid (wr.heap.size ≤ w21.heap.size) := Lib.hid hb.size
        have HRf21 := Lib.hid (HRf0.out.below HB21.out (Nat.le_refl _))
        have HRg21 := Lib.hid (HRg0.out.below HB21.out (Nat.le_refl _))
        have HKc21 := Lib.hid ((hb.block _ (lt_of_block HKc20.out)).trans HKc20.out)
        have HKz21 := Lib.hid ((hb.block _ (lt_of_block HKz20.out)).trans HKz20.out)
        have HKo21 := Lib.hid ((hb.block _ (lt_of_block HKo20.out)).trans HKo20.out)
        have HOv21 := Lib.hid (HOv20.out.next hb)
        clear hb
        clear hrd
        clear cc0 cc1 fc0 fc1 ltc cz0 cz1 fz0 fz1 ltz co0 co1 fo0 fo1 lto
        have ltc := lt_of_block HKc21.out
        obtain ⟨cc0, cc1, fc0, fc1⟩ := cell2 HKc21.out
        have ltz := lt_of_block HKz21.out
        obtain ⟨cz0, cz1, fz0, fz1⟩ := cell2 HKz21.out
        have lto := lt_of_block HKo21.out
        obtain ⟨co0, co1, fo0, fo1⟩ := cell2 HKo21.out
        go_wp2_with fail
        exact bodyPost_ret (v := .tuple #[.agg #[(.slice none 0 0), (.slice none 0 0)], .bool false]) (by simp [results, Tryd.results15, go_sem, cz0, cz1]) rfl ⟨⟨_, _, rfl, OwB.nil' _ _ _⟩, by first | exact HB21.out | exact (HB21.out.setCell (p := ⟨w.heap.size + 2, 0, none⟩) (by show w.heap.size ≤ w.heap.size + 2; omega) _).setCell (p := ⟨w.heap.size + 2, 1, none⟩) (by show w.heap.size ≤ w.heap.size + 2; omega) _⟩
theorem specJoin_any (v1 v2 u1 u2 : Value) (ls ss ms ts : List Int) (w : World) (h : BrdR w v1 v2 ls ss) (h' : BrdR w u1 u2 ms ts) (qs qt : List Int) (r : Bool) (hk : JbF ls ss ms ts qs qt r) :
    Calls Tryd.prog 15 #[.agg #[v1, v2], .agg #[u1, u2]] w fun e w' => (∃ s1 t1, e = .returned (.tuple #[.agg #[s1, t1], .bool r]) ∧ OwB w.heap.size w'.heap.size w' s1 t1 qs qt) ∧ Below w.heap.size w w' := by
  by_cases hg : okB ls ss ∧ okB ms ts ∧ ls.length = ms.length
  · refine specJoin_yes v1 v2 u1 u2 ls ss ms ts w h h' hg.1 hg.2.1 hg.2.2 qs qt r ?_
    rcases hk with ⟨_, h2⟩ | ⟨h1, h2⟩
    · exact .inl h2
    · exact .inr ⟨fun h3 => h1 ⟨hg, h3⟩, h2⟩
  · refine specJoin_no v1 v2 u1 u2 ls ss ms ts w h h' hg qs qt r ?_
    rcases hk with ⟨h1, _⟩ | ⟨_, h2⟩
    · exact absurd h1 hg
    · exact h2
end Go.Proofs.YtbdddpchlmddbaaDoor
