/- The law's helpers on amounts (one slice of ints): copy, measure, compare, mark, held. -/
import Derived.Test.YtlmnbecfaaeohaaBoards
namespace Go.Proofs.Ytlmnbecfaaeohaa
set_option linter.unusedVariables false
open Go.RowKit

/-- The slice of an amount, freshly made. -/
def OwA (lo hi : Nat) (w : World) (v : Value) (cs : List Int) : Prop := Ow lo hi w 3 1 v cs.length (flatC inC cs)
theorem OwA.next {lo hi : Nat} {w w' : World} {v : Value} {cs : List Int} (h : OwA lo hi w v cs) (hb : Below w.heap.size w w') : OwA lo hi w' v cs := Ow.next h hb
theorem OwA.btw {lo hi a b : Nat} {w w' : World} {v : Value} {cs : List Int} (h : OwA lo hi w v cs) (hb : Btw a b w w') (hd : hi ≤ a ∨ b ≤ lo) : OwA lo hi w' v cs := Ow.btw h hb hd
theorem OwA.reads {lo hi : Nat} {w : World} {v : Value} {cs : List Int} (h : OwA lo hi w v cs) : RowsR 1 inC w v cs := RowsR.of_own inC_len h.1
theorem OwA.form {lo hi : Nat} {w : World} {v : Value} {cs : List Int} (h : OwA lo hi w v cs) : ∃ a c, v = .slice a cs.length c := h.reads.form
theorem OwA.mono {lo hi lo' hi' : Nat} {w : World} {v : Value} {cs : List Int} (h : OwA lo hi w v cs) (h1 : lo' ≤ lo) (h2 : hi ≤ hi') : OwA lo' hi' w v cs := Ow.widen h h1 h2
theorem OwA.set {lo hi : Nat} {w : World} {v : Value} {cs : List Int} (h : OwA lo hi w v cs) {a : Addr} (ha : a.block < lo) (u : Value) : OwA lo hi (w.setCell a u) v cs :=
  h.btw ((Btw.refl a.block (a.block + 1) w).setCell (p := a) (Nat.le_refl _) (Nat.lt_succ_self _) u) (.inr ha)
theorem OwA.setUp {lo hi : Nat} {w : World} {v : Value} {cs : List Int} (h : OwA lo hi w v cs) {a : Addr} (ha : hi ≤ a.block) (u : Value) : OwA lo hi (w.setCell a u) v cs :=
  h.btw ((Btw.refl a.block (a.block + 1) w).setCell (p := a) (Nat.le_refl _) (Nat.lt_succ_self _) u) (.inl ha)
theorem OwA.nil (lo hi : Nat) (w : World) : OwA lo hi w (.slice none 0 0) [] := ⟨own_nil' _ _ _ _, fun g hg => by cases hg⟩
theorem box1_set {w : World} {g : Nat} {a : Value} {T : TypeId} (h : w.heap[g]? = some (.cells #[a] T (0, 0))) (x : Value) : (w.setCell ⟨g, 0, none⟩ x).heap[g]? = some (.cells #[x] T (0, 0)) := by
  have h1 := heap_setCell_same w g 0 _ _ x h
  simpa using h1
/-- A fresh row's interval: of one block, or none at the upper end. -/
theorem OwA.one {lo hi : Nat} {w : World} {v : Value} {cs : List Int} (h : OwA lo hi w v cs) (hl : lo ≤ hi) : ∃ x y, OwA x y w v cs ∧ lo ≤ x ∧ x ≤ y ∧ y ≤ hi ∧ ((x = hi ∧ y = hi) ∨ (y = x + 1 ∧ v.ownBlock = some x)) := by
  obtain ⟨⟨h1, h2⟩, h3⟩ := h
  rcases h2 with ⟨rfl, h0⟩ | ⟨g, cap, cur, rfl, hg, hh, r⟩
  · exact ⟨hi, hi, ⟨⟨h1, .inl ⟨rfl, h0⟩⟩, fun g hg => by simp [Value.ownBlock] at hg⟩, hl, Nat.le_refl _, Nat.le_refl _, .inl ⟨rfl, rfl⟩⟩
  · have h4 := h3 g rfl
    exact ⟨g, g + 1, ⟨⟨h1, .inr ⟨g, cap, cur, rfl, Nat.le_refl _, hh, r⟩⟩, fun g' hg' => by simp [Value.ownBlock] at hg'; omega⟩, hg, by omega, by omega, .inr ⟨rfl, rfl⟩⟩
theorem OwB.split {lo hi : Nat} {w : World} {v1 v2 : Value} {ls ss : List Int} (h : OwB lo hi w v1 v2 ls ss) (hl : lo ≤ hi) : ∃ x1 y1 x2 y2, OwA x1 y1 w v1 ls ∧ OwA x2 y2 w v2 ss ∧ lo ≤ x1 ∧ x1 ≤ y1 ∧ y1 ≤ hi ∧ lo ≤ x2 ∧ x2 ≤ y2 ∧ y2 ≤ hi ∧ (y1 ≤ x2 ∨ y2 ≤ x1) := by
  obtain ⟨x1, y1, a1, a2, a3, a4, a5⟩ := OwA.one h.1 hl
  obtain ⟨x2, y2, b1, b2, b3, b4, b5⟩ := OwA.one h.2.1 hl
  refine ⟨x1, y1, x2, y2, a1, b1, a2, a3, a4, b2, b3, b4, ?_⟩
  rcases a5 with ⟨e1, e2⟩ | ⟨e1, e2⟩
  · exact .inr (by omega)
  · rcases b5 with ⟨f1, f2⟩ | ⟨f1, f2⟩
    · exact .inl (by omega)
    · have : x1 ≠ x2 := fun e => h.2.2 x1 e2 (by rw [f2, e])
      omega

set_option maxRecDepth 100000 in
set_option maxHeartbeats 1600000 in
theorem szAmount_any (v : Value) (cs : List Int) (left : Int) (w : World) (h : RowsR 1 inC w v cs) (h0 : 0 ≤ left) (h1 : left ≤ 1048576) :
    Calls Try.prog 18 #[.agg #[v], .int .i64 left] w fun e w' => (∃ l : Int, e = .returned (.int .i64 l) ∧ l ≤ 1048576 ∧ (0 ≤ l → (cs.length : Int) + l = left)) ∧ Below w.heap.size w w' := by
  obtain ⟨a1, c1, rfl⟩ := h.form
  have HB0 : Hid (Below w.heap.size w w) := Lib.hid (Below.refl _ _)
  have HRf0 := Lib.hid (h)
  clear h
  go_enter Try.func18, Try.ntmps18
  go_wp2_with fail
  have hb : Below w.heap.size w (w.alloc (.cells #[.slice a1 cs.length c1] 31)) := (Below.refl _ _).alloc (Nat.le_refl _) _
  have hk : (w.alloc (.cells #[.slice a1 cs.length c1] 31)).heap[w.heap.size]? = some (.cells #[.slice a1 cs.length c1] 31 (0, 0)) := alloc_at rfl
  have hz : (w.alloc (.cells #[.slice a1 cs.length c1] 31)).heap.size = w.heap.size + 1 := by simp
  generalize w.alloc (.cells #[.slice a1 cs.length c1] 31) = w1 at hb hk hz ⊢
  have HB1 : Hid (Below w.heap.size w w1) := Lib.hid (HB0.out.trans (hb.mono HB0.out.size))
  have HZ1 : Hid (w.heap.size ≤ w1.heap.size) := Lib.hid hb.size
  have HRf1 := Lib.hid (HRf0.out.below HB1.out (Nat.le_refl _))
  have HKb1 := Lib.hid hk
  replace HZ1 : Hid (w.heap.size < w1.heap.size) := Lib.hid (by omega)
  have HE1 := Lib.hid hz
  clear hb hk hz
  have ltb := lt_of_block HKb1.out
  obtain ⟨cb0, fb0⟩ := cell1 HKb1.out
  refine (szIntS_any _ cs left _ HRf1.out h0 h1).mono ?_
  rintro e w2 ⟨⟨l, rfl, hl1, hl2⟩, hb⟩
  have HB2 : Hid (Below w.heap.size w w2) := Lib.hid (HB1.out.trans (hb.mono HB1.out.size))
  have HZ2 : Hid (w1.heap.size ≤ w2.heap.size) := Lib.hid hb.size
  have HRf2 := Lib.hid (HRf0.out.below HB2.out (Nat.le_refl _))
  have HKb2 := Lib.hid ((hb.block _ (lt_of_block HKb1.out)).trans HKb1.out)
  clear hb
  by_cases hl : l < 0
  · skip
    clear cb0 fb0 ltb
    have ltb := lt_of_block HKb2.out
    obtain ⟨cb0, fb0⟩ := cell1 HKb2.out
    go_wp2_with fail
    go_ret
    exact ⟨⟨-1, rfl, by omega, fun h => by omega⟩, HB2.out⟩
  · skip
    clear cb0 fb0 ltb
    have ltb := lt_of_block HKb2.out
    obtain ⟨cb0, fb0⟩ := cell1 HKb2.out
    go_wp2_with fail
    go_ret
    exact ⟨⟨l, rfl, by omega, fun h => by omega⟩, HB2.out⟩

set_option maxRecDepth 100000 in
set_option maxHeartbeats 1600000 in
theorem eqAmount_yes (v1 u1 : Value) (cs : List Int) (w : World) (h1 : RowsR 1 inC w v1 cs) (h2 : RowsR 1 inC w u1 cs) :
    Calls Try.prog 22 #[.agg #[v1], .agg #[u1]] w fun e w' => e = .returned (.bool true) ∧ Below w.heap.size w w' := by
  obtain ⟨a1, c1, rfl⟩ := h1.form
  obtain ⟨b1, d1, rfl⟩ := h2.form
  have HB0 : Hid (Below w.heap.size w w) := Lib.hid (Below.refl _ _)
  have HRf0 := Lib.hid (h1)
  have HRg0 := Lib.hid (h2)
  clear h1 h2
  go_enter Try.func22, Try.ntmps22
  go_wp2_with fail
  have hb : Below w.heap.size w (w.alloc (.cells #[.slice a1 cs.length c1] 34)) := (Below.refl _ _).alloc (Nat.le_refl _) _
  have hk : (w.alloc (.cells #[.slice a1 cs.length c1] 34)).heap[w.heap.size]? = some (.cells #[.slice a1 cs.length c1] 34 (0, 0)) := alloc_at rfl
  have hz : (w.alloc (.cells #[.slice a1 cs.length c1] 34)).heap.size = w.heap.size + 1 := by simp
  generalize w.alloc (.cells #[.slice a1 cs.length c1] 34) = w1 at hb hk hz ⊢
  have HB1 : Hid (Below w.heap.size w w1) := Lib.hid (HB0.out.trans (hb.mono HB0.out.size))
  have HZ1 : Hid (w.heap.size ≤ w1.heap.size) := Lib.hid hb.size
  have HRf1 := Lib.hid (HRf0.out.below HB1.out (Nat.le_refl _))
  have HRg1 := Lib.hid (HRg0.out.below HB1.out (Nat.le_refl _))
  have HKa1 := Lib.hid hk
  replace HZ1 : Hid (w.heap.size < w1.heap.size) := Lib.hid (by omega)
  have HE1 := Lib.hid hz
  clear hb hk hz
  have hb : Below w1.heap.size w1 (w1.alloc (.cells #[.slice b1 cs.length d1] 34)) := (Below.refl _ _).alloc (Nat.le_refl _) _
  have hk : (w1.alloc (.cells #[.slice b1 cs.length d1] 34)).heap[w.heap.size + 1]? = some (.cells #[.slice b1 cs.length d1] 34 (0, 0)) := alloc_at (by have := HE1.out; omega)
  have hz : (w1.alloc (.cells #[.slice b1 cs.length d1] 34)).heap.size = w1.heap.size + 1 := by simp
  generalize w1.alloc (.cells #[.slice b1 cs.length d1] 34) = w2 at hb hk hz ⊢
  have HB2 : Hid (Below w.heap.size w w2) := Lib.hid (HB1.out.trans (hb.mono HB1.out.size))
  have HZ2 : Hid (w1.heap.size ≤ w2.heap.size) := Lib.hid hb.size
  have HRf2 := Lib.hid (HRf0.out.below HB2.out (Nat.le_refl _))
  have HRg2 := Lib.hid (HRg0.out.below HB2.out (Nat.le_refl _))
  have HKa2 := Lib.hid ((hb.block _ (lt_of_block HKa1.out)).trans HKa1.out)
  have HKb2 := Lib.hid hk
  replace HZ2 : Hid (w1.heap.size < w2.heap.size) := Lib.hid (by omega)
  have HE2 := Lib.hid hz
  clear hb hk hz
  have lta := lt_of_block HKa2.out
  obtain ⟨ca0, fa0⟩ := cell1 HKa2.out
  have ltb := lt_of_block HKb2.out
  obtain ⟨cb0, fb0⟩ := cell1 HKb2.out
  refine (eqIntS_yes _ _ cs _ HRf2.out HRg2.out).mono ?_
  rintro e w3 ⟨rfl, hb⟩
  have HB3 : Hid (Below w.heap.size w w3) := Lib.hid (HB2.out.trans (hb.mono HB2.out.size))
  have HZ3 : Hid (w2.heap.size ≤ w3.heap.size) := Lib.hid hb.size
  have HRf3 := Lib.hid (HRf0.out.below HB3.out (Nat.le_refl _))
  have HRg3 := Lib.hid (HRg0.out.below HB3.out (Nat.le_refl _))
  have HKa3 := Lib.hid ((hb.block _ (lt_of_block HKa2.out)).trans HKa2.out)
  have HKb3 := Lib.hid ((hb.block _ (lt_of_block HKb2.out)).trans HKb2.out)
  clear hb
  clear ca0 fa0 lta cb0 fb0 ltb
  have lta := lt_of_block HKa3.out
  obtain ⟨ca0, fa0⟩ := cell1 HKa3.out
  have ltb := lt_of_block HKb3.out
  obtain ⟨cb0, fb0⟩ := cell1 HKb3.out
  go_wp2_with fail
  go_ret
  exact ⟨rfl, HB3.out⟩

set_option maxRecDepth 100000 in
set_option maxHeartbeats 1600000 in
theorem toAmount_any (v1 : Value) (cs : List Int) (w : World) (h : RowsR 1 inC w v1 cs) (hn1 : cs.length ≤ 1048576) :
    Calls Try.prog 20 #[.agg #[v1]] w fun e w' => (∃ s1, e = .returned (.agg #[s1]) ∧ OwA w.heap.size w'.heap.size w' s1 cs) ∧ Below w.heap.size w w' := by
  obtain ⟨a1, c1, rfl⟩ := h.form
  have HB0 : Hid (Below w.heap.size w w) := Lib.hid (Below.refl _ _)
  have HRf0 := Lib.hid (h)
  clear h
  go_enter Try.func20, Try.ntmps20
  go_wp2_with fail
  have hb : Below w.heap.size w (w.alloc (.cells #[.slice a1 cs.length c1] 31)) := (Below.refl _ _).alloc (Nat.le_refl _) _
  have hk : (w.alloc (.cells #[.slice a1 cs.length c1] 31)).heap[w.heap.size]? = some (.cells #[.slice a1 cs.length c1] 31 (0, 0)) := alloc_at rfl
  have hz : (w.alloc (.cells #[.slice a1 cs.length c1] 31)).heap.size = w.heap.size + 1 := by simp
  generalize w.alloc (.cells #[.slice a1 cs.length c1] 31) = w1 at hb hk hz ⊢
  have HB1 : Hid (Below w.heap.size w w1) := Lib.hid (HB0.out.trans (hb.mono HB0.out.size))
  have HZ1 : Hid (w.heap.size ≤ w1.heap.size) := Lib.hid hb.size
  have HRf1 := Lib.hid (HRf0.out.below HB1.out (Nat.le_refl _))
  have HKa1 := Lib.hid hk
  replace HZ1 : Hid (w.heap.size < w1.heap.size) := Lib.hid (by omega)
  have HE1 := Lib.hid hz
  clear hb hk hz
  have hb : Below w1.heap.size w1 (w1.alloc (.cells #[.slice none 0 0] 34)) := (Below.refl _ _).alloc (Nat.le_refl _) _
  have hk : (w1.alloc (.cells #[.slice none 0 0] 34)).heap[w.heap.size + 1]? = some (.cells #[.slice none 0 0] 34 (0, 0)) := alloc_at (by have := HE1.out; omega)
  have hz : (w1.alloc (.cells #[.slice none 0 0] 34)).heap.size = w1.heap.size + 1 := by simp
  generalize w1.alloc (.cells #[.slice none 0 0] 34) = w2 at hb hk hz ⊢
  have HB2 : Hid (Below w.heap.size w w2) := Lib.hid (HB1.out.trans (hb.mono HB1.out.size))
  have HZ2 : Hid (w1.heap.size ≤ w2.heap.size) := Lib.hid hb.size
  have HRf2 := Lib.hid (HRf0.out.below HB2.out (Nat.le_refl _))
  have HKa2 := Lib.hid ((hb.block _ (lt_of_block HKa1.out)).trans HKa1.out)
  have HKz2 := Lib.hid hk
  replace HZ2 : Hid (w1.heap.size < w2.heap.size) := Lib.hid (by omega)
  have HE2 := Lib.hid hz
  clear hb hk hz
  have hb : Below w2.heap.size w2 (w2.alloc (.cells #[.slice none 0 0] 34)) := (Below.refl _ _).alloc (Nat.le_refl _) _
  have hk : (w2.alloc (.cells #[.slice none 0 0] 34)).heap[w.heap.size + 2]? = some (.cells #[.slice none 0 0] 34 (0, 0)) := alloc_at (by have := HE1.out; have := HE2.out; omega)
  have hz : (w2.alloc (.cells #[.slice none 0 0] 34)).heap.size = w2.heap.size + 1 := by simp
  generalize w2.alloc (.cells #[.slice none 0 0] 34) = w3 at hb hk hz ⊢
  have HB3 : Hid (Below w.heap.size w w3) := Lib.hid (HB2.out.trans (hb.mono HB2.out.size))
  have HZ3 : Hid (w2.heap.size ≤ w3.heap.size) := Lib.hid hb.size
  have HRf3 := Lib.hid (HRf0.out.below HB3.out (Nat.le_refl _))
  have HKa3 := Lib.hid ((hb.block _ (lt_of_block HKa2.out)).trans HKa2.out)
  have HKz3 := Lib.hid ((hb.block _ (lt_of_block HKz2.out)).trans HKz2.out)
  have HKo3 := Lib.hid hk
  replace HZ3 : Hid (w2.heap.size < w3.heap.size) := Lib.hid (by omega)
  have HE3 := Lib.hid hz
  clear hb hk hz
  have lta := lt_of_block HKa3.out
  obtain ⟨ca0, fa0⟩ := cell1 HKa3.out
  have ltz := lt_of_block HKz3.out
  obtain ⟨cz0, fz0⟩ := cell1 HKz3.out
  have lto := lt_of_block HKo3.out
  obtain ⟨co0, fo0⟩ := cell1 HKo3.out
  have hlz : w.heap.size + 1 < w3.heap.size := ltz
  have hlo : w.heap.size + 2 < w3.heap.size := lto
  refine (toIntS_any _ cs _ HRf3.out hn1).mono ?_
  rintro e w4 ⟨⟨s1, rfl, ho⟩, hb⟩
  have HB4 : Hid (Below w.heap.size w w4) := Lib.hid (HB3.out.trans (hb.mono HB3.out.size))
  have HZ4 : Hid (w3.heap.size ≤ w4.heap.size) := Lib.hid hb.size
  have HRf4 := Lib.hid (HRf0.out.below HB4.out (Nat.le_refl _))
  have HKa4 := Lib.hid ((hb.block _ (lt_of_block HKa3.out)).trans HKa3.out)
  have HKz4 := Lib.hid ((hb.block _ (lt_of_block HKz3.out)).trans HKz3.out)
  have HKo4 := Lib.hid ((hb.block _ (lt_of_block HKo3.out)).trans HKo3.out)
  clear hb
  obtain ⟨p1, k1, rfl⟩ := own_form ho
  have HOs4 := Lib.hid (Ow.mk' ho)
  clear ho
  clear ca0 fa0 lta cz0 fz0 ltz co0 fo0 lto
  have lta := lt_of_block HKa4.out
  obtain ⟨ca0, fa0⟩ := cell1 HKa4.out
  have ltz := lt_of_block HKz4.out
  obtain ⟨cz0, fz0⟩ := cell1 HKz4.out
  have lto := lt_of_block HKo4.out
  obtain ⟨co0, fo0⟩ := cell1 HKo4.out
  go_wp2_with fail
  exact bodyPost_ret (v := .agg #[.slice p1 cs.length k1]) (by simp [results, Try.results20, go_sem, cz0]) rfl ⟨⟨_, rfl, by
    have h9 : OwA w3.heap.size w4.heap.size w4 (.slice p1 cs.length k1) cs := HOs4.out
    have h10 := (h9.set (a := ⟨w.heap.size + 2, 0, none⟩) hlo (.slice p1 cs.length k1)).set (a := ⟨w.heap.size + 1, 0, none⟩) hlz (.slice p1 cs.length k1)
    exact h10.mono (by omega) (by simp)⟩, (HB4.out.setCell (p := ⟨w.heap.size + 2, 0, none⟩) (by show w.heap.size ≤ w.heap.size + 2; omega) _).setCell (p := ⟨w.heap.size + 1, 0, none⟩) (by show w.heap.size ≤ w.heap.size + 1; omega) _⟩

set_option maxRecDepth 100000 in
set_option maxHeartbeats 1600000 in
theorem markAmount_at (v1 : Value) (cs : List Int) (lo hi : Nat) (w : World) (h : OwA lo hi w v1 cs) (hn1 : cs.length ≤ 1048576) (k : Int) (hk : 0 ≤ k ∧ k ≤ 4194304) (hlo : lo ≤ w.heap.size) (hlh : lo ≤ hi) (hhi : hi ≤ w.heap.size) :
    Calls Try.prog 28 #[.agg #[v1], .int .i64 k] w fun en w' => en = .returned (.int .i64 (k + cs.length)) ∧ OwA lo hi w' v1 (mksI k cs.length) ∧ Btw lo hi w w' := by
  obtain ⟨a1, c1, rfl⟩ := h.form
  have HOB := Lib.hid h
  obtain ⟨hk0, hk1⟩ := hk
  clear h
  go_enter Try.func28, Try.ntmps28
  go_wp2_with fail
  have hb1 : Below w.heap.size w (w.alloc (.cells #[.slice a1 cs.length c1] 34)) := (Below.refl _ _).alloc (Nat.le_refl _) _
  have hkb : (w.alloc (.cells #[.slice a1 cs.length c1] 34)).heap[w.heap.size]? = some (.cells #[.slice a1 cs.length c1] 34 (0, 0)) := alloc_at rfl
  generalize w.alloc (.cells #[.slice a1 cs.length c1] 34) = w1 at hb1 hkb ⊢
  have hl1 := lt_of_block hkb
  have HT1 : Hid (Btw lo hi w w1) := Lib.hid (Btw.of_below (Btw.refl lo hi w) hb1 hlo)
  have HO1 := Lib.hid (HOB.out.next hb1)
  clear hb1 hkb
  refine (markIntS_any _ cs.length k lo hi _ _ _ HO1.out hn1 ⟨hk0, by omega⟩).mono ?_
  rintro e w2 ⟨rfl, hox, htx⟩
  have HT2 : Hid (Btw lo hi w w2) := Lib.hid (HT1.out.trans htx)
  have HOX := Lib.hid hox
  clear hox htx
  go_wp2_with fail
  go_ret
  refine ⟨rfl, ?_, HT2.out⟩
  unfold OwA
  rw [mksI_len]; exact HOX.out

set_option maxRecDepth 100000 in
set_option maxHeartbeats 1600000 in
theorem heldAmount_any (v1 : Value) (n : Nat) (k : Int) (w : World) (h : RowsR 1 inC w v1 (mksI k n)) (hn1 : n ≤ 1048576) (hk : 0 ≤ k ∧ k ≤ 4194304) :
    Calls Try.prog 29 #[.agg #[v1], .int .i64 k] w fun en w' => en = .returned (.int .i64 (k + n)) ∧ Below w.heap.size w w' := by
  obtain ⟨a1, c1, rfl⟩ := h.form
  obtain ⟨hk0, hk1⟩ := hk
  have HB0 : Hid (Below w.heap.size w w) := Lib.hid (Below.refl _ _)
  have HRf0 := Lib.hid (h)
  clear h
  rw [mksI_len] at *
  go_enter Try.func29, Try.ntmps29
  go_wp2_with fail
  have hb : Below w.heap.size w (w.alloc (.cells #[.slice a1 n c1] 34)) := (Below.refl _ _).alloc (Nat.le_refl _) _
  have hk : (w.alloc (.cells #[.slice a1 n c1] 34)).heap[w.heap.size]? = some (.cells #[.slice a1 n c1] 34 (0, 0)) := alloc_at rfl
  have hz : (w.alloc (.cells #[.slice a1 n c1] 34)).heap.size = w.heap.size + 1 := by simp
  generalize w.alloc (.cells #[.slice a1 n c1] 34) = w1 at hb hk hz ⊢
  have HB1 : Hid (Below w.heap.size w w1) := Lib.hid (HB0.out.trans (hb.mono HB0.out.size))
  have HZ1 : Hid (w.heap.size ≤ w1.heap.size) := Lib.hid hb.size
  have HRf1 := Lib.hid (HRf0.out.below HB1.out (Nat.le_refl _))
  have HKb1 := Lib.hid hk
  replace HZ1 : Hid (w.heap.size < w1.heap.size) := Lib.hid (by omega)
  have HE1 := Lib.hid hz
  clear hb hk hz
  have ltb := lt_of_block HKb1.out
  obtain ⟨cb0, fb0⟩ := cell1 HKb1.out
  refine (heldIntS_any _ n k _ HRf1.out hn1 ⟨hk0, by omega⟩).mono ?_
  rintro e w2 ⟨rfl, hb⟩
  have HB2 : Hid (Below w.heap.size w w2) := Lib.hid (HB1.out.trans (hb.mono HB1.out.size))
  have HZ2 : Hid (w1.heap.size ≤ w2.heap.size) := Lib.hid hb.size
  have HRf2 := Lib.hid (HRf0.out.below HB2.out (Nat.le_refl _))
  have HKb2 := Lib.hid ((hb.block _ (lt_of_block HKb1.out)).trans HKb1.out)
  clear hb
  clear cb0 fb0 ltb
  have ltb := lt_of_block HKb2.out
  obtain ⟨cb0, fb0⟩ := cell1 HKb2.out
  go_wp2_with fail
  go_ret
  exact ⟨rfl, HB2.out⟩
end Go.Proofs.Ytlmnbecfaaeohaa
