/- The law's helpers on amounts (one slice of ints): copy, measure, compare, mark, held. -/
import Derived.Test.YtghdmiimanhjgaaDoorBoards
namespace Go.Proofs.YtghdmiimanhjgaaDoor
set_option linter.unusedVariables false
open Go.RowKit

/-- The slice of an amount, freshly made. -/
def OwA (lo hi : Nat) (w : World) (v : Value) (cs : List Int) : Prop := Ow lo hi w 3 1 v cs.length (flatC inC cs)
theorem OwA.next {lo hi : Nat} {w w' : World} {v : Value} {cs : List Int} (h : OwA lo hi w v cs) (hb : Below w.heap.size w w') : OwA lo hi w' v cs := Ow.next h hb
theorem OwA.btw {lo hi a b : Nat} {w w' : World} {v : Value} {cs : List Int} (h : OwA lo hi w v cs) (hb : Btw a b w w') (hd : hi ≤ a ∨ b ≤ lo) : OwA lo hi w' v cs := Ow.btw h hb hd
theorem OwA.reads {lo hi : Nat} {w : World} {v : Value} {cs : List Int} (h : OwA lo hi w v cs) : RowsR 1 inC w v cs := RowsR.of_own inC_len h.1
theorem OwA.form {lo hi : Nat} {w : World} {v : Value} {cs : List Int} (h : OwA lo hi w v cs) : ∃ a c, v = .slice a cs.length c := h.reads.form
theorem OwA.mono {lo hi lo' hi' : Nat} {w : World} {v : Value} {cs : List Int} (h : OwA lo hi w v cs) (h1 : lo' ≤ lo) (h2 : hi ≤ hi') : OwA lo' hi' w v cs := Ow.widen h h1 h2
theorem OwA.set {lo hi : Nat} {w : World} {v : Value} {cs : List Int} (h : OwA lo hi w v cs) {a : Addr} (ha : a.block < lo) (u : Value) : OwA lo hi (w.setCell a u) v cs :=
  h.btw ((Btw.refl a.block (a.block + 1) w).setCell (p := a) (Nat.le_refl _) (Nat.lt_succ_self _) u) (.inr ha)
theorem OwA.setUp {lo hi : Nat} {w : World} {v : Value} {cs : List Int} (h : OwA lo hi w v cs) {a : Addr} (ha : hi ≤ a.block) (u : Value) : OwA lo hi (w.setCell a u) v cs :=
  h.btw ((Btw.refl a.block (a.block + 1) w).setCell (p := a) (Nat.le_refl _) (Nat.lt_succ_self _) u) (.inl ha)
theorem OwA.nil (lo hi : Nat) (w : World) : OwA lo hi w (.slice none 0 0) [] := ⟨own_nil' _ _ _ _, fun g hg => by cases hg⟩
theorem box1_set {w : World} {g : Nat} {a : Value} {T : TypeId} (h : w.heap[g]? = some (.cells #[a] T (0, 0))) (x : Value) : (w.setCell ⟨g, 0, none⟩ x).heap[g]? = some (.cells #[x] T (0, 0)) := by
  have h1 := heap_setCell_same w g 0 _ _ x h
  simpa using h1
/-- A fresh row's interval: of one block, or none at the upper end. -/
theorem OwA.one {lo hi : Nat} {w : World} {v : Value} {cs : List Int} (h : OwA lo hi w v cs) (hl : lo ≤ hi) : ∃ x y, OwA x y w v cs ∧ lo ≤ x ∧ x ≤ y ∧ y ≤ hi ∧ ((x = hi ∧ y = hi) ∨ (y = x + 1 ∧ v.ownBlock = some x)) := by
  obtain ⟨⟨h1, h2⟩, h3⟩ := h
  rcases h2 with ⟨rfl, h0⟩ | ⟨g, cap, cur, rfl, hg, hh, r⟩
  · exact ⟨hi, hi, ⟨⟨h1, .inl ⟨rfl, h0⟩⟩, fun g hg => by simp [Value.ownBlock] at hg⟩, hl, Nat.le_refl _, Nat.le_refl _, .inl ⟨rfl, rfl⟩⟩
  · have h4 := h3 g rfl
    exact ⟨g, g + 1, ⟨⟨h1, .inr ⟨g, cap, cur, rfl, Nat.le_refl _, hh, r⟩⟩, fun g' hg' => by simp [Value.ownBlock] at hg'; omega⟩, hg, by omega, by omega, .inr ⟨rfl, rfl⟩⟩
theorem OwB.split {lo hi : Nat} {w : World} {v1 v2 : Value} {ls ss : List Int} (h : OwB lo hi w v1 v2 ls ss) (hl : lo ≤ hi) : ∃ x1 y1 x2 y2, OwA x1 y1 w v1 ls ∧ OwA x2 y2 w v2 ss ∧ lo ≤ x1 ∧ x1 ≤ y1 ∧ y1 ≤ hi ∧ lo ≤ x2 ∧ x2 ≤ y2 ∧ y2 ≤ hi ∧ (y1 ≤ x2 ∨ y2 ≤ x1) := by
  obtain ⟨x1, y1, a1, a2, a3, a4, a5⟩ := OwA.one h.1 hl
  obtain ⟨x2, y2, b1, b2, b3, b4, b5⟩ := OwA.one h.2.1 hl
  refine ⟨x1, y1, x2, y2, a1, b1, a2, a3, a4, b2, b3, b4, ?_⟩
  rcases a5 with ⟨e1, e2⟩ | ⟨e1, e2⟩
  · exact .inr (by omega)
  · rcases b5 with ⟨f1, f2⟩ | ⟨f1, f2⟩
    · exact .inl (by omega)
    · have : x1 ≠ x2 := fun e => h.2.2 x1 e2 (by rw [f2, e])
      omega

end Go.Proofs.YtghdmiimanhjgaaDoor
