/- What is owned by a fresh answer lies in an interval of blocks; what marking it leaves alone. -/
import Derived.Test.YtjaiolbneodheaaSlr
namespace Go.Proofs.Ytjaiolbneodheaa
set_option linter.unusedVariables false
open Go.RowKit

/-- Nothing that existed turned, but for the blocks lo .. hi-1. -/
structure Btw (lo hi : Nat) (w w' : World) : Prop where
  below : Below lo w w'
  above : ∀ k, hi ≤ k → k < w.heap.size → w'.heap[k]? = w.heap[k]?
theorem Btw.size {lo hi : Nat} {w w' : World} (h : Btw lo hi w w') : w.heap.size ≤ w'.heap.size := h.below.size
theorem Btw.refl (lo hi : Nat) (w : World) : Btw lo hi w w := ⟨Below.refl _ _, fun _ _ _ => rfl⟩
theorem Btw.trans {lo hi : Nat} {a b c : World} (h : Btw lo hi a b) (k : Btw lo hi b c) : Btw lo hi a c :=
  ⟨h.below.trans k.below, fun j h1 h2 => (k.above j h1 (Nat.lt_of_lt_of_le h2 h.size)).trans (h.above j h1 h2)⟩
theorem Btw.mono {lo hi lo' hi' : Nat} {w w' : World} (h : Btw lo hi w w') (h1 : lo' ≤ lo) (h2 : hi ≤ hi') : Btw lo' hi' w w' :=
  ⟨h.below.mono h1, fun j h3 h4 => h.above j (Nat.le_trans h2 h3) h4⟩
theorem Btw.setCell {lo hi : Nat} {a w : World} (h : Btw lo hi a w) {p : Addr} (h1 : lo ≤ p.block) (h2 : p.block < hi) (u : Value) : Btw lo hi a (w.setCell p u) :=
  ⟨h.below.setCell h1 u, fun j h3 h4 => (Below.heap_setCell w p u j (by omega)).trans (h.above j h3 h4)⟩
theorem Btw.of_below {lo hi : Nat} {a w w' : World} (h : Btw lo hi a w) (hb : Below w.heap.size w w') (hlo : lo ≤ w.heap.size) : Btw lo hi a w' :=
  ⟨h.below.trans (hb.mono hlo), fun j h3 h4 => (hb.block j (Nat.lt_of_lt_of_le h4 h.size)).trans (h.above j h3 h4)⟩
theorem Btw.block {lo hi : Nat} {w w' : World} (h : Btw lo hi w w') (k : Nat) (hk : k < lo ∨ (hi ≤ k ∧ k < w.heap.size)) : w'.heap[k]? = w.heap[k]? := by
  rcases hk with hk | ⟨h1, h2⟩
  · exact h.below.block k hk
  · exact h.above k h1 h2

/-- The slice v is a fresh row whose block lies in lo .. hi-1. -/
def Ow (lo hi : Nat) (w : World) (e : TypeId) (size : Nat) (v : Value) (n : Nat) (xs : List Value) : Prop :=
  w.ownsRow lo e size v n xs ∧ ∀ g, v.ownBlock = some g → g < hi
theorem Ow.mk' {lo : Nat} {w : World} {e : TypeId} {size : Nat} {v : Value} {n : Nat} {xs : List Value} (h : w.ownsRow lo e size v n xs) : Ow lo w.heap.size w e size v n xs :=
  ⟨h, fun g hg => (h.lt g hg).2⟩
theorem own_of_block {w w' : World} {B : Nat} {e : TypeId} {size : Nat} {v : Value} {n : Nat} {xs : List Value} (h : w.ownsRow B e size v n xs) (hb : ∀ g, v.ownBlock = some g → w'.heap[g]? = w.heap[g]?) : w'.ownsRow B e size v n xs := by
  obtain ⟨h1, h2⟩ := h
  refine ⟨h1, ?_⟩
  rcases h2 with h2 | ⟨g, cap, cur, hv, hg, hh, r⟩
  · exact .inl h2
  · refine .inr ⟨g, cap, cur, hv, hg, ?_, r⟩
    rw [hb g (by rw [hv]; rfl)]
    exact hh
theorem Ow.below {lo hi : Nat} {w w' : World} {e : TypeId} {size : Nat} {v : Value} {n : Nat} {xs : List Value} (h : Ow lo hi w e size v n xs) {B : Nat} (hb : Below B w w') (hB : hi ≤ B) : Ow lo hi w' e size v n xs :=
  ⟨own_of_block h.1 fun g hg => hb.block g (Nat.lt_of_lt_of_le (h.2 g hg) hB), h.2⟩
theorem Ow.next {lo hi : Nat} {w w' : World} {e : TypeId} {size : Nat} {v : Value} {n : Nat} {xs : List Value} (h : Ow lo hi w e size v n xs) (hb : Below w.heap.size w w') : Ow lo hi w' e size v n xs :=
  ⟨own_of_block h.1 fun g hg => hb.block g (h.1.lt g hg).2, h.2⟩
theorem Ow.btw {lo hi a b : Nat} {w w' : World} {e : TypeId} {size : Nat} {v : Value} {n : Nat} {xs : List Value} (h : Ow lo hi w e size v n xs) (hb : Btw a b w w') (hd : hi ≤ a ∨ b ≤ lo) : Ow lo hi w' e size v n xs := by
  refine ⟨own_of_block h.1 fun g hg => ?_, h.2⟩
  have h1 := h.2 g hg
  have h2 := h.1.lt g hg
  rcases hd with hd | hd
  · exact hb.below.block g (by omega)
  · exact hb.above g (by omega) h2.2

theorem Ow.stored {lo hi g n cap : Nat} {w : World} {e : TypeId} {size : Nat} {xs : List Value} (h : Ow lo hi w e size (.slice (some ⟨g, 0, none⟩) n cap) n xs) (j : Nat) (u : Value) :
    Ow lo hi (w.setCell ⟨g, j, none⟩ u) e size (.slice (some ⟨g, 0, none⟩) n cap) n (xs.set j u) := ⟨(h.1.stored j u).1, h.2⟩

/-- The slice value v reads as n elements of c cells, xs. -/
def RowR (w : World) (v : Value) (c n : Nat) (xs : List Value) : Prop :=
  ∃ a cap, v = .slice a n cap ∧ (n ≤ maxLen ∧ n ≤ cap) ∧ (0 < n → ∃ b off, a = some ⟨b, off, none⟩ ∧ b < w.heap.size ∧ ∀ (i : Nat), i < n * c → w.cell? ⟨b, off + i, none⟩ = xs[i]?)
theorem RowR.below {w w' : World} {v : Value} {c n : Nat} {xs : List Value} (h : RowR w v c n xs) {B : Nat} (hb : Below B w w') (hB : w.heap.size ≤ B) : RowR w' v c n xs := by
  obtain ⟨a, cap, h1, h2, h3⟩ := h
  refine ⟨a, cap, h1, h2, fun hx => ?_⟩
  obtain ⟨b, off, g1, g2, g3⟩ := h3 hx
  exact ⟨b, off, g1, Nat.lt_of_lt_of_le g2 hb.size, fun i hi => (hb.cell (p := ⟨b, off + i, none⟩) (Nat.lt_of_lt_of_le g2 hB)).trans (g3 i hi)⟩
theorem RowR.of_own {w : World} {B : Nat} {e : TypeId} {v : Value} {c n : Nat} {xs : List Value} (h : w.ownsRow B e c v n xs) : RowR w v c n xs := by
  have h' := h
  rcases h.2 with ⟨rfl, h0⟩ | ⟨g, cap, cur, rfl, hb, hg, hn, hc, hsz, ht⟩
  · subst h0
    exact ⟨none, 0, rfl, ⟨Nat.zero_le _, Nat.le_refl _⟩, fun hx => absurd hx (by omega)⟩
  · refine ⟨_, cap, rfl, ⟨Nat.le_trans hn hc, hn⟩, fun _ => ⟨g, 0, rfl, (h'.lt g rfl).2, fun i hi => ?_⟩⟩
    rw [Nat.zero_add]
    exact h'.cellAt i hi

/-- The cells that a marking of ints from k on leaves. -/
def marksV (k : Int) (c : Nat) : List Value := (List.range c).map fun (j : Nat) => Value.int .i64 (k + (j : Int))
theorem marksV_len (k : Int) (c : Nat) : (marksV k c).length = c := by simp [marksV]
theorem marksV_at (k : Int) (c j : Nat) (h : j < c) : (marksV k c)[j]? = some (.int .i64 (k + j)) := by simp [marksV, h]
theorem marksV_eq (k : Int) (c : Nat) (xs : List Value) (hl : xs.length = c) (h : ∀ j, j < c → xs[j]? = some (.int .i64 (k + (j : Int)))) : xs = marksV k c := by
  apply List.ext_getElem?
  intro j
  by_cases hj : j < c
  · rw [h j hj, marksV_at _ _ _ hj]
  · rw [List.getElem?_eq_none (by omega), List.getElem?_eq_none (by rw [marksV_len]; omega)]
end Go.Proofs.Ytjaiolbneodheaa
