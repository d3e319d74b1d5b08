/- Slices of elements of c cells each (structs of plain fields): what a reader of the memory finds, a fresh row, an element set. -/
import Derived.Test.YtfmkdfmholhnjaaOw
namespace Go.Proofs.Ytfmkdfmholhnjaa
set_option linter.unusedVariables false
open Go.RowKit

theorem cell4 {w : World} {b : Nat} {x0 x1 x2 x3 : Value} {T : TypeId} (h : w.heap[b]? = some (.cells #[x0, x1, x2, x3] T (0, 0))) :
    w.cell? ⟨b, 0, none⟩ = some x0 ∧ w.cell? ⟨b, 1, none⟩ = some x1 ∧ w.cell? ⟨b, 2, none⟩ = some x2 ∧ w.cell? ⟨b, 3, none⟩ = some x3 ∧ w.frozen? ⟨b, 0, none⟩ = false ∧ w.frozen? ⟨b, 1, none⟩ = false ∧ w.frozen? ⟨b, 2, none⟩ = false ∧ w.frozen? ⟨b, 3, none⟩ = false := by
  simp [World.cell?, World.frozen?, h]
theorem cell5 {w : World} {b : Nat} {x0 x1 x2 x3 x4 : Value} {T : TypeId} (h : w.heap[b]? = some (.cells #[x0, x1, x2, x3, x4] T (0, 0))) :
    w.cell? ⟨b, 0, none⟩ = some x0 ∧ w.cell? ⟨b, 1, none⟩ = some x1 ∧ w.cell? ⟨b, 2, none⟩ = some x2 ∧ w.cell? ⟨b, 3, none⟩ = some x3 ∧ w.cell? ⟨b, 4, none⟩ = some x4 ∧ w.frozen? ⟨b, 0, none⟩ = false ∧ w.frozen? ⟨b, 1, none⟩ = false ∧ w.frozen? ⟨b, 2, none⟩ = false ∧ w.frozen? ⟨b, 3, none⟩ = false ∧ w.frozen? ⟨b, 4, none⟩ = false := by
  simp [World.cell?, World.frozen?, h]
theorem cell6 {w : World} {b : Nat} {x0 x1 x2 x3 x4 x5 : Value} {T : TypeId} (h : w.heap[b]? = some (.cells #[x0, x1, x2, x3, x4, x5] T (0, 0))) :
    w.cell? ⟨b, 0, none⟩ = some x0 ∧ w.cell? ⟨b, 1, none⟩ = some x1 ∧ w.cell? ⟨b, 2, none⟩ = some x2 ∧ w.cell? ⟨b, 3, none⟩ = some x3 ∧ w.cell? ⟨b, 4, none⟩ = some x4 ∧ w.cell? ⟨b, 5, none⟩ = some x5 ∧ w.frozen? ⟨b, 0, none⟩ = false ∧ w.frozen? ⟨b, 1, none⟩ = false ∧ w.frozen? ⟨b, 2, none⟩ = false ∧ w.frozen? ⟨b, 3, none⟩ = false ∧ w.frozen? ⟨b, 4, none⟩ = false ∧ w.frozen? ⟨b, 5, none⟩ = false := by
  simp [World.cell?, World.frozen?, h]
theorem cell7 {w : World} {b : Nat} {x0 x1 x2 x3 x4 x5 x6 : Value} {T : TypeId} (h : w.heap[b]? = some (.cells #[x0, x1, x2, x3, x4, x5, x6] T (0, 0))) :
    w.cell? ⟨b, 0, none⟩ = some x0 ∧ w.cell? ⟨b, 1, none⟩ = some x1 ∧ w.cell? ⟨b, 2, none⟩ = some x2 ∧ w.cell? ⟨b, 3, none⟩ = some x3 ∧ w.cell? ⟨b, 4, none⟩ = some x4 ∧ w.cell? ⟨b, 5, none⟩ = some x5 ∧ w.cell? ⟨b, 6, none⟩ = some x6 ∧ w.frozen? ⟨b, 0, none⟩ = false ∧ w.frozen? ⟨b, 1, none⟩ = false ∧ w.frozen? ⟨b, 2, none⟩ = false ∧ w.frozen? ⟨b, 3, none⟩ = false ∧ w.frozen? ⟨b, 4, none⟩ = false ∧ w.frozen? ⟨b, 5, none⟩ = false ∧ w.frozen? ⟨b, 6, none⟩ = false := by
  simp [World.cell?, World.frozen?, h]
theorem cell8 {w : World} {b : Nat} {x0 x1 x2 x3 x4 x5 x6 x7 : Value} {T : TypeId} (h : w.heap[b]? = some (.cells #[x0, x1, x2, x3, x4, x5, x6, x7] T (0, 0))) :
    w.cell? ⟨b, 0, none⟩ = some x0 ∧ w.cell? ⟨b, 1, none⟩ = some x1 ∧ w.cell? ⟨b, 2, none⟩ = some x2 ∧ w.cell? ⟨b, 3, none⟩ = some x3 ∧ w.cell? ⟨b, 4, none⟩ = some x4 ∧ w.cell? ⟨b, 5, none⟩ = some x5 ∧ w.cell? ⟨b, 6, none⟩ = some x6 ∧ w.cell? ⟨b, 7, none⟩ = some x7 ∧ w.frozen? ⟨b, 0, none⟩ = false ∧ w.frozen? ⟨b, 1, none⟩ = false ∧ w.frozen? ⟨b, 2, none⟩ = false ∧ w.frozen? ⟨b, 3, none⟩ = false ∧ w.frozen? ⟨b, 4, none⟩ = false ∧ w.frozen? ⟨b, 5, none⟩ = false ∧ w.frozen? ⟨b, 6, none⟩ = false ∧ w.frozen? ⟨b, 7, none⟩ = false := by
  simp [World.cell?, World.frozen?, h]
theorem cell9 {w : World} {b : Nat} {x0 x1 x2 x3 x4 x5 x6 x7 x8 : Value} {T : TypeId} (h : w.heap[b]? = some (.cells #[x0, x1, x2, x3, x4, x5, x6, x7, x8] T (0, 0))) :
    w.cell? ⟨b, 0, none⟩ = some x0 ∧ w.cell? ⟨b, 1, none⟩ = some x1 ∧ w.cell? ⟨b, 2, none⟩ = some x2 ∧ w.cell? ⟨b, 3, none⟩ = some x3 ∧ w.cell? ⟨b, 4, none⟩ = some x4 ∧ w.cell? ⟨b, 5, none⟩ = some x5 ∧ w.cell? ⟨b, 6, none⟩ = some x6 ∧ w.cell? ⟨b, 7, none⟩ = some x7 ∧ w.cell? ⟨b, 8, none⟩ = some x8 ∧ w.frozen? ⟨b, 0, none⟩ = false ∧ w.frozen? ⟨b, 1, none⟩ = false ∧ w.frozen? ⟨b, 2, none⟩ = false ∧ w.frozen? ⟨b, 3, none⟩ = false ∧ w.frozen? ⟨b, 4, none⟩ = false ∧ w.frozen? ⟨b, 5, none⟩ = false ∧ w.frozen? ⟨b, 6, none⟩ = false ∧ w.frozen? ⟨b, 7, none⟩ = false ∧ w.frozen? ⟨b, 8, none⟩ = false := by
  simp [World.cell?, World.frozen?, h]
theorem cell10 {w : World} {b : Nat} {x0 x1 x2 x3 x4 x5 x6 x7 x8 x9 : Value} {T : TypeId} (h : w.heap[b]? = some (.cells #[x0, x1, x2, x3, x4, x5, x6, x7, x8, x9] T (0, 0))) :
    w.cell? ⟨b, 0, none⟩ = some x0 ∧ w.cell? ⟨b, 1, none⟩ = some x1 ∧ w.cell? ⟨b, 2, none⟩ = some x2 ∧ w.cell? ⟨b, 3, none⟩ = some x3 ∧ w.cell? ⟨b, 4, none⟩ = some x4 ∧ w.cell? ⟨b, 5, none⟩ = some x5 ∧ w.cell? ⟨b, 6, none⟩ = some x6 ∧ w.cell? ⟨b, 7, none⟩ = some x7 ∧ w.cell? ⟨b, 8, none⟩ = some x8 ∧ w.cell? ⟨b, 9, none⟩ = some x9 ∧ w.frozen? ⟨b, 0, none⟩ = false ∧ w.frozen? ⟨b, 1, none⟩ = false ∧ w.frozen? ⟨b, 2, none⟩ = false ∧ w.frozen? ⟨b, 3, none⟩ = false ∧ w.frozen? ⟨b, 4, none⟩ = false ∧ w.frozen? ⟨b, 5, none⟩ = false ∧ w.frozen? ⟨b, 6, none⟩ = false ∧ w.frozen? ⟨b, 7, none⟩ = false ∧ w.frozen? ⟨b, 8, none⟩ = false ∧ w.frozen? ⟨b, 9, none⟩ = false := by
  simp [World.cell?, World.frozen?, h]
/-- The cells of all elements, one behind the other. -/
def flatC {α : Type} (cells : α → List Value) : List α → List Value
  | [] => []
  | p :: t => cells p ++ flatC cells t
theorem flatC_len {α : Type} {c : Nat} {cells : α → List Value} (hc : ∀ p, (cells p).length = c) : ∀ ps : List α, (flatC cells ps).length = ps.length * c
  | [] => by simp [flatC]
  | p :: t => by rw [flatC, List.length_append, hc, flatC_len hc t, List.length_cons, Nat.succ_mul]; omega
theorem flatC_at {α : Type} {c : Nat} {cells : α → List Value} (hc : ∀ p, (cells p).length = c) : ∀ (ps : List α) (i : Nat) (h : i < ps.length) (j : Nat), j < c → (flatC cells ps)[i * c + j]? = (cells ps[i])[j]?
  | p :: t, 0, _, j, hj => by rw [Nat.zero_mul, Nat.zero_add, flatC, List.getElem?_append_left (by rw [hc]; exact hj)]; rfl
  | p :: t, i + 1, h, j, hj => by
    have ih := flatC_at hc t i (by simpa using h) j hj
    rw [Nat.succ_mul, flatC, List.getElem?_append_right (by rw [hc]; omega), hc, show i * c + c + j - c = i * c + j by omega, ih]
    rfl
theorem flatC_app {α : Type} (cells : α → List Value) (a b : List α) : flatC cells (a ++ b) = flatC cells a ++ flatC cells b := by
  induction a with
  | nil => rfl
  | cons x t ih => simp [flatC, ih]
/-- A list of cells that holds each element's cells at its place is the elements' row. -/
theorem flatC_of {α : Type} {c : Nat} {cells : α → List Value} (hc : ∀ p, (cells p).length = c) (hpos : 0 < c) (xs : List Value) (ps : List α) (hl : xs.length = ps.length * c)
    (h : ∀ i (hi : i < ps.length) j, j < c → xs[i * c + j]? = (cells ps[i])[j]?) : xs = flatC cells ps := by
  apply List.ext_getElem?
  intro k
  by_cases hk : k < ps.length * c
  · have hi : k / c < ps.length := Nat.div_lt_of_lt_mul (by rw [Nat.mul_comm]; exact hk)
    have hj : k % c < c := Nat.mod_lt _ hpos
    have e : k / c * c + k % c = k := by rw [Nat.mul_comm]; exact Nat.div_add_mod k c
    have h1 := h _ hi _ hj
    have h2 := flatC_at hc ps _ hi _ hj
    rw [e] at h1 h2
    rw [h1, h2]
  · rw [List.getElem?_eq_none (by omega), List.getElem?_eq_none (by rw [flatC_len hc]; omega)]

/-- The slice value v reads as these elements. -/
def RowsR {α : Type} (c : Nat) (cells : α → List Value) (w : World) (v : Value) (ps : List α) : Prop :=
  ∃ a cap, v = .slice a ps.length cap ∧ (ps.length ≤ maxLen ∧ ps.length ≤ cap) ∧ (0 < ps.length → ∃ b off, a = some ⟨b, off, none⟩ ∧ b < w.heap.size ∧ ∀ (i : Nat) (h : i < ps.length) (j : Nat), j < c → w.cell? ⟨b, off + i * c + j, none⟩ = (cells ps[i])[j]?)
theorem RowsR.below {α : Type} {c : Nat} {cells : α → List Value} {w w' : World} {v : Value} {ps : List α} (h : RowsR c cells w v ps) {B : Nat} (hb : Below B w w') (hB : w.heap.size ≤ B) : RowsR c cells w' v ps := by
  obtain ⟨a, cap, h1, h2, h3⟩ := h
  refine ⟨a, cap, h1, h2, fun hx => ?_⟩
  obtain ⟨b, off, g1, g2, g3⟩ := h3 hx
  exact ⟨b, off, g1, Nat.lt_of_lt_of_le g2 hb.size, fun i hi j hj => (hb.cell (p := ⟨b, off + i * c + j, none⟩) (Nat.lt_of_lt_of_le g2 hB)).trans (g3 i hi j hj)⟩
theorem RowsR.form {α : Type} {c : Nat} {cells : α → List Value} {w : World} {v : Value} {ps : List α} (h : RowsR c cells w v ps) : ∃ a cap, v = .slice a ps.length cap := by
  obtain ⟨a, cap, h1, _⟩ := h
  exact ⟨a, cap, h1⟩
theorem RowsR.of_own {α : Type} {c : Nat} {cells : α → List Value} (hc : ∀ p, (cells p).length = c) {w : World} {B : Nat} {e : TypeId} {v : Value} {ps : List α} (h : w.ownsRow B e c v ps.length (flatC cells ps)) : RowsR c cells w v ps := by
  have h' := h
  rcases h.2 with ⟨rfl, h0⟩ | ⟨g, cap, cur, rfl, hb, hg, hn, hcc, hsz, ht⟩
  · exact ⟨none, 0, by rw [h0], by rw [h0]; exact ⟨Nat.zero_le _, Nat.le_refl _⟩, fun hx => absurd hx (by omega)⟩
  · refine ⟨_, cap, rfl, ⟨Nat.le_trans hn hcc, hn⟩, fun _ => ⟨g, 0, rfl, (h'.lt g rfl).2, fun i hi j hj => ?_⟩⟩
    rw [Nat.zero_add, ← flatC_at hc ps i hi j hj]
    exact h'.cellAt _ (by have : (i + 1) * c ≤ ps.length * c := Nat.mul_le_mul_right c hi; rw [Nat.succ_mul] at this; omega)
theorem own_relen' {w : World} {B : Nat} {e : TypeId} {size : Nat} {v : Value} {n k : Nat} {xs : List Value} (h : k = n) (ho : w.ownsRow B e size v n xs) : w.ownsRow B e size v k xs := by subst h; exact ho
/-- In every later world: the cells of element i. -/
theorem RowsR.at {α : Type} {c : Nat} {cells : α → List Value} {w : World} {a : Option Addr} {cap : Nat} {ps : List α} (h : RowsR c cells w (.slice a ps.length cap) ps) : ∀ w' : World, Below w.heap.size w w' → ∀ i (hi : i < ps.length), ∃ b off, a = some ⟨b, off, none⟩ ∧ b < w.heap.size ∧ ∀ j, j < c → w'.cell? ⟨b, off + i * c + j, none⟩ = (cells ps[i])[j]? := by
  intro w' hb i hi
  obtain ⟨a', cap', e, _, h3⟩ := h
  obtain ⟨b, off, ha, hlt, hc⟩ := h3 (by omega)
  have : a = a' := by injection e
  subst this
  exact ⟨b, off, ha, hlt, fun j hj => (hb.cell (p := ⟨b, off + i * c + j, none⟩) hlt).trans (hc i hi j hj)⟩
end Go.Proofs.Ytfmkdfmholhnjaa
