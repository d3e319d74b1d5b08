/- Parts laid as one: Base, Slr, Ow, Ownk, Flat, Flatx, Reg, In, Pow, Wf. -/
import Derived.Test.YtlfplnbmgmookaaRows
import Derived.WalkKit
import Derived.Lib.Hide
import Derived.Lib.SmallJoins
import Derived.Sort.Grow
import Derived.OwnWalk
import Derived.Laws.AppendOwn
import Derived.Laws.OwnMore
import Derived.SliceStrings
import Derived.Deep.RegionHeld3
/-! Base -/
namespace Go.Proofs.Ytlfplnbmgmookaa
set_option linter.unusedVariables false
open Go.RowKit

theorem ret_int {k : IntKind} {a b : Int} (h : a = b) : Ending.returned (.int k a) = .returned (.int k b) := by rw [h]
theorem ret_bool {a b : Bool} (h : a = b) : Ending.returned (.bool a) = .returned (.bool b) := by rw [h]
theorem ret_int2 {k : IntKind} {a b : Int} {v : Value} (h : a = b) : Ending.returned (.tuple #[.int k a, v]) = .returned (.tuple #[.int k b, v]) := by rw [h]
theorem ret_str {a b : ByteArray} (h : a = b) : Ending.returned (.string a) = .returned (.string b) := by rw [h]
theorem ret_str2 {a b : ByteArray} {v : Value} (h : a = b) : Ending.returned (.tuple #[.string a, v]) = .returned (.tuple #[.string b, v]) := by rw [h]
theorem take_snoc (s : ByteArray) (k : Nat) (h : k < s.size) : s.data.toList.take (k + 1) = s.data.toList.take k ++ [s[k]] := by
  rw [List.take_succ_eq_append_getElem (by simpa using h)]; rfl
theorem bl_drewN {B : Nat} {a w : World} (h : Below B a w) (n : Nat) : Below B a (w.drewN n) := h.trans ⟨rfl, rfl, rfl, Nat.le_refl _, fun _ _ => rfl⟩
theorem bl_grow (w : World) (k : Nat) (os : Array Obj) : Below w.heap.size w (Sort.grow (w.drewN k) os) := by
  refine ⟨rfl, rfl, rfl, ?_, ?_⟩
  · simp [Sort.grow]
  · intro b hb
    simp [Sort.grow, Array.getElem?_append, hb]
theorem mk_size (l : List UInt8) : (ByteArray.mk l.toArray).size = l.length := by show l.toArray.size = _; simp
theorem first_idx (n : Nat) (P : Nat → Prop) (h : ∃ k, k < n ∧ P k) : ∃ p, p < n ∧ P p ∧ ∀ k, k < p → ¬ P k := by
  have key : ∀ m k, k ≤ m → k < n ∧ P k → ∃ p, p < n ∧ P p ∧ ∀ k, k < p → ¬ P k := by
    intro m
    induction m with
    | zero => intro k hk ⟨h1, h2⟩; exact ⟨k, h1, h2, fun j hj => by omega⟩
    | succ m ih =>
      intro k hk ⟨h1, h2⟩
      by_cases hx : ∃ j, j < k ∧ P j
      · obtain ⟨j, hj, hp⟩ := hx
        exact ih j (by omega) ⟨by omega, hp⟩
      · exact ⟨k, h1, h2, fun j hj hp => hx ⟨j, hj, hp⟩⟩
  obtain ⟨k, hk⟩ := h
  exact key k k (Nat.le_refl _) hk
theorem one_new (w : World) (v : Value) (t : TypeId) : ∀ (j : Nat) (u : Value), [v][j]? = some u → (w.alloc (.cells #[v] t)).cell? ((⟨w.heap.size, 0, none⟩ : Addr).add j) = some u := by
  intro j u h
  cases j with
  | zero =>
    have e : v = u := by simpa using h
    subst e
    show (w.alloc (.cells #[v] t)).cell? ⟨w.heap.size, 0, none⟩ = some v
    rw [World.cell?_alloc_at _ _ _ _ rfl]
    rfl
  | succ j => simp at h
end Go.Proofs.Ytlfplnbmgmookaa

/-! Slr -/
namespace Go.Proofs.Ytlfplnbmgmookaa
set_option linter.unusedVariables false
open Go.RowKit

/-- The slice value v reads as the list xs of one-cell values. -/
def SlR (w : World) (v : Value) (xs : List Value) : Prop :=
  ∃ a cap, v = .slice a xs.length cap ∧ (xs.length ≤ maxLen ∧ xs.length ≤ cap) ∧ (xs ≠ [] → ∃ b off, a = some ⟨b, off, none⟩ ∧ b < w.heap.size ∧ ∀ (i : Nat) (h : i < xs.length), w.cell? ⟨b, off + i, none⟩ = some xs[i])
theorem SlR.below {w w' : World} {v : Value} {xs : List Value} (h : SlR w v xs) {B : Nat} (hb : Below B w w') (hB : w.heap.size ≤ B) : SlR w' v xs := by
  obtain ⟨a, cap, h1, h2, h3⟩ := h
  refine ⟨a, cap, h1, h2, fun hx => ?_⟩
  obtain ⟨b, off, g1, g2, g3⟩ := h3 hx
  exact ⟨b, off, g1, Nat.lt_of_lt_of_le g2 hb.size, fun i hi => (hb.cell (p := ⟨b, off + i, none⟩) (Nat.lt_of_lt_of_le g2 hB)).trans (g3 i hi)⟩
theorem SlR.drew {w : World} {v : Value} {xs : List Value} (h : SlR w v xs) (m : Nat) : SlR (w.drewN m) v xs := h.below (bl_drewN (Below.refl _ _) m) (Nat.le_refl _)
theorem add_off (g i : Nat) : (⟨g, 0, none⟩ : Addr).add i = ⟨g, 0 + i, none⟩ := by
  cases i <;> simp [Addr.add]
theorem SlR.of_own {w : World} {B : Nat} {e : TypeId} {v : Value} {xs : List Value} (h : w.ownsRow B e 1 v xs.length xs) : SlR w v xs := by
  have h' := h
  rcases h.2 with ⟨rfl, h0⟩ | ⟨g, cap, cur, rfl, hb, hg, hn, hc, hsz, ht⟩
  · exact ⟨none, 0, by rw [h0], by rw [h0]; exact ⟨Nat.zero_le _, Nat.le_refl _⟩, fun hx => absurd (List.length_eq_zero_iff.1 h0) hx⟩
  · refine ⟨_, cap, rfl, ⟨Nat.le_trans hn hc, hn⟩, fun _ => ⟨g, 0, rfl, (h'.lt g rfl).2, fun i hi => ?_⟩⟩
    have := h'.cells (g := g) rfl i xs[i] (List.getElem?_eq_getElem hi)
    rwa [add_off] at this
theorem cell_lt {w : World} {a : Addr} {v : Value} (h : w.cell? a = some v) : a.block < w.heap.size := by
  rcases Nat.lt_or_ge a.block w.heap.size with h1 | h1
  · exact h1
  · exfalso
    unfold World.cell? at h
    rw [Array.getElem?_eq_none h1] at h
    simp at h
/-- What is owned stays owned where nothing that existed turns. -/
theorem own_below {w w' : World} {B : Nat} {e : TypeId} {size : Nat} {v : Value} {n : Nat} {xs : List Value} (h : w.ownsRow B e size v n xs) (hb : Below w.heap.size w w') : w'.ownsRow B e size v n xs := by
  obtain ⟨h1, h2⟩ := h
  refine ⟨h1, ?_⟩
  rcases h2 with h2 | ⟨g, cap, cur, hv, hg, hh, r⟩
  · exact .inl h2
  · refine .inr ⟨g, cap, cur, hv, hg, ?_, r⟩
    rw [hb.block g]
    · exact hh
    · rcases Nat.lt_or_ge g w.heap.size with h' | h'
      · exact h'
      · simp [Array.getElem?_eq_none h'] at hh
theorem cell3 {w : World} {b : Nat} {x y z : Value} {T : TypeId} (h : w.heap[b]? = some (.cells #[x, y, z] T (0, 0))) :
    w.cell? ⟨b, 0, none⟩ = some x ∧ w.cell? ⟨b, 1, none⟩ = some y ∧ w.cell? ⟨b, 2, none⟩ = some z ∧ w.frozen? ⟨b, 0, none⟩ = false ∧ w.frozen? ⟨b, 1, none⟩ = false ∧ w.frozen? ⟨b, 2, none⟩ = false := by
  simp [World.cell?, World.frozen?, h]
theorem alloc_at {w : World} {o : Obj} {k : Nat} (h : k = w.heap.size) : (w.alloc o).heap[k]? = some o := by subst h; exact heap_alloc_new w o
theorem alloc_old {w : World} {o : Obj} {k : Nat} (h : k < w.heap.size) : (w.alloc o).heap[k]? = w.heap[k]? := Below.heap_alloc w o k h
theorem own_form {w : World} {B : Nat} {e : TypeId} {size : Nat} {v : Value} {n : Nat} {xs : List Value} (h : w.ownsRow B e size v n xs) : ∃ a c, v = .slice a n c := by
  rcases h.2 with ⟨rfl, h0⟩ | ⟨g, cap, cur, rfl, _⟩
  · exact ⟨_, _, by rw [h0]⟩
  · exact ⟨_, _, rfl⟩
theorem own_mono {w : World} {B B' : Nat} {e : TypeId} {size : Nat} {v : Value} {n : Nat} {xs : List Value} (h : w.ownsRow B e size v n xs) (hB : B' ≤ B) : w.ownsRow B' e size v n xs := by
  obtain ⟨h1, h2⟩ := h
  refine ⟨h1, ?_⟩
  rcases h2 with h2 | ⟨g, cap, cur, hv, hg, r⟩
  · exact .inl h2
  · exact .inr ⟨g, cap, cur, hv, Nat.le_trans hB hg, r⟩
/-- Cells at an address, one behind the other, read as a list. -/
theorem slr_cells {w : World} {a : Addr} {len cap : Nat} {xs : List Value} (hl : xs.length = len) (hm : len ≤ maxLen) (hc : len ≤ cap) (h : ∀ (i : Nat) (hi : i < xs.length), w.cell? (a.add i) = some xs[i]) : SlR w (.slice (some a) len cap) xs := by
  subst hl
  refine ⟨some a, cap, rfl, ⟨hm, hc⟩, fun hx => ?_⟩
  have h0 := h 0 (List.length_pos_iff.2 hx)
  obtain ⟨b, off, spot⟩ := a
  have hspot : spot = none := by simpa [Addr.add] using World.cell?_spot h0
  subst hspot
  have hadd : ∀ i, (⟨b, off, none⟩ : Addr).add i = ⟨b, off + i, none⟩ := fun i => by cases i <;> simp [Addr.add]
  refine ⟨b, off, rfl, ?_, fun i hi => by rw [← hadd]; exact h i hi⟩
  have := cell_lt h0
  rwa [hadd] at this
end Go.Proofs.Ytlfplnbmgmookaa

/-! Ow -/
namespace Go.Proofs.Ytlfplnbmgmookaa
set_option linter.unusedVariables false
open Go.RowKit

/-- Nothing that existed turned, but for the blocks lo .. hi-1. -/
structure Btw (lo hi : Nat) (w w' : World) : Prop where
  below : Below lo w w'
  above : ∀ k, hi ≤ k → k < w.heap.size → w'.heap[k]? = w.heap[k]?
theorem Btw.size {lo hi : Nat} {w w' : World} (h : Btw lo hi w w') : w.heap.size ≤ w'.heap.size := h.below.size
theorem Btw.refl (lo hi : Nat) (w : World) : Btw lo hi w w := ⟨Below.refl _ _, fun _ _ _ => rfl⟩
theorem Btw.trans {lo hi : Nat} {a b c : World} (h : Btw lo hi a b) (k : Btw lo hi b c) : Btw lo hi a c :=
  ⟨h.below.trans k.below, fun j h1 h2 => (k.above j h1 (Nat.lt_of_lt_of_le h2 h.size)).trans (h.above j h1 h2)⟩
theorem Btw.mono {lo hi lo' hi' : Nat} {w w' : World} (h : Btw lo hi w w') (h1 : lo' ≤ lo) (h2 : hi ≤ hi') : Btw lo' hi' w w' :=
  ⟨h.below.mono h1, fun j h3 h4 => h.above j (Nat.le_trans h2 h3) h4⟩
theorem Btw.setCell {lo hi : Nat} {a w : World} (h : Btw lo hi a w) {p : Addr} (h1 : lo ≤ p.block) (h2 : p.block < hi) (u : Value) : Btw lo hi a (w.setCell p u) :=
  ⟨h.below.setCell h1 u, fun j h3 h4 => (Below.heap_setCell w p u j (by omega)).trans (h.above j h3 h4)⟩
theorem Btw.of_below {lo hi : Nat} {a w w' : World} (h : Btw lo hi a w) (hb : Below w.heap.size w w') (hlo : lo ≤ w.heap.size) : Btw lo hi a w' :=
  ⟨h.below.trans (hb.mono hlo), fun j h3 h4 => (hb.block j (Nat.lt_of_lt_of_le h4 h.size)).trans (h.above j h3 h4)⟩
theorem Btw.block {lo hi : Nat} {w w' : World} (h : Btw lo hi w w') (k : Nat) (hk : k < lo ∨ (hi ≤ k ∧ k < w.heap.size)) : w'.heap[k]? = w.heap[k]? := by
  rcases hk with hk | ⟨h1, h2⟩
  · exact h.below.block k hk
  · exact h.above k h1 h2

/-- The slice v is a fresh row whose block lies in lo .. hi-1. -/
def Ow (lo hi : Nat) (w : World) (e : TypeId) (size : Nat) (v : Value) (n : Nat) (xs : List Value) : Prop :=
  w.ownsRow lo e size v n xs ∧ ∀ g, v.ownBlock = some g → g < hi
theorem Ow.mk' {lo : Nat} {w : World} {e : TypeId} {size : Nat} {v : Value} {n : Nat} {xs : List Value} (h : w.ownsRow lo e size v n xs) : Ow lo w.heap.size w e size v n xs :=
  ⟨h, fun g hg => (h.lt g hg).2⟩
theorem own_of_block {w w' : World} {B : Nat} {e : TypeId} {size : Nat} {v : Value} {n : Nat} {xs : List Value} (h : w.ownsRow B e size v n xs) (hb : ∀ g, v.ownBlock = some g → w'.heap[g]? = w.heap[g]?) : w'.ownsRow B e size v n xs := by
  obtain ⟨h1, h2⟩ := h
  refine ⟨h1, ?_⟩
  rcases h2 with h2 | ⟨g, cap, cur, hv, hg, hh, r⟩
  · exact .inl h2
  · refine .inr ⟨g, cap, cur, hv, hg, ?_, r⟩
    rw [hb g (by rw [hv]; rfl)]
    exact hh
theorem Ow.below {lo hi : Nat} {w w' : World} {e : TypeId} {size : Nat} {v : Value} {n : Nat} {xs : List Value} (h : Ow lo hi w e size v n xs) {B : Nat} (hb : Below B w w') (hB : hi ≤ B) : Ow lo hi w' e size v n xs :=
  ⟨own_of_block h.1 fun g hg => hb.block g (Nat.lt_of_lt_of_le (h.2 g hg) hB), h.2⟩
theorem Ow.next {lo hi : Nat} {w w' : World} {e : TypeId} {size : Nat} {v : Value} {n : Nat} {xs : List Value} (h : Ow lo hi w e size v n xs) (hb : Below w.heap.size w w') : Ow lo hi w' e size v n xs :=
  ⟨own_of_block h.1 fun g hg => hb.block g (h.1.lt g hg).2, h.2⟩
theorem Ow.btw {lo hi a b : Nat} {w w' : World} {e : TypeId} {size : Nat} {v : Value} {n : Nat} {xs : List Value} (h : Ow lo hi w e size v n xs) (hb : Btw a b w w') (hd : hi ≤ a ∨ b ≤ lo) : Ow lo hi w' e size v n xs := by
  refine ⟨own_of_block h.1 fun g hg => ?_, h.2⟩
  have h1 := h.2 g hg
  have h2 := h.1.lt g hg
  rcases hd with hd | hd
  · exact hb.below.block g (by omega)
  · exact hb.above g (by omega) h2.2

theorem Ow.stored {lo hi g n cap : Nat} {w : World} {e : TypeId} {size : Nat} {xs : List Value} (h : Ow lo hi w e size (.slice (some ⟨g, 0, none⟩) n cap) n xs) (j : Nat) (u : Value) :
    Ow lo hi (w.setCell ⟨g, j, none⟩ u) e size (.slice (some ⟨g, 0, none⟩) n cap) n (xs.set j u) := ⟨(h.1.stored j u).1, h.2⟩

/-- The slice value v reads as n elements of c cells, xs. -/
def RowR (w : World) (v : Value) (c n : Nat) (xs : List Value) : Prop :=
  ∃ a cap, v = .slice a n cap ∧ (n ≤ maxLen ∧ n ≤ cap) ∧ (0 < n → ∃ b off, a = some ⟨b, off, none⟩ ∧ b < w.heap.size ∧ ∀ (i : Nat), i < n * c → w.cell? ⟨b, off + i, none⟩ = xs[i]?)
theorem RowR.below {w w' : World} {v : Value} {c n : Nat} {xs : List Value} (h : RowR w v c n xs) {B : Nat} (hb : Below B w w') (hB : w.heap.size ≤ B) : RowR w' v c n xs := by
  obtain ⟨a, cap, h1, h2, h3⟩ := h
  refine ⟨a, cap, h1, h2, fun hx => ?_⟩
  obtain ⟨b, off, g1, g2, g3⟩ := h3 hx
  exact ⟨b, off, g1, Nat.lt_of_lt_of_le g2 hb.size, fun i hi => (hb.cell (p := ⟨b, off + i, none⟩) (Nat.lt_of_lt_of_le g2 hB)).trans (g3 i hi)⟩
theorem RowR.of_own {w : World} {B : Nat} {e : TypeId} {v : Value} {c n : Nat} {xs : List Value} (h : w.ownsRow B e c v n xs) : RowR w v c n xs := by
  have h' := h
  rcases h.2 with ⟨rfl, h0⟩ | ⟨g, cap, cur, rfl, hb, hg, hn, hc, hsz, ht⟩
  · subst h0
    exact ⟨none, 0, rfl, ⟨Nat.zero_le _, Nat.le_refl _⟩, fun hx => absurd hx (by omega)⟩
  · refine ⟨_, cap, rfl, ⟨Nat.le_trans hn hc, hn⟩, fun _ => ⟨g, 0, rfl, (h'.lt g rfl).2, fun i hi => ?_⟩⟩
    rw [Nat.zero_add]
    exact h'.cellAt i hi

/-- The cells that a marking of ints from k on leaves. -/
def marksV (k : Int) (c : Nat) : List Value := (List.range c).map fun (j : Nat) => Value.int .i64 (k + (j : Int))
theorem marksV_len (k : Int) (c : Nat) : (marksV k c).length = c := by simp [marksV]
theorem marksV_at (k : Int) (c j : Nat) (h : j < c) : (marksV k c)[j]? = some (.int .i64 (k + j)) := by simp [marksV, h]
theorem marksV_eq (k : Int) (c : Nat) (xs : List Value) (hl : xs.length = c) (h : ∀ j, j < c → xs[j]? = some (.int .i64 (k + (j : Int)))) : xs = marksV k c := by
  apply List.ext_getElem?
  intro j
  by_cases hj : j < c
  · rw [h j hj, marksV_at _ _ _ hj]
  · rw [List.getElem?_eq_none (by omega), List.getElem?_eq_none (by rw [marksV_len]; omega)]
end Go.Proofs.Ytlfplnbmgmookaa

/-! Ownk -/
namespace Go.Proofs.Ytlfplnbmgmookaa
set_option linter.unusedVariables false
open Go.RowKit

theorem own_heap {w : World} {B : Nat} {e : TypeId} {size n : Nat} {v : Value} {xs : List Value} (h : w.ownsRow B e size v n xs) {q : Nat} (hq : v.ownBlock = some q) : ∃ cur, w.heap[q]? = some (.cells cur e (0, 0)) := by
  rcases h.2 with ⟨rfl, _⟩ | ⟨g', cap', cur, rfl, _, hh, _⟩
  · simp [Value.ownBlock] at hq
  · have e1 : g' = q := by simpa [Value.ownBlock] using hq
    subst e1; exact ⟨cur, hh⟩
/-- A row is kept while another one, of another type of elements, grows. -/
theorem own_kept2 {w w' : World} {B1 B2 : Nat} {e1 e2 : TypeId} {s1 s2 n1 n2 : Nat} {v1 v2 : Value} {xs1 xs2 : List Value} (h1 : w.ownsRow B1 e1 s1 v1 n1 xs1) (h2 : w.ownsRow B2 e2 s2 v2 n2 xs2) (he : e1 ≠ e2) (hg : w.grownBy w' v2.ownBlock) : w'.ownsRow B1 e1 s1 v1 n1 xs1 := by
  refine own_of_block h1 fun g hb => hg.block g (h1.lt g hb).2 fun e => ?_
  obtain ⟨c1, hc1⟩ := own_heap h1 hb
  obtain ⟨c2, hc2⟩ := own_heap h2 e.symm
  rw [hc1] at hc2
  injection hc2 with hc2
  injection hc2 with _ h3 _
  exact he h3
end Go.Proofs.Ytlfplnbmgmookaa

/-! Flat -/
namespace Go.Proofs.Ytlfplnbmgmookaa
set_option linter.unusedVariables false
open Go.RowKit

theorem cell4 {w : World} {b : Nat} {x0 x1 x2 x3 : Value} {T : TypeId} (h : w.heap[b]? = some (.cells #[x0, x1, x2, x3] T (0, 0))) :
    w.cell? ⟨b, 0, none⟩ = some x0 ∧ w.cell? ⟨b, 1, none⟩ = some x1 ∧ w.cell? ⟨b, 2, none⟩ = some x2 ∧ w.cell? ⟨b, 3, none⟩ = some x3 ∧ w.frozen? ⟨b, 0, none⟩ = false ∧ w.frozen? ⟨b, 1, none⟩ = false ∧ w.frozen? ⟨b, 2, none⟩ = false ∧ w.frozen? ⟨b, 3, none⟩ = false := by
  simp [World.cell?, World.frozen?, h]
theorem cell5 {w : World} {b : Nat} {x0 x1 x2 x3 x4 : Value} {T : TypeId} (h : w.heap[b]? = some (.cells #[x0, x1, x2, x3, x4] T (0, 0))) :
    w.cell? ⟨b, 0, none⟩ = some x0 ∧ w.cell? ⟨b, 1, none⟩ = some x1 ∧ w.cell? ⟨b, 2, none⟩ = some x2 ∧ w.cell? ⟨b, 3, none⟩ = some x3 ∧ w.cell? ⟨b, 4, none⟩ = some x4 ∧ w.frozen? ⟨b, 0, none⟩ = false ∧ w.frozen? ⟨b, 1, none⟩ = false ∧ w.frozen? ⟨b, 2, none⟩ = false ∧ w.frozen? ⟨b, 3, none⟩ = false ∧ w.frozen? ⟨b, 4, none⟩ = false := by
  simp [World.cell?, World.frozen?, h]
theorem cell6 {w : World} {b : Nat} {x0 x1 x2 x3 x4 x5 : Value} {T : TypeId} (h : w.heap[b]? = some (.cells #[x0, x1, x2, x3, x4, x5] T (0, 0))) :
    w.cell? ⟨b, 0, none⟩ = some x0 ∧ w.cell? ⟨b, 1, none⟩ = some x1 ∧ w.cell? ⟨b, 2, none⟩ = some x2 ∧ w.cell? ⟨b, 3, none⟩ = some x3 ∧ w.cell? ⟨b, 4, none⟩ = some x4 ∧ w.cell? ⟨b, 5, none⟩ = some x5 ∧ w.frozen? ⟨b, 0, none⟩ = false ∧ w.frozen? ⟨b, 1, none⟩ = false ∧ w.frozen? ⟨b, 2, none⟩ = false ∧ w.frozen? ⟨b, 3, none⟩ = false ∧ w.frozen? ⟨b, 4, none⟩ = false ∧ w.frozen? ⟨b, 5, none⟩ = false := by
  simp [World.cell?, World.frozen?, h]
theorem cell7 {w : World} {b : Nat} {x0 x1 x2 x3 x4 x5 x6 : Value} {T : TypeId} (h : w.heap[b]? = some (.cells #[x0, x1, x2, x3, x4, x5, x6] T (0, 0))) :
    w.cell? ⟨b, 0, none⟩ = some x0 ∧ w.cell? ⟨b, 1, none⟩ = some x1 ∧ w.cell? ⟨b, 2, none⟩ = some x2 ∧ w.cell? ⟨b, 3, none⟩ = some x3 ∧ w.cell? ⟨b, 4, none⟩ = some x4 ∧ w.cell? ⟨b, 5, none⟩ = some x5 ∧ w.cell? ⟨b, 6, none⟩ = some x6 ∧ w.frozen? ⟨b, 0, none⟩ = false ∧ w.frozen? ⟨b, 1, none⟩ = false ∧ w.frozen? ⟨b, 2, none⟩ = false ∧ w.frozen? ⟨b, 3, none⟩ = false ∧ w.frozen? ⟨b, 4, none⟩ = false ∧ w.frozen? ⟨b, 5, none⟩ = false ∧ w.frozen? ⟨b, 6, none⟩ = false := by
  simp [World.cell?, World.frozen?, h]
theorem cell8 {w : World} {b : Nat} {x0 x1 x2 x3 x4 x5 x6 x7 : Value} {T : TypeId} (h : w.heap[b]? = some (.cells #[x0, x1, x2, x3, x4, x5, x6, x7] T (0, 0))) :
    w.cell? ⟨b, 0, none⟩ = some x0 ∧ w.cell? ⟨b, 1, none⟩ = some x1 ∧ w.cell? ⟨b, 2, none⟩ = some x2 ∧ w.cell? ⟨b, 3, none⟩ = some x3 ∧ w.cell? ⟨b, 4, none⟩ = some x4 ∧ w.cell? ⟨b, 5, none⟩ = some x5 ∧ w.cell? ⟨b, 6, none⟩ = some x6 ∧ w.cell? ⟨b, 7, none⟩ = some x7 ∧ w.frozen? ⟨b, 0, none⟩ = false ∧ w.frozen? ⟨b, 1, none⟩ = false ∧ w.frozen? ⟨b, 2, none⟩ = false ∧ w.frozen? ⟨b, 3, none⟩ = false ∧ w.frozen? ⟨b, 4, none⟩ = false ∧ w.frozen? ⟨b, 5, none⟩ = false ∧ w.frozen? ⟨b, 6, none⟩ = false ∧ w.frozen? ⟨b, 7, none⟩ = false := by
  simp [World.cell?, World.frozen?, h]
theorem cell9 {w : World} {b : Nat} {x0 x1 x2 x3 x4 x5 x6 x7 x8 : Value} {T : TypeId} (h : w.heap[b]? = some (.cells #[x0, x1, x2, x3, x4, x5, x6, x7, x8] T (0, 0))) :
    w.cell? ⟨b, 0, none⟩ = some x0 ∧ w.cell? ⟨b, 1, none⟩ = some x1 ∧ w.cell? ⟨b, 2, none⟩ = some x2 ∧ w.cell? ⟨b, 3, none⟩ = some x3 ∧ w.cell? ⟨b, 4, none⟩ = some x4 ∧ w.cell? ⟨b, 5, none⟩ = some x5 ∧ w.cell? ⟨b, 6, none⟩ = some x6 ∧ w.cell? ⟨b, 7, none⟩ = some x7 ∧ w.cell? ⟨b, 8, none⟩ = some x8 ∧ w.frozen? ⟨b, 0, none⟩ = false ∧ w.frozen? ⟨b, 1, none⟩ = false ∧ w.frozen? ⟨b, 2, none⟩ = false ∧ w.frozen? ⟨b, 3, none⟩ = false ∧ w.frozen? ⟨b, 4, none⟩ = false ∧ w.frozen? ⟨b, 5, none⟩ = false ∧ w.frozen? ⟨b, 6, none⟩ = false ∧ w.frozen? ⟨b, 7, none⟩ = false ∧ w.frozen? ⟨b, 8, none⟩ = false := by
  simp [World.cell?, World.frozen?, h]
theorem cell10 {w : World} {b : Nat} {x0 x1 x2 x3 x4 x5 x6 x7 x8 x9 : Value} {T : TypeId} (h : w.heap[b]? = some (.cells #[x0, x1, x2, x3, x4, x5, x6, x7, x8, x9] T (0, 0))) :
    w.cell? ⟨b, 0, none⟩ = some x0 ∧ w.cell? ⟨b, 1, none⟩ = some x1 ∧ w.cell? ⟨b, 2, none⟩ = some x2 ∧ w.cell? ⟨b, 3, none⟩ = some x3 ∧ w.cell? ⟨b, 4, none⟩ = some x4 ∧ w.cell? ⟨b, 5, none⟩ = some x5 ∧ w.cell? ⟨b, 6, none⟩ = some x6 ∧ w.cell? ⟨b, 7, none⟩ = some x7 ∧ w.cell? ⟨b, 8, none⟩ = some x8 ∧ w.cell? ⟨b, 9, none⟩ = some x9 ∧ w.frozen? ⟨b, 0, none⟩ = false ∧ w.frozen? ⟨b, 1, none⟩ = false ∧ w.frozen? ⟨b, 2, none⟩ = false ∧ w.frozen? ⟨b, 3, none⟩ = false ∧ w.frozen? ⟨b, 4, none⟩ = false ∧ w.frozen? ⟨b, 5, none⟩ = false ∧ w.frozen? ⟨b, 6, none⟩ = false ∧ w.frozen? ⟨b, 7, none⟩ = false ∧ w.frozen? ⟨b, 8, none⟩ = false ∧ w.frozen? ⟨b, 9, none⟩ = false := by
  simp [World.cell?, World.frozen?, h]
/-- The cells of all elements, one behind the other. -/
def flatC {α : Type} (cells : α → List Value) : List α → List Value
  | [] => []
  | p :: t => cells p ++ flatC cells t
theorem flatC_len {α : Type} {c : Nat} {cells : α → List Value} (hc : ∀ p, (cells p).length = c) : ∀ ps : List α, (flatC cells ps).length = ps.length * c
  | [] => by simp [flatC]
  | p :: t => by rw [flatC, List.length_append, hc, flatC_len hc t, List.length_cons, Nat.succ_mul]; omega
theorem flatC_at {α : Type} {c : Nat} {cells : α → List Value} (hc : ∀ p, (cells p).length = c) : ∀ (ps : List α) (i : Nat) (h : i < ps.length) (j : Nat), j < c → (flatC cells ps)[i * c + j]? = (cells ps[i])[j]?
  | p :: t, 0, _, j, hj => by rw [Nat.zero_mul, Nat.zero_add, flatC, List.getElem?_append_left (by rw [hc]; exact hj)]; rfl
  | p :: t, i + 1, h, j, hj => by
    have ih := flatC_at hc t i (by simpa using h) j hj
    rw [Nat.succ_mul, flatC, List.getElem?_append_right (by rw [hc]; omega), hc, show i * c + c + j - c = i * c + j by omega, ih]
    rfl
theorem flatC_app {α : Type} (cells : α → List Value) (a b : List α) : flatC cells (a ++ b) = flatC cells a ++ flatC cells b := by
  induction a with
  | nil => rfl
  | cons x t ih => simp [flatC, ih]
/-- A list of cells that holds each element's cells at its place is the elements' row. -/
theorem flatC_of {α : Type} {c : Nat} {cells : α → List Value} (hc : ∀ p, (cells p).length = c) (hpos : 0 < c) (xs : List Value) (ps : List α) (hl : xs.length = ps.length * c)
    (h : ∀ i (hi : i < ps.length) j, j < c → xs[i * c + j]? = (cells ps[i])[j]?) : xs = flatC cells ps := by
  apply List.ext_getElem?
  intro k
  by_cases hk : k < ps.length * c
  · have hi : k / c < ps.length := Nat.div_lt_of_lt_mul (by rw [Nat.mul_comm]; exact hk)
    have hj : k % c < c := Nat.mod_lt _ hpos
    have e : k / c * c + k % c = k := by rw [Nat.mul_comm]; exact Nat.div_add_mod k c
    have h1 := h _ hi _ hj
    have h2 := flatC_at hc ps _ hi _ hj
    rw [e] at h1 h2
    rw [h1, h2]
  · rw [List.getElem?_eq_none (by omega), List.getElem?_eq_none (by rw [flatC_len hc]; omega)]

/-- The slice value v reads as these elements. -/
def RowsR {α : Type} (c : Nat) (cells : α → List Value) (w : World) (v : Value) (ps : List α) : Prop :=
  ∃ a cap, v = .slice a ps.length cap ∧ (ps.length ≤ maxLen ∧ ps.length ≤ cap) ∧ (0 < ps.length → ∃ b off, a = some ⟨b, off, none⟩ ∧ b < w.heap.size ∧ ∀ (i : Nat) (h : i < ps.length) (j : Nat), j < c → w.cell? ⟨b, off + i * c + j, none⟩ = (cells ps[i])[j]?)
theorem RowsR.below {α : Type} {c : Nat} {cells : α → List Value} {w w' : World} {v : Value} {ps : List α} (h : RowsR c cells w v ps) {B : Nat} (hb : Below B w w') (hB : w.heap.size ≤ B) : RowsR c cells w' v ps := by
  obtain ⟨a, cap, h1, h2, h3⟩ := h
  refine ⟨a, cap, h1, h2, fun hx => ?_⟩
  obtain ⟨b, off, g1, g2, g3⟩ := h3 hx
  exact ⟨b, off, g1, Nat.lt_of_lt_of_le g2 hb.size, fun i hi j hj => (hb.cell (p := ⟨b, off + i * c + j, none⟩) (Nat.lt_of_lt_of_le g2 hB)).trans (g3 i hi j hj)⟩
theorem RowsR.form {α : Type} {c : Nat} {cells : α → List Value} {w : World} {v : Value} {ps : List α} (h : RowsR c cells w v ps) : ∃ a cap, v = .slice a ps.length cap := by
  obtain ⟨a, cap, h1, _⟩ := h
  exact ⟨a, cap, h1⟩
theorem RowsR.of_own {α : Type} {c : Nat} {cells : α → List Value} (hc : ∀ p, (cells p).length = c) {w : World} {B : Nat} {e : TypeId} {v : Value} {ps : List α} (h : w.ownsRow B e c v ps.length (flatC cells ps)) : RowsR c cells w v ps := by
  have h' := h
  rcases h.2 with ⟨rfl, h0⟩ | ⟨g, cap, cur, rfl, hb, hg, hn, hcc, hsz, ht⟩
  · exact ⟨none, 0, by rw [h0], by rw [h0]; exact ⟨Nat.zero_le _, Nat.le_refl _⟩, fun hx => absurd hx (by omega)⟩
  · refine ⟨_, cap, rfl, ⟨Nat.le_trans hn hcc, hn⟩, fun _ => ⟨g, 0, rfl, (h'.lt g rfl).2, fun i hi j hj => ?_⟩⟩
    rw [Nat.zero_add, ← flatC_at hc ps i hi j hj]
    exact h'.cellAt _ (by have : (i + 1) * c ≤ ps.length * c := Nat.mul_le_mul_right c hi; rw [Nat.succ_mul] at this; omega)
theorem own_relen' {w : World} {B : Nat} {e : TypeId} {size : Nat} {v : Value} {n k : Nat} {xs : List Value} (h : k = n) (ho : w.ownsRow B e size v n xs) : w.ownsRow B e size v k xs := by subst h; exact ho
/-- In every later world: the cells of element i. -/
theorem RowsR.at {α : Type} {c : Nat} {cells : α → List Value} {w : World} {a : Option Addr} {cap : Nat} {ps : List α} (h : RowsR c cells w (.slice a ps.length cap) ps) : ∀ w' : World, Below w.heap.size w w' → ∀ i (hi : i < ps.length), ∃ b off, a = some ⟨b, off, none⟩ ∧ b < w.heap.size ∧ ∀ j, j < c → w'.cell? ⟨b, off + i * c + j, none⟩ = (cells ps[i])[j]? := by
  intro w' hb i hi
  obtain ⟨a', cap', e, _, h3⟩ := h
  obtain ⟨b, off, ha, hlt, hc⟩ := h3 (by omega)
  have : a = a' := by injection e
  subst this
  exact ⟨b, off, ha, hlt, fun j hj => (hb.cell (p := ⟨b, off + i * c + j, none⟩) hlt).trans (hc i hi j hj)⟩
end Go.Proofs.Ytlfplnbmgmookaa

/-! Flatx -/
namespace Go.Proofs.Ytlfplnbmgmookaa
set_option linter.unusedVariables false
open Go.RowKit

/-- What an append from such a slice reads, in every later world. -/
theorem RowsR.src {α : Type} {c : Nat} {cells : α → List Value} (hc : ∀ p, (cells p).length = c) (hpos : 0 < c) {w : World} {a : Option Addr} {cap : Nat} {ps : List α} (h : RowsR c cells w (.slice a ps.length cap) ps) :
    (a = none ∧ ps = []) ∨ ∃ ad, a = some ad ∧ ∀ w', Below w.heap.size w w' → ∀ j u, (flatC cells ps)[j]? = some u → w'.cell? (ad.add j) = some u := by
  obtain ⟨a', c', e, _, h3⟩ := h
  have : a = a' := by injection e
  subst this
  by_cases h0 : ps.length = 0
  · have e0 : ps = [] := List.length_eq_zero_iff.1 h0
    subst e0
    cases a with
    | none => exact .inl ⟨rfl, rfl⟩
    | some ad => exact .inr ⟨ad, rfl, fun w' _ j u hu => by simp [flatC] at hu⟩
  · obtain ⟨b, off, rfl, hlt, hcell⟩ := h3 (by omega)
    refine .inr ⟨_, rfl, fun w' hb j u hu => ?_⟩
    have hj : j < ps.length * c := by
      rcases Nat.lt_or_ge j (flatC cells ps).length with h' | h'
      · rwa [flatC_len hc] at h'
      · rw [List.getElem?_eq_none h'] at hu; cases hu
    have hi : j / c < ps.length := Nat.div_lt_of_lt_mul (by rw [Nat.mul_comm]; exact hj)
    have hr : j % c < c := Nat.mod_lt _ hpos
    have e : j / c * c + j % c = j := by rw [Nat.mul_comm]; exact Nat.div_add_mod j c
    have hadd : (⟨b, off, none⟩ : Addr).add j = ⟨b, off + j, none⟩ := by cases j <;> simp [Addr.add]
    rw [hadd, hb.cell (p := ⟨b, off + j, none⟩) hlt]
    have h1 := hcell _ hi _ hr
    have h2 := flatC_at hc ps _ hi _ hr
    rw [Nat.add_assoc, e] at h1
    rw [e] at h2
    rw [h1, ← h2]; exact hu
theorem flatC_one {α : Type} {cells : α → List Value} (h1 : ∀ p, ∀ u ∈ cells p, u.oneCell' = true) : ∀ (ps : List α), ∀ u ∈ flatC cells ps, u.oneCell' = true
  | [], u, hu => by cases hu
  | p :: t, u, hu => by
    rw [flatC] at hu
    rcases List.mem_append.1 hu with hu | hu
    · exact h1 p u hu
    · exact flatC_one h1 t u hu
/-- Element q set, cell by cell: whoever agrees with it everywhere is the row of the list so set. -/
theorem flatC_setf {α : Type} {c : Nat} {cells : α → List Value} (hc : ∀ p, (cells p).length = c) (hpos : 0 < c) (xs : List Value) (ps : List α) (q : Nat) (p' : α) (hl : xs.length = ps.length * c)
    (h : ∀ i (_ : i < ps.length) j, j < c → i ≠ q → xs[i * c + j]? = (cells ps[i])[j]?) (hq : q < ps.length → ∀ j, j < c → xs[q * c + j]? = (cells p')[j]?) : xs = flatC cells (ps.set q p') := by
  refine flatC_of hc hpos xs _ (by rw [List.length_set]; exact hl) fun i hi j hj => ?_
  have hi' : i < ps.length := by simpa using hi
  by_cases e : i = q
  · subst e
    rw [List.getElem_set_self]
    exact hq hi' j hj
  · rw [List.getElem_set_ne (by omega)]
    exact h i hi' j hj e
theorem cells_apart {c q i f j : Nat} (hf : f < c) (hj : j < c) (h : i ≠ q) : q * c + f ≠ i * c + j := by
  intro e
  rcases Nat.lt_or_gt_of_ne h with h' | h'
  · have : (i + 1) * c ≤ q * c := Nat.mul_le_mul_right c h'
    rw [Nat.succ_mul] at this; omega
  · have : (q + 1) * c ≤ i * c := Nat.mul_le_mul_right c h'
    rw [Nat.succ_mul] at this; omega
/-- One cell of element q set. -/
theorem flatC_set1 {α : Type} {c : Nat} {cells : α → List Value} (hc : ∀ p, (cells p).length = c) (ps : List α) (q f : Nat) (hq : q < ps.length) (hf : f < c) (u : Value) (p' : α) (hp : cells p' = (cells ps[q]).set f u) :
    (flatC cells ps).set (q * c + f) u = flatC cells (ps.set q p') := by
  have hlen := flatC_len hc ps
  have hqf : q * c + f < ps.length * c := by
    have : (q + 1) * c ≤ ps.length * c := Nat.mul_le_mul_right c hq
    rw [Nat.succ_mul] at this; omega
  refine flatC_setf hc (by omega) _ ps q p' (by rw [List.length_set]; exact hlen) (fun i hi j hj e => ?_) (fun _ j hj => ?_)
  · rw [List.getElem?_set_ne (cells_apart hf hj e)]
    exact flatC_at hc ps i hi j hj
  · rw [hp]
    by_cases e : j = f
    · subst e
      rw [List.getElem?_set_self (by rw [hlen]; exact hqf), List.getElem?_set_self (by rw [hc]; exact hf)]
    · rw [List.getElem?_set_ne (by omega), List.getElem?_set_ne (by omega)]
      exact flatC_at hc ps q hq j hj
theorem own_eq {w : World} {B : Nat} {e : TypeId} {size : Nat} {v : Value} {n : Nat} {xs ys : List Value} (h : w.ownsRow B e size v n xs) (hx : xs = ys) : w.ownsRow B e size v n ys := by subst hx; exact h
theorem own_nil' (w : World) (B : Nat) (e : TypeId) (size : Nat) : w.ownsRow B e size (.slice none 0 0) 0 [] := ⟨by simp, .inl ⟨rfl, rfl⟩⟩
theorem own_some {w : World} {base size n : Nat} {e : TypeId} {v : Value} {xs : List Value} (h : w.ownsRow base e size v n xs) (hn : 0 < n) : ∃ g cap, v = .slice (some ⟨g, 0, none⟩) n cap := by
  rcases h.2 with ⟨_, h0⟩ | ⟨g, cap, cur, rfl, _⟩
  · omega
  · exact ⟨g, cap, rfl⟩
theorem news_at {w : World} {b : Nat} {vs : List Value} {t : TypeId} (h : w.heap[b]? = some (.cells vs.toArray t (0, 0))) : ∀ j u, vs[j]? = some u → w.cell? ((⟨b, 0, none⟩ : Addr).add j) = some u := by
  intro j u hu
  rw [add_off, Nat.zero_add]
  simp only [World.cell?, h]
  simpa using hu

theorem to_rows {α : Type} {c : Nat} {cells : α → List Value} (hc : ∀ p, (cells p).length = c) {P : Program} {f : Nat} {av : Array Value} {w : World} {e0 : TypeId} {qs : List α} {mk : Value → Value}
    (h : Calls P f av w fun e w' => (∃ sq, e = .returned (mk sq) ∧ w'.ownsRow w.heap.size e0 c sq qs.length (flatC cells qs)) ∧ Below w.heap.size w w') :
    Calls P f av w fun e w' => (∃ sq, e = .returned (mk sq) ∧ RowsR c cells w' sq qs) ∧ Below w.heap.size w w' :=
  h.mono fun _ _ ⟨⟨sq, he, ho⟩, hb⟩ => ⟨⟨sq, he, RowsR.of_own hc ho⟩, hb⟩

end Go.Proofs.Ytlfplnbmgmookaa

/-! Reg -/
namespace Go.Proofs.Ytlfplnbmgmookaa
set_option linter.unusedVariables false
open Go.RowKit

theorem take1 {P : Program} {md : Region.Mode} {ops : Array Oper} {Q : Exit → Act → World → Prop} {S : World → Prop} {i : Nat} {oi : Oper} {v : Value} {fuel : Nat} {listed : Array Bool} {a : Act} {w : World} (d : Option Tmp) (hi : ops[i]? = some oi) (hd : oi.dst = d)
    (hs : Region.noSelect ops = true) (hf : Region.free md ops listed i = true) (hr : (Region.ready md ops listed).contains i = true)
    (hQ : ∀ c a w, Q (.panic c) (a.put d v) w → Q (.panic c) a w) (hy : YieldsIf P ops S oi v a) (hS : S w)
    (h : wpAnyH P md ops Q S fuel (listed.setIfInBounds i true) (a.put d v) w) : wpAnyH P md ops Q S (fuel + 1) listed a w := by
  subst hd
  exact wpAnyH_take hi hs hf hr hQ hy hS h
end Go.Proofs.Ytlfplnbmgmookaa

/-! In -/
namespace Go.Proofs.Ytlfplnbmgmookaa
set_option linter.unusedVariables false
open Go.RowKit

set_option maxRecDepth 100000 in
set_option maxHeartbeats 400000 in
theorem l1In_yes (x a b : Int) (w : World) (h : a ≤ x ∧ x ≤ b) :
    Calls Try.prog 63 #[.int .i64 x, .int .i64 a, .int .i64 b] w fun e w' => e = .returned (.bool true) ∧ w = w' := by
  obtain ⟨h1, h2⟩ := h
  go_enter Try.func63, Try.ntmps63
  go_wp2
  go_ret
  exact ⟨rfl, rfl⟩
set_option maxRecDepth 100000 in
set_option maxHeartbeats 400000 in
theorem l1In_no (x a b : Int) (w : World) (h : ¬ (a ≤ x ∧ x ≤ b)) :
    Calls Try.prog 63 #[.int .i64 x, .int .i64 a, .int .i64 b] w fun e w' => e = .returned (.bool false) ∧ w = w' := by
  by_cases h1 : a ≤ x
  · have h2 : ¬ x ≤ b := fun h2 => h ⟨h1, h2⟩
    clear h
    go_enter Try.func63, Try.ntmps63
    go_wp2
    go_ret
    exact ⟨rfl, rfl⟩
  · clear h
    go_enter Try.func63, Try.ntmps63
    go_wp2
    go_ret
    exact ⟨rfl, rfl⟩

theorem l1In_yesq (x a b : Int) (w : World) (h : a ≤ x ∧ x ≤ b) :
    Calls Try.prog 63 #[.int .i64 x, .int .i64 a, .int .i64 b] w fun e w' => e = .returned (.bool true) ∧ w' = w := (l1In_yes x a b w h).mono fun _ _ ⟨p, q⟩ => ⟨p, q.symm⟩
theorem l1In_noq (x a b : Int) (w : World) (h : ¬ (a ≤ x ∧ x ≤ b)) :
    Calls Try.prog 63 #[.int .i64 x, .int .i64 a, .int .i64 b] w fun e w' => e = .returned (.bool false) ∧ w' = w := (l1In_no x a b w h).mono fun _ _ ⟨p, q⟩ => ⟨p, q.symm⟩
/-- The answer of the test of bounds. -/
def inB (x a b : Int) : Bool := decide (a ≤ x ∧ x ≤ b)
theorem inB_yes {x a b : Int} (h1 : a ≤ x) (h2 : x ≤ b) : inB x a b = true := decide_eq_true ⟨h1, h2⟩
theorem inB_no {x a b : Int} (h : ¬ (a ≤ x ∧ x ≤ b)) : inB x a b = false := decide_eq_false h
theorem l1In_anyq (x a b : Int) (w : World) :
    Calls Try.prog 63 #[.int .i64 x, .int .i64 a, .int .i64 b] w fun e w' => e = .returned (.bool (inB x a b)) ∧ w' = w := by
  by_cases h : a ≤ x ∧ x ≤ b
  · rw [inB_yes h.1 h.2]; exact l1In_yesq x a b w h
  · rw [inB_no h]; exact l1In_noq x a b w h
theorem l1In_any (x a b : Int) (w : World) :
    Calls Try.prog 63 #[.int .i64 x, .int .i64 a, .int .i64 b] w fun e w' => e = .returned (.bool (inB x a b)) ∧ w = w' := (l1In_anyq x a b w).mono fun _ _ ⟨p, q⟩ => ⟨p, q.symm⟩
end Go.Proofs.Ytlfplnbmgmookaa

/-! Pow -/
namespace Go.Proofs.Ytlfplnbmgmookaa
set_option linter.unusedVariables false
open Go.RowKit

theorem pow_bd (k : Nat) (h : k ≤ 8) : 1 ≤ (10 : Int) ^ k ∧ (10 : Int) ^ k ≤ 100000000 := by
  have h1 : (10 : Nat) ^ k ≤ 10 ^ 8 := Nat.pow_le_pow_right (by decide) h
  have h2 : 1 ≤ (10 : Nat) ^ k := Nat.pow_pos (by decide)
  have e : ((10 ^ k : Nat) : Int) = (10 : Int) ^ k := by simp
  rw [← e]
  omega

set_option maxRecDepth 100000 in
set_option maxHeartbeats 800000 in
theorem l2Power_any (n : Nat) (w : World) (h : n ≤ 8) :
    Calls Try.prog 64 #[.int .i64 n] w fun e w' => e = .returned (.int .i64 ((10 : Int) ^ n)) ∧ w' = w := by
  go_enter Try.func64, Try.ntmps64
  go_wp2_with fail
  go_loopw [3, 4] (fun o i wr => ∃ k : Nat, k ≤ n ∧ i = .int .i64 k ∧ o = .int .i64 ((10 : Int) ^ k) ∧ wr = w) (fun _ i _ => n - (intOf i).toNat)
  case atStart => exact ⟨0, Nat.zero_le _, rfl, by simp, rfl⟩
  case round =>
    obtain ⟨k, hk, rfl, rfl, rfl⟩ := hrel
    obtain ⟨b1, b2⟩ := pow_bd k (by omega)
    have HS : Hid (10 * (10 : Int) ^ k = (10 : Int) ^ (k + 1)) := Lib.hid (by rw [Int.pow_succ]; omega)
    generalize hp : (10 : Int) ^ k = p at b1 b2 HS ⊢
    by_cases hlt : k < n
    · go_wp2_with fail
      go_roundw
      case rel => exact ⟨k + 1, by omega, by go_num, by rw [← HS.out], trivial⟩
      case measure => simp [intOf]; omega
    · have hke : k = n := by omega
      subst hke
      have HP := Lib.hid hp
      clear hp
      go_wp2_with fail
      go_ret
      exact ⟨ret_int HP.out.symm, rfl⟩
end Go.Proofs.Ytlfplnbmgmookaa

/-! Wf -/
namespace Go.Proofs.Ytlfplnbmgmookaa
set_option linter.unusedVariables false
open Go.RowKit

theorem wf_i64 {a : Int} (h : (Lit.int .i64 a).wf = true) : -9223372036854775808 ≤ a ∧ a ≤ 9223372036854775807 := by
  simp only [Lit.wf, Bool.and_eq_true, decide_eq_true_eq] at h
  exact h
end Go.Proofs.Ytlfplnbmgmookaa
