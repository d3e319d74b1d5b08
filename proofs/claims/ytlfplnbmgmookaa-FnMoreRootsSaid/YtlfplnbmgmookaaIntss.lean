/- The law's helpers on slices of slices of ints: compare, mark, held. -/
import Derived.Test.YtlfplnbmgmookaaInts
import Derived.Test.YtlfplnbmgmookaaKa
namespace Go.Proofs.Ytlfplnbmgmookaa
set_option linter.unusedVariables false
open Go.RowKit

def vC (u : Value) : List Value := [u]
theorem vC_len (u : Value) : (vC u).length = 1 := rfl
theorem flat_v (vs : List Value) : flatC vC vs = vs := by
  induction vs with
  | nil => rfl
  | cons x t ih => simp [flatC, vC, ih]
/-- The slice v reads as these rows of numbers. -/
def SSR (w : World) (v : Value) (xss : List (List Int)) : Prop := ∃ vs : List Value, RowsR 1 vC w v vs ∧ vs.length = xss.length ∧ ∀ i, i < vs.length → RowsR 1 inC w (vs.getD i undef) (xss.getD i [])
theorem SSR.below {w w' : World} {v : Value} {xss : List (List Int)} (h : SSR w v xss) {B : Nat} (hb : Below B w w') (hB : w.heap.size ≤ B) : SSR w' v xss := by
  obtain ⟨vs, h1, h2, h3⟩ := h
  exact ⟨vs, h1.below hb hB, h2, fun i hi => (h3 i hi).below hb hB⟩
theorem SSR.form {w : World} {v : Value} {xss : List (List Int)} (h : SSR w v xss) : ∃ a cap, v = .slice a xss.length cap := by
  obtain ⟨vs, h1, h2, _⟩ := h
  obtain ⟨a, cap, e⟩ := h1.form
  exact ⟨a, cap, by rw [e, h2]⟩
theorem getD_at {α : Type} (l : List α) (i : Nat) (d : α) (h : i < l.length) : l.getD i d = l[i] := by simp [List.getD, h]
theorem getD_out {α : Type} (l : List α) (i : Nat) (d : α) (h : l.length ≤ i) : l.getD i d = d := by simp [List.getD, List.getElem?_eq_none h]
/-- Fresh rows of numbers, all in blocks of their own. -/
structure OwnSS (lo hi : Nat) (w : World) (v : Value) (vs : List Value) (xss : List (List Int)) : Prop where
  ord : lo ≤ hi
  outer : Ow lo hi w 36 1 v vs.length vs
  len : vs.length = xss.length
  inner : ∀ i, i < vs.length → Ow lo hi w 3 1 (vs.getD i undef) (xss.getD i []).length (flatC inC (xss.getD i []))
  apart : ∀ i, i < vs.length → ∀ g, (vs.getD i undef).ownBlock = some g → v.ownBlock ≠ some g
  distinct : ∀ i j, i < vs.length → j < vs.length → i ≠ j → ∀ g, (vs.getD i undef).ownBlock = some g → (vs.getD j undef).ownBlock ≠ some g
theorem OwnSS.next {lo hi : Nat} {w w' : World} {v : Value} {vs : List Value} {xss : List (List Int)} (h : OwnSS lo hi w v vs xss) (hb : Below w.heap.size w w') : OwnSS lo hi w' v vs xss :=
  { h with outer := h.outer.next hb, inner := fun i hi => (h.inner i hi).next hb }
theorem OwnSS.btw {lo hi a b : Nat} {w w' : World} {v : Value} {vs : List Value} {xss : List (List Int)} (h : OwnSS lo hi w v vs xss) (hb : Btw a b w w') (hd : hi ≤ a ∨ b ≤ lo) : OwnSS lo hi w' v vs xss :=
  { h with outer := h.outer.btw hb hd, inner := fun i hi => (h.inner i hi).btw hb hd }
theorem OwnSS.reads {lo hi : Nat} {w : World} {v : Value} {vs : List Value} {xss : List (List Int)} (h : OwnSS lo hi w v vs xss) : SSR w v xss :=
  ⟨vs, RowsR.of_own vC_len (by rw [flat_v]; exact h.outer.1), h.len, fun i hi => RowsR.of_own inC_len (h.inner i hi).1⟩
theorem OwnSS.form {lo hi : Nat} {w : World} {v : Value} {vs : List Value} {xss : List (List Int)} (h : OwnSS lo hi w v vs xss) : ∃ a cap, v = .slice a xss.length cap := h.reads.form
/-- A row in an interval that holds no block but its own. -/
theorem Ow.narrow {lo hi : Nat} {w : World} {e : TypeId} {u : Value} {n : Nat} {xs : List Value} (h : Ow lo hi w e 1 u n xs) (ho : lo ≤ hi) : ∃ a b, Ow a b w e 1 u n xs ∧ lo ≤ a ∧ b ≤ hi ∧ ∀ x, a ≤ x → x < b → u.ownBlock = some x := by
  obtain ⟨⟨h1, h2⟩, h3⟩ := h
  rcases h2 with ⟨rfl, h0⟩ | ⟨g, cap, cur, rfl, hg, hh, r⟩
  · exact ⟨hi, hi, ⟨⟨h1, .inl ⟨rfl, h0⟩⟩, fun g hg => by simp [Value.ownBlock] at hg⟩, ho, Nat.le_refl _, fun x h4 h5 => by omega⟩
  · have h4 := h3 g rfl
    exact ⟨g, g + 1, ⟨⟨h1, .inr ⟨g, cap, cur, rfl, Nat.le_refl _, hh, r⟩⟩, fun g' hg' => by simp [Value.ownBlock] at hg'; omega⟩, hg, by omega, fun x h5 h6 => by rw [show x = g by omega]; rfl⟩
theorem Ow.widen {lo hi a b : Nat} {w : World} {e : TypeId} {u : Value} {n : Nat} {xs : List Value} (h : Ow a b w e 1 u n xs) (h1 : lo ≤ a) (h2 : b ≤ hi) : Ow lo hi w e 1 u n xs := ⟨own_mono h.1 h1, fun g hg => Nat.lt_of_lt_of_le (h.2 g hg) h2⟩
theorem Ow.off {lo hi a b : Nat} {w w' : World} {e : TypeId} {u : Value} {n : Nat} {xs : List Value} (h : Ow lo hi w e 1 u n xs) (hb : Btw a b w w') (hx : ∀ g, u.ownBlock = some g → g < a ∨ b ≤ g) : Ow lo hi w' e 1 u n xs :=
  ⟨own_of_block h.1 fun g hg => hb.block g (by have h1 := (h.1.lt g hg).2; rcases hx g hg with h2 | h2; (· exact .inl h2); exact .inr ⟨h2, h1⟩), h.2⟩
/-- One of the rows is written anew. -/
theorem OwnSS.marked {lo hi a b m : Nat} {w w' : World} {v : Value} {vs : List Value} {xss : List (List Int)} (h : OwnSS lo hi w v vs xss) (hm : m < vs.length) (hab : ∀ x, a ≤ x → x < b → (vs.getD m undef).ownBlock = some x) (h1 : lo ≤ a) (h2 : b ≤ hi)
    (hb : Btw a b w w') (ys : List Int) (ho : Ow a b w' 3 1 (vs.getD m undef) ys.length (flatC inC ys)) : OwnSS lo hi w' v vs (xss.set m ys) := by
  have off : ∀ u : Value, (∀ g, (vs.getD m undef).ownBlock = some g → u.ownBlock ≠ some g) → ∀ g, u.ownBlock = some g → g < a ∨ b ≤ g := by
    intro u hu g hg
    rcases Nat.lt_or_ge g a with h3 | h3
    · exact .inl h3
    · rcases Nat.lt_or_ge g b with h4 | h4
      · exact absurd hg (hu g (hab g h3 h4))
      · exact .inr h4
  refine { h with outer := h.outer.off hb (off v (h.apart m hm)), len := by rw [List.length_set]; exact h.len, inner := fun i hi => ?_ }
  have hml : m < xss.length := by rw [← h.len]; exact hm
  by_cases e : i = m
  · subst e
    rw [getD_at (xss.set i ys) i [] (by rw [List.length_set]; exact hml), List.getElem_set_self]
    exact ho.widen h1 h2
  · have hil : i < xss.length := by rw [← h.len]; exact hi
    rw [getD_at (xss.set m ys) i [] (by rw [List.length_set]; exact hil), List.getElem_set_ne (Ne.symm e), ← getD_at xss i [] hil]
    exact (h.inner i hi).off hb (off _ (h.distinct m i hm hi (Ne.symm e)))
/-- How many numbers stand in the first rows. -/
def offs : List (List Int) → Nat → Nat
  | [], _ => 0
  | _, 0 => 0
  | x :: t, m + 1 => x.length + offs t m
theorem offs_zero (xss : List (List Int)) : offs xss 0 = 0 := by cases xss <;> rfl
theorem offs_succ : ∀ (xss : List (List Int)) (m : Nat), m < xss.length → offs xss (m + 1) = offs xss m + (xss.getD m []).length
  | x :: t, 0, _ => by simp [offs, offs_zero]
  | x :: t, m + 1, h => by
    have := offs_succ t m (by simpa using h)
    simp only [offs, List.getD_cons_succ] at this ⊢
    omega
theorem offs_mono (xss : List (List Int)) : ∀ (d m : Nat), m + d ≤ xss.length → offs xss m ≤ offs xss (m + d)
  | 0, m, _ => Nat.le_refl _
  | d + 1, m, h => by
    have h1 := offs_mono xss d m (by omega)
    have h2 := offs_succ xss (m + d) (by omega)
    rw [show m + (d + 1) = m + d + 1 by omega]
    omega
def mkss (k : Int) (xss : List (List Int)) : List (List Int) := (List.range xss.length).map fun i => mksI (k + (offs xss i : Int)) (xss.getD i []).length
theorem mkss_len (k : Int) (xss : List (List Int)) : (mkss k xss).length = xss.length := by simp [mkss]
theorem mkss_at (k : Int) (xss : List (List Int)) (i : Nat) (h : i < xss.length) : (mkss k xss).getD i [] = mksI (k + (offs xss i : Int)) (xss.getD i []).length := by
  rw [getD_at _ _ _ (by rw [mkss_len]; exact h)]; simp [mkss]
theorem mkss_of (k : Int) (xss yss : List (List Int)) (hl : yss.length = xss.length) (h : ∀ i, i < xss.length → yss.getD i [] = mksI (k + (offs xss i : Int)) (xss.getD i []).length) : yss = mkss k xss := by
  apply List.ext_getElem (by rw [mkss_len]; exact hl)
  intro i h1 h2
  have := h i (by omega)
  rw [getD_at _ _ _ h1] at this
  rw [this, ← mkss_at k xss i (by omega), getD_at _ _ _ h2]

end Go.Proofs.Ytlfplnbmgmookaa
