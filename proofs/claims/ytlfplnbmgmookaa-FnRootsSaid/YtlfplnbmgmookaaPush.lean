/- A fresh row of numbers laid behind others. -/
import Derived.Test.YtlfplnbmgmookaaIntss
import Derived.Test.YtlfplnbmgmookaaKa
import Derived.Maps.AppendAt
namespace Go.Proofs.Ytlfplnbmgmookaa
set_option linter.unusedVariables false
open Go.RowKit

theorem getD_app_l {α : Type} (l r : List α) (i : Nat) (d : α) (h : i < l.length) : (l ++ r).getD i d = l.getD i d := by
  rw [getD_at _ _ _ (by rw [List.length_append]; omega), getD_at _ _ _ h, List.getElem_append_left h]
theorem getD_app_r {α : Type} (l : List α) (x d : α) : (l ++ [x]).getD l.length d = x := by
  rw [getD_at _ _ _ (by simp)]; simp
theorem OwnSS.push {lo hi : Nat} {w w1 w2 : World} {v v' u : Value} {vs : List Value} {xss : List (List Int)} {ys : List Int} (h : OwnSS lo hi w v vs xss) (hhi : hi ≤ w.heap.size) (hb : Below w.heap.size w w1)
    (hu : w1.ownsRow hi 3 1 u ys.length (flatC inC ys)) (ho : w2.ownsRow lo 36 1 v' (vs.length + 1) (vs ++ [u])) (hg : w1.grownBy w2 v.ownBlock) (hl : v'.ownBlock = v.ownBlock ∨ v'.ownBlock = some w1.heap.size) :
    OwnSS lo w2.heap.size w2 v' (vs ++ [u]) (xss ++ [ys]) := by
  have hn := h.next hb
  have hs12 : w1.heap.size ≤ w2.heap.size := hg.size
  have vlt : ∀ g, v.ownBlock = some g → g < hi := h.outer.2
  have ult : ∀ g, u.ownBlock = some g → hi ≤ g ∧ g < w1.heap.size := fun g hg' => hu.lt g hg'
  have ilt : ∀ i, i < vs.length → ∀ g, (vs.getD i undef).ownBlock = some g → g < hi ∧ g < w1.heap.size := fun i hi' g hg' => ⟨(h.inner i hi').2 g hg', ((hn.inner i hi').1.lt g hg').2⟩
  refine ⟨?_, ⟨by rw [List.length_append]; exact ho, fun g hg' => (ho.lt g hg').2⟩, by simp [h.len], fun i hi' => ?_, fun i hi' g hg' => ?_, fun i j hi' hj' hij g hg' => ?_⟩
  · exact Nat.le_trans h.ord (Nat.le_trans hhi (Nat.le_trans hb.size hs12))
  · rw [List.length_append] at hi'
    by_cases e : i < vs.length
    · rw [getD_app_l _ _ _ _ e, getD_app_l _ _ _ _ (by rw [← h.len]; exact e)]
      have hin := hn.inner i e
      refine ⟨hin.1.kept hg ?_, fun g hg' => Nat.lt_of_lt_of_le (ilt i e g hg').2 hs12⟩
      cases hbk : (vs.getD i undef).ownBlock with
      | none => exact .inl rfl
      | some g => exact .inr fun e' => h.apart i e g hbk e'.symm
    · obtain rfl : i = vs.length := by simp at hi'; omega
      rw [getD_app_r, h.len, getD_app_r]
      refine ⟨own_mono (hu.kept hg ?_) h.ord, fun g hg' => Nat.lt_of_lt_of_le (ult g hg').2 hs12⟩
      cases hbk : u.ownBlock with
      | none => exact .inl rfl
      | some g => exact .inr fun e' => by have h1 := vlt g e'.symm; have h2 := (ult g hbk).1; omega
  · rw [List.length_append] at hi'
    have hgw : g < w1.heap.size ∧ v.ownBlock ≠ some g := by
      by_cases e : i < vs.length
      · rw [getD_app_l _ _ _ _ e] at hg'
        exact ⟨(ilt i e g hg').2, h.apart i e g hg'⟩
      · obtain rfl : i = vs.length := by simp at hi'; omega
        rw [getD_app_r] at hg'
        exact ⟨(ult g hg').2, fun e' => by have h1 := vlt g e'; have h2 := (ult g hg').1; omega⟩
    rcases hl with hl | hl
    · rw [hl]; exact hgw.2
    · rw [hl]
      intro e'
      injection e' with e'
      omega
  · rw [List.length_append] at hi' hj'
    by_cases e : i < vs.length
    · rw [getD_app_l _ _ _ _ e] at hg'
      by_cases f : j < vs.length
      · rw [getD_app_l _ _ _ _ f]
        exact h.distinct i j e f hij g hg'
      · obtain rfl : j = vs.length := by simp at hj'; omega
        rw [getD_app_r]
        intro e'
        have h1 := (ilt i e g hg').1
        have h2 := (ult g e').1
        omega
    · obtain rfl : i = vs.length := by simp at hi'; omega
      rw [getD_app_r] at hg'
      have f : j < vs.length := by simp at hj'; omega
      rw [getD_app_l _ _ _ _ f]
      intro e'
      have h1 := (ilt j f g e').1
      have h2 := (ult g hg').1
      omega
theorem OwnSS.empty {lo hi : Nat} {w : World} {v : Value} (ho : lo ≤ hi) (h : w.ownsRow lo 36 1 v 0 []) (hh : ∀ g, v.ownBlock = some g → g < hi) : OwnSS lo hi w v [] [] :=
  ⟨ho, ⟨h, hh⟩, rfl, fun i hi => absurd hi (by simp), fun i hi => absurd hi (by simp), fun i j hi => absurd hi (by simp)⟩
theorem OwnSS.rehi {lo hi hi' : Nat} {w : World} {v : Value} {vs : List Value} {xss : List (List Int)} (h : OwnSS lo hi w v vs xss) (hh : hi ≤ hi') : OwnSS lo hi' w v vs xss :=
  { h with ord := Nat.le_trans h.ord hh, outer := ⟨h.outer.1, fun g hg => Nat.lt_of_lt_of_le (h.outer.2 g hg) hh⟩, inner := fun i hi => ⟨(h.inner i hi).1, fun g hg => Nat.lt_of_lt_of_le ((h.inner i hi).2 g hg) hh⟩ }
theorem OwnSS.relo {lo lo' hi : Nat} {w : World} {v : Value} {vs : List Value} {xss : List (List Int)} (h : OwnSS lo hi w v vs xss) (hh : lo' ≤ lo) : OwnSS lo' hi w v vs xss :=
  { h with ord := Nat.le_trans hh h.ord, outer := ⟨own_mono h.outer.1 hh, h.outer.2⟩, inner := fun i hi => ⟨own_mono (h.inner i hi).1 hh, (h.inner i hi).2⟩ }
end Go.Proofs.Ytlfplnbmgmookaa
