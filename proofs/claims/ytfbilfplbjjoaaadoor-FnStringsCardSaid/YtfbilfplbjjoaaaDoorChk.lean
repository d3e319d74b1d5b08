/- One changed byte of a checksummed text is found. -/
import Derived.Test.YtfbilfplbjjoaaaDoorSeal
import Derived.Test.YtfbilfplbjjoaaaDoorDig
import Derived.Test.YtfbilfplbjjoaaaDoorCut
namespace Go.Proofs.YtfbilfplbjjoaaaDoor
set_option linter.unusedVariables false
open Go.RowKit

theorem sumF_last (l1 l2 : List UInt8) (c : UInt8) (h : sumF (l1 ++ [c]) = sumF (l2 ++ [c])) : sumF l1 = sumF l2 := by
  rw [sumF_snoc, sumF_snoc] at h
  have h1 := sumF_bd l1
  have h2 := sumF_bd l2
  generalize sumF l1 = u at *
  generalize sumF l2 = v at *
  have hc : (c.toNat : Int) = (c.toNat : Int) := rfl
  generalize (c.toNat : Int) = d at h
  omega
theorem sumF_suffix : ∀ (t l1 l2 : List UInt8), sumF (l1 ++ t) = sumF (l2 ++ t) → sumF l1 = sumF l2
  | [], l1, l2, h => by simpa using h
  | x :: t, l1, l2, h => by
    refine sumF_last l1 l2 x (sumF_suffix t (l1 ++ [x]) (l2 ++ [x]) ?_)
    simpa using h
theorem sumF_byte (l : List UInt8) (a b : UInt8) (h : sumF (l ++ [a]) = sumF (l ++ [b])) : a = b := by
  rw [sumF_snoc, sumF_snoc] at h
  have h1 := sumF_bd l
  have ha := a.toNat_lt
  have hb := b.toNat_lt
  apply UInt8.toNat_inj.1
  omega
theorem sum_changed (l r : List UInt8) (a b : UInt8) (h : a ≠ b) : sumF (l ++ a :: r) ≠ sumF (l ++ b :: r) := fun e =>
  h (sumF_byte l a b (sumF_suffix r (l ++ [a]) (l ++ [b]) (by simpa using e)))
theorem digits_no (n : Int) (h0 : 0 ≤ n) : (35 : UInt8) ∉ Lib.itoa n := by
  rw [itoa_small n h0]
  intro hm
  have := (dec_spec n.toNat).1 35 hm
  revert this
  unfold isD
  decide
theorem app_inj : ∀ (a b d e : List UInt8), (35 : UInt8) ∉ a → (35 : UInt8) ∉ b → a ++ 35 :: d = b ++ 35 :: e → a = b ∧ d = e
  | [], [], d, e, _, _, h => by simp at h; exact ⟨rfl, h⟩
  | [], y :: b, d, e, _, hb, h => by simp at h; exact absurd (by simp [h.1]) hb
  | x :: a, [], d, e, ha, _, h => by simp at h; exact absurd (by simp [h.1]) ha
  | x :: a, y :: b, d, e, ha, hb, h => by
    simp only [List.cons_append, List.cons.injEq] at h
    obtain ⟨h1, h2⟩ := app_inj a b d e (fun hm => ha (List.mem_cons_of_mem _ hm)) (fun hm => hb (List.mem_cons_of_mem _ hm)) h.2
    exact ⟨by rw [h.1, h1], h2⟩
def sealL (l : List UInt8) : List UInt8 := l ++ 35 :: Lib.itoa (sumF l)
theorem count_seal (l : List UInt8) (h : (35 : UInt8) ∉ l) : (sealL l).count 35 = 1 := by
  unfold sealL
  rw [List.count_append, List.count_cons_self, List.count_eq_zero.2 h, List.count_eq_zero.2 (digits_no _ (sumF_bd l).1)]
theorem set_app_l (l r : List UInt8) (k : Nat) (c : UInt8) (h : k < l.length) : (l ++ r).set k c = l.set k c ++ r := List.set_append_left _ _ h
/-- A checksummed text with one byte changed is none. -/
theorem seal_change (x h : List UInt8) (k : Nat) (c : UInt8) (hx : (35 : UInt8) ∉ x) (hh : (35 : UInt8) ∉ h) (hk : k < (sealL x).length) (hc : (sealL x)[k] ≠ c) : sealL h ≠ (sealL x).set k c := by
  intro e
  have hcount := count_seal h hh
  rw [e] at hcount
  have hdx := digits_no (sumF x) (sumF_bd x).1
  have hdh := digits_no (sumF h) (sumF_bd h).1
  unfold sealL at e hk hc hcount
  rcases Nat.lt_trichotomy k x.length with h1 | h1 | h1
  · rw [List.set_append_left _ _ h1] at e hcount
    rw [List.getElem_append_left h1] at hc
    by_cases hm : (35 : UInt8) ∈ x.set k c
    · have := List.count_pos_iff.2 hm
      rw [List.count_append, List.count_cons_self] at hcount
      omega
    · obtain ⟨e1, e2⟩ := app_inj _ _ _ _ hh hm e
      have hb1 := sumF_bd h
      have hb2 := sumF_bd x
      have e3 := itoa_inj (by omega) (by omega) (by omega) (by omega) e2
      rw [e1, List.set_eq_take_append_cons_drop, if_pos h1] at e3
      have ex : x = x.take k ++ x[k] :: x.drop (k + 1) := by
        conv => lhs; rw [← List.take_append_drop k x]
        rw [List.drop_eq_getElem_cons h1]
      have e4 := sum_changed (x.take k) (x.drop (k + 1)) c x[k] (fun e => hc e.symm)
      rw [← ex] at e4
      exact e4 e3
  · subst h1
    rw [List.set_append_right _ _ (Nat.le_refl _), Nat.sub_self, List.set_cons_zero, List.count_append, List.count_cons, List.count_eq_zero.2 hx, List.count_eq_zero.2 hdx] at hcount
    rw [List.getElem_append_right (Nat.le_refl _)] at hc
    simp only [Nat.sub_self, List.getElem_cons_zero] at hc
    have : (c == 35) = false := beq_eq_false_iff_ne.2 fun e => hc e.symm
    rw [this] at hcount
    simp at hcount
  · obtain ⟨j, rfl⟩ : ∃ j, k = x.length + (j + 1) := ⟨k - x.length - 1, by omega⟩
    rw [List.set_append_right _ _ (by omega), show x.length + (j + 1) - x.length = j + 1 by omega, List.set_cons_succ] at e
    rw [List.getElem_append_right (by omega)] at hc
    simp only [show x.length + (j + 1) - x.length = j + 1 by omega, List.getElem_cons_succ] at hc
    obtain ⟨e1, e2⟩ := app_inj _ _ _ _ hh hx e
    subst e1
    have hj : j < (Lib.itoa (sumF h)).length := by simp at hk; omega
    have e3 : (Lib.itoa (sumF h))[j]? = some c := by
      rw [e2, List.getElem?_set_self hj]
    rw [List.getElem?_eq_getElem hj] at e3
    exact hc (Option.some.inj e3)
theorem sealF_data (s : ByteArray) : (sealF s).data.toList = sealL s.data.toList := by
  unfold sealF sealL; simp
end Go.Proofs.YtfbilfplbjjoaaaDoor
