/- The parts added one after the other to a frame: its rods, and how often is carried. -/
import Derived.Test.YthmbehknacjodaaK9a
import Derived.Test.YthmbehknacjodaaKd
import Derived.Test.YthmbehknacjodaaKm
import Derived.Test.YthmbehknacjodaaKl
namespace Go.Proofs.Ythmbehknacjodaa
set_option linter.unusedVariables false
open Go.RowKit

def tcR : List Tr → List (Int × Int) → List (Int × Int)
  | [], rs => rs
  | t :: l, rs => tcR l (goR 0 (digs rs.length (wT t)) rs)
def tcC : List Tr → List (Int × Int) → Nat
  | [], _ => 0
  | t :: l, rs => goC 0 (digs rs.length (wT t)) rs + tcC l (goR 0 (digs rs.length (wT t)) rs)
theorem tcR_snoc : ∀ (l : List Tr) (t : Tr) (rs : List (Int × Int)), tcR (l ++ [t]) rs = goR 0 (digs (tcR l rs).length (wT t)) (tcR l rs)
  | [], _, _ => rfl
  | x :: l, t, rs => by rw [List.cons_append, tcR, tcR, tcR_snoc]
theorem tcC_snoc : ∀ (l : List Tr) (t : Tr) (rs : List (Int × Int)), tcC (l ++ [t]) rs = tcC l rs + goC 0 (digs (tcR l rs).length (wT t)) (tcR l rs)
  | [], _, _ => by simp [tcC, tcR]
  | x :: l, t, rs => by rw [List.cons_append, tcC, tcC, tcC_snoc, tcR, Nat.add_assoc]
theorem tcR_len : ∀ (l : List Tr) (rs : List (Int × Int)), (tcR l rs).length = rs.length
  | [], _ => rfl
  | x :: l, rs => by rw [tcR, tcR_len, goR_len]
theorem tc_facts : ∀ (l : List Tr) (rs : List (Int × Int)), (∀ t ∈ l, 0 < wT t) → rs.length = 8 → stdF rs → 0 ≤ numF rs → numF rs + smT l < 100000000 → stdF (tcR l rs) ∧ numF (tcR l rs) = numF rs + smT l
  | [], rs, _, _, hs, _, _ => ⟨hs, by simp [tcR, smT]⟩
  | t :: l, rs, hw, hl, hs, h0, hT => by
    have hw1 := hw t List.mem_cons_self
    have hw2 : ∀ x ∈ l, 0 < wT x := fun x hx => hw x (List.mem_cons_of_mem _ hx)
    have hn := smT_nonneg hw2
    rw [smT_cons] at hT
    have hm : wT t % 10 ^ 8 = wT t := Int.emod_eq_of_lt (by omega) (by omega)
    have e := goR_num 8 (wT t) 8 0 rs rfl hl hs (by rw [hm]; omega)
    rw [hm, List.drop_zero] at e
    have ih := tc_facts l (goR 0 (digs rs.length (wT t)) rs) hw2 (by rw [goR_len]; exact hl) (goR_std _ _ _ hs) (by rw [hl, e]; omega) (by rw [hl, e]; omega)
    rw [tcR, smT_cons]
    refine ⟨ih.1, ?_⟩
    rw [ih.2, hl, e]; omega
theorem forR8 : (forR 8 0).length = 8 ∧ stdF (forR 8 0) ∧ numF (forR 8 0) = 0 := by
  refine ⟨forR_len 8 0, ?_, numF_forR 8 0 (by omega) (by decide)⟩
  intro i hi
  rw [forR_at]
  exact digR_bd _ (by omega) (by omega)
/-- A beginning of the parts stands on the frame, and the next one can be added. -/
theorem tc_can {a b : Nat} (ha : a ≤ 9999) (hb : b ≤ 9999) (k : Nat) (h : k < (prT (dgL a) (dgL b)).length) : canF 1 4 (tcR ((prT (dgL a) (dgL b)).take k) (forR 8 0)) (wT (prT (dgL a) (dgL b))[k]) := by
  obtain ⟨f1, f2, f3⟩ := forR8
  have hm := mul_top ha hb
  have hw := (wT_bd (part_ok ha hb (List.getElem_mem h)))
  have hp1 := smT_pre ha hb (List.take_prefix k _)
  have hp2 := smT_pre ha hb (List.take_prefix (k + 1) _)
  rw [List.take_add_one, List.getElem?_eq_getElem h, Option.toList_some, smT_app, smT_cons, smT_nil] at hp2
  have hall : ∀ t ∈ (prT (dgL a) (dgL b)).take k, 0 < wT t := fun t ht => (wT_bd (part_ok ha hb (List.mem_of_mem_take ht))).1
  have hf := tc_facts _ _ hall f1 f2 (by omega) (by omega)
  have hl := tcR_len ((prT (dgL a) (dgL b)).take k) (forR 8 0)
  rw [f1] at hl
  refine ⟨stdF_good hf.1 (by omega) (by omega) (by omega), hf.1, by omega, ?_, ?_⟩
  · rw [hl]; omega
  · rw [hl, hf.2]; omega
theorem tcR_take (l : List Tr) (rs : List (Int × Int)) (k : Nat) (h : k < l.length) : tcR (l.take (k + 1)) rs = goR 0 (digs (tcR (l.take k) rs).length (wT l[k])) (tcR (l.take k) rs) := by
  rw [List.take_add_one, List.getElem?_eq_getElem h, Option.toList_some, tcR_snoc]
theorem tcC_take (l : List Tr) (rs : List (Int × Int)) (k : Nat) (h : k < l.length) : tcC (l.take (k + 1)) rs = tcC (l.take k) rs + goC 0 (digs (tcR (l.take k) rs).length (wT l[k])) (tcR (l.take k) rs) := by
  rw [List.take_add_one, List.getElem?_eq_getElem h, Option.toList_some, tcC_snoc]
theorem tcC_le : ∀ (l : List Tr) (rs : List (Int × Int)), rs.length ≤ 8 → tcC l rs ≤ 1000 * l.length
  | [], _, _ => by simp [tcC]
  | x :: l, rs, h => by
    rw [tcC, List.length_cons]
    have h1 := tcC_le l (goR 0 (digs rs.length (wT x)) rs) (by rw [goR_len]; exact h)
    have h2 := goC_small rs.length (wT x) rs h
    omega
end Go.Proofs.Ythmbehknacjodaa
