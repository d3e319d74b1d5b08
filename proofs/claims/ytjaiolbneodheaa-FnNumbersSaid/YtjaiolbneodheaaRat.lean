/- Cells of boxes of one and two, rods read by place, the first bad place. -/
import Derived.Test.YtjaiolbneodheaaFrm
namespace Go.Proofs.Ytjaiolbneodheaa
set_option linter.unusedVariables false
open Go.RowKit

theorem cell2 {w : World} {b : Nat} {x y : Value} {T : TypeId} (h : w.heap[b]? = some (.cells #[x, y] T (0, 0))) :
    w.cell? ⟨b, 0, none⟩ = some x ∧ w.cell? ⟨b, 1, none⟩ = some y ∧ w.frozen? ⟨b, 0, none⟩ = false ∧ w.frozen? ⟨b, 1, none⟩ = false := by
  simp [World.cell?, World.frozen?, h]

theorem cell1 {w : World} {b : Nat} {x : Value} {T : TypeId} (h : w.heap[b]? = some (.cells #[x] T (0, 0))) : w.cell? ⟨b, 0, none⟩ = some x ∧ w.frozen? ⟨b, 0, none⟩ = false := by
  simp [World.cell?, World.frozen?, h]
theorem rods_at {w : World} {a : Option Addr} {c : Nat} {rs : List (Int × Int)} (h : RodsR w (.slice a rs.length c) rs) : ∀ w' : World, Below w.heap.size w w' → ∀ k, (hk : k < rs.length) → ∃ b o, a = some ⟨b, o, none⟩ ∧ w'.cell? ⟨b, o + k * 2, none⟩ = some (.int .i64 rs[k].1) ∧ w'.cell? ⟨b, o + k * 2 + 1, none⟩ = some (.int .i64 rs[k].2) := by
  intro w' hb k hk
  obtain ⟨a', c', e, _, h3⟩ := h
  obtain ⟨b, off, ha, hlt, hc⟩ := h3 (by intro e; subst e; simp at hk)
  have : a = a' := by injection e
  subst this
  exact ⟨b, off, ha, (hb.cell (p := ⟨b, off + k * 2, none⟩) hlt).trans (hc k hk).1, (hb.cell (p := ⟨b, off + k * 2 + 1, none⟩) hlt).trans (hc k hk).2⟩
/-- The first place of a list where P is false, or its length. -/
theorem first_bad (n : Nat) (P : (i : Nat) → i < n → Prop) : ∃ p, p ≤ n ∧ (∀ i (h : i < n), i < p → P i h) ∧ ∀ h : p < n, ¬ P p h := by
  by_cases hex : ∃ k, k < n ∧ ∃ hk : k < n, ¬ P k hk
  · obtain ⟨p, hp, ⟨hk, hb⟩, hpre⟩ := first_idx n (fun k => ∃ hk : k < n, ¬ P k hk) hex
    exact ⟨p, Nat.le_of_lt hp, fun i h hi => Classical.byContradiction fun hc => hpre i hi ⟨h, hc⟩, fun _ => hb⟩
  · exact ⟨n, Nat.le_refl _, fun i h _ => Classical.byContradiction fun hc => hex ⟨i, h, h, hc⟩, fun h => absurd h (Nat.lt_irrefl _)⟩

theorem flat_of (xs : List Value) (rs : List (Int × Int)) (hl : xs.length = rs.length * 2) (h : ∀ j (h : j < rs.length), xs[j * 2]? = some (.int .i64 rs[j].1) ∧ xs[j * 2 + 1]? = some (.int .i64 rs[j].2)) : xs = flat rs := by
  apply List.ext_getElem?
  intro j
  by_cases hj : j < rs.length * 2
  · have hp := h (j / 2) (by omega)
    have hf := flat_at rs (j / 2) (by omega)
    by_cases hod : j % 2 = 0
    · have e : j / 2 * 2 = j := by omega
      rw [e] at hp hf
      rw [hp.1, hf.1]
    · have e : j / 2 * 2 + 1 = j := by omega
      rw [e] at hp hf
      rw [hp.2, hf.2]
  · rw [List.getElem?_eq_none (by omega), List.getElem?_eq_none (by rw [flat_len]; omega)]

end Go.Proofs.Ytjaiolbneodheaa
