/- Parts laid as one: Frl, Frm, Rat, Mk, Frmo. -/
import Derived.Test.YtblbeoeklkcamaaDoorKa
import Derived.Deep.QuietTactic
import Derived.BigQuiet
import Derived.StillTailTactics
import Derived.ProofKit
import Derived.OpenShut
import Derived.Lib.SmallJoins
import Derived.Deep.Slices
/-! Frl -/
namespace Go.Proofs.YtblbeoeklkcamaaDoor
set_option linter.unusedVariables false
open Go.RowKit

/-- A rod as a value. -/
def rodV (r : Int × Int) : Value := .agg #[.int .i64 r.1, .int .i64 r.2]

/-- The slice value v reads as these rods. -/
def RodsR (w : World) (v : Value) (rs : List (Int × Int)) : Prop :=
  ∃ a cap, v = .slice a rs.length cap ∧ (rs.length ≤ maxLen ∧ rs.length ≤ cap) ∧ (rs ≠ [] → ∃ b off, a = some ⟨b, off, none⟩ ∧ b < w.heap.size ∧ ∀ (i : Nat) (h : i < rs.length), w.cell? ⟨b, off + i * 2, none⟩ = some (.int .i64 rs[i].1) ∧ w.cell? ⟨b, off + i * 2 + 1, none⟩ = some (.int .i64 rs[i].2))
theorem RodsR.below {w w' : World} {v : Value} {rs : List (Int × Int)} (h : RodsR w v rs) {B : Nat} (hb : Below B w w') (hB : w.heap.size ≤ B) : RodsR w' v rs := by
  obtain ⟨a, cap, h1, h2, h3⟩ := h
  refine ⟨a, cap, h1, h2, fun hx => ?_⟩
  obtain ⟨b, off, g1, g2, g3⟩ := h3 hx
  exact ⟨b, off, g1, Nat.lt_of_lt_of_le g2 hb.size, fun i hi => ⟨(hb.cell (p := ⟨b, off + i * 2, none⟩) (Nat.lt_of_lt_of_le g2 hB)).trans (g3 i hi).1, (hb.cell (p := ⟨b, off + i * 2 + 1, none⟩) (Nat.lt_of_lt_of_le g2 hB)).trans (g3 i hi).2⟩⟩

/-- The cells of rods, one behind the other. -/
def flat : List (Int × Int) → List Value
  | [] => []
  | r :: t => .int .i64 r.1 :: .int .i64 r.2 :: flat t
theorem flat_len : ∀ rs : List (Int × Int), (flat rs).length = rs.length * 2
  | [] => rfl
  | _ :: t => by simp [flat, flat_len t]; omega
theorem flat_at : ∀ (rs : List (Int × Int)) (i : Nat) (h : i < rs.length), (flat rs)[i * 2]? = some (.int .i64 rs[i].1) ∧ (flat rs)[i * 2 + 1]? = some (.int .i64 rs[i].2)
  | r :: t, 0, _ => ⟨rfl, rfl⟩
  | r :: t, i + 1, h => by
    have := flat_at t i (by simpa using h)
    rw [show (i + 1) * 2 = i * 2 + 2 by omega]
    simpa [flat] using this
theorem RodsR.of_own {w : World} {B : Nat} {e : TypeId} {v : Value} {rs : List (Int × Int)} (h : w.ownsRow B e 2 v rs.length (flat rs)) : RodsR w v rs := by
  have h' := h
  rcases h.2 with ⟨rfl, h0⟩ | ⟨g, cap, cur, rfl, hb, hg, hn, hc, hsz, ht⟩
  · exact ⟨none, 0, by rw [h0], by rw [h0]; exact ⟨Nat.zero_le _, Nat.le_refl _⟩, fun hx => absurd (List.length_eq_zero_iff.1 h0) hx⟩
  · refine ⟨_, cap, rfl, ⟨Nat.le_trans hn hc, hn⟩, fun _ => ⟨g, 0, rfl, (h'.lt g rfl).2, fun i hi => ?_⟩⟩
    obtain ⟨f1, f2⟩ := flat_at rs i hi
    have q1 := h'.cells (g := g) rfl _ _ f1
    have q2 := h'.cells (g := g) rfl _ _ f2
    rw [add_off] at q1 q2
    exact ⟨q1, by rw [Nat.add_assoc]; exact q2⟩

end Go.Proofs.YtblbeoeklkcamaaDoor

/-! Frm -/
namespace Go.Proofs.YtblbeoeklkcamaaDoor
set_option linter.unusedVariables false
open Go.RowKit

/-- A frame as a value: its rods are a slice. -/
def frV (up lo : Int) (sv : Value) : Value := .agg #[.int .i64 up, .int .i64 lo, sv]

end Go.Proofs.YtblbeoeklkcamaaDoor

/-! Rat -/
namespace Go.Proofs.YtblbeoeklkcamaaDoor
set_option linter.unusedVariables false
open Go.RowKit

theorem cell2 {w : World} {b : Nat} {x y : Value} {T : TypeId} (h : w.heap[b]? = some (.cells #[x, y] T (0, 0))) :
    w.cell? ⟨b, 0, none⟩ = some x ∧ w.cell? ⟨b, 1, none⟩ = some y ∧ w.frozen? ⟨b, 0, none⟩ = false ∧ w.frozen? ⟨b, 1, none⟩ = false := by
  simp [World.cell?, World.frozen?, h]

theorem cell1 {w : World} {b : Nat} {x : Value} {T : TypeId} (h : w.heap[b]? = some (.cells #[x] T (0, 0))) : w.cell? ⟨b, 0, none⟩ = some x ∧ w.frozen? ⟨b, 0, none⟩ = false := by
  simp [World.cell?, World.frozen?, h]
theorem rods_at {w : World} {a : Option Addr} {c : Nat} {rs : List (Int × Int)} (h : RodsR w (.slice a rs.length c) rs) : ∀ w' : World, Below w.heap.size w w' → ∀ k, (hk : k < rs.length) → ∃ b o, a = some ⟨b, o, none⟩ ∧ w'.cell? ⟨b, o + k * 2, none⟩ = some (.int .i64 rs[k].1) ∧ w'.cell? ⟨b, o + k * 2 + 1, none⟩ = some (.int .i64 rs[k].2) := by
  intro w' hb k hk
  obtain ⟨a', c', e, _, h3⟩ := h
  obtain ⟨b, off, ha, hlt, hc⟩ := h3 (by intro e; subst e; simp at hk)
  have : a = a' := by injection e
  subst this
  exact ⟨b, off, ha, (hb.cell (p := ⟨b, off + k * 2, none⟩) hlt).trans (hc k hk).1, (hb.cell (p := ⟨b, off + k * 2 + 1, none⟩) hlt).trans (hc k hk).2⟩
/-- The first place of a list where P is false, or its length. -/
theorem first_bad (n : Nat) (P : (i : Nat) → i < n → Prop) : ∃ p, p ≤ n ∧ (∀ i (h : i < n), i < p → P i h) ∧ ∀ h : p < n, ¬ P p h := by
  by_cases hex : ∃ k, k < n ∧ ∃ hk : k < n, ¬ P k hk
  · obtain ⟨p, hp, ⟨hk, hb⟩, hpre⟩ := first_idx n (fun k => ∃ hk : k < n, ¬ P k hk) hex
    exact ⟨p, Nat.le_of_lt hp, fun i h hi => Classical.byContradiction fun hc => hpre i hi ⟨h, hc⟩, fun _ => hb⟩
  · exact ⟨n, Nat.le_refl _, fun i h _ => Classical.byContradiction fun hc => hex ⟨i, h, h, hc⟩, fun h => absurd h (Nat.lt_irrefl _)⟩

theorem flat_of (xs : List Value) (rs : List (Int × Int)) (hl : xs.length = rs.length * 2) (h : ∀ j (h : j < rs.length), xs[j * 2]? = some (.int .i64 rs[j].1) ∧ xs[j * 2 + 1]? = some (.int .i64 rs[j].2)) : xs = flat rs := by
  apply List.ext_getElem?
  intro j
  by_cases hj : j < rs.length * 2
  · have hp := h (j / 2) (by omega)
    have hf := flat_at rs (j / 2) (by omega)
    by_cases hod : j % 2 = 0
    · have e : j / 2 * 2 = j := by omega
      rw [e] at hp hf
      rw [hp.1, hf.1]
    · have e : j / 2 * 2 + 1 = j := by omega
      rw [e] at hp hf
      rw [hp.2, hf.2]
  · rw [List.getElem?_eq_none (by omega), List.getElem?_eq_none (by rw [flat_len]; omega)]

end Go.Proofs.YtblbeoeklkcamaaDoor

/-! Mk -/
namespace Go.Proofs.YtblbeoeklkcamaaDoor
set_option linter.unusedVariables false
open Go.RowKit

end Go.Proofs.YtblbeoeklkcamaaDoor

/-! Frmo -/
namespace Go.Proofs.YtblbeoeklkcamaaDoor
set_option linter.unusedVariables false
open Go.RowKit Go.ChangeShapes Go.WideShapes Go.ChangeAt

end Go.Proofs.YtblbeoeklkcamaaDoor
