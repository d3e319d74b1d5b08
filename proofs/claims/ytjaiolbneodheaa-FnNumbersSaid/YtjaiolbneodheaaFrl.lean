/- The law's helpers on rods (arrays of two ints): compare and copy one. -/
import Derived.Test.YtjaiolbneodheaaSlr
import Derived.Deep.QuietTactic
import Derived.BigQuiet
import Derived.StillTailTactics
namespace Go.Proofs.Ytjaiolbneodheaa
set_option linter.unusedVariables false
open Go.RowKit

/-- A rod as a value. -/
def rodV (r : Int × Int) : Value := .agg #[.int .i64 r.1, .int .i64 r.2]

/-- The slice value v reads as these rods. -/
def RodsR (w : World) (v : Value) (rs : List (Int × Int)) : Prop :=
  ∃ a cap, v = .slice a rs.length cap ∧ (rs.length ≤ maxLen ∧ rs.length ≤ cap) ∧ (rs ≠ [] → ∃ b off, a = some ⟨b, off, none⟩ ∧ b < w.heap.size ∧ ∀ (i : Nat) (h : i < rs.length), w.cell? ⟨b, off + i * 2, none⟩ = some (.int .i64 rs[i].1) ∧ w.cell? ⟨b, off + i * 2 + 1, none⟩ = some (.int .i64 rs[i].2))
theorem RodsR.below {w w' : World} {v : Value} {rs : List (Int × Int)} (h : RodsR w v rs) {B : Nat} (hb : Below B w w') (hB : w.heap.size ≤ B) : RodsR w' v rs := by
  obtain ⟨a, cap, h1, h2, h3⟩ := h
  refine ⟨a, cap, h1, h2, fun hx => ?_⟩
  obtain ⟨b, off, g1, g2, g3⟩ := h3 hx
  exact ⟨b, off, g1, Nat.lt_of_lt_of_le g2 hb.size, fun i hi => ⟨(hb.cell (p := ⟨b, off + i * 2, none⟩) (Nat.lt_of_lt_of_le g2 hB)).trans (g3 i hi).1, (hb.cell (p := ⟨b, off + i * 2 + 1, none⟩) (Nat.lt_of_lt_of_le g2 hB)).trans (g3 i hi).2⟩⟩

/-- The cells of rods, one behind the other. -/
def flat : List (Int × Int) → List Value
  | [] => []
  | r :: t => .int .i64 r.1 :: .int .i64 r.2 :: flat t
theorem flat_len : ∀ rs : List (Int × Int), (flat rs).length = rs.length * 2
  | [] => rfl
  | _ :: t => by simp [flat, flat_len t]; omega
theorem flat_at : ∀ (rs : List (Int × Int)) (i : Nat) (h : i < rs.length), (flat rs)[i * 2]? = some (.int .i64 rs[i].1) ∧ (flat rs)[i * 2 + 1]? = some (.int .i64 rs[i].2)
  | r :: t, 0, _ => ⟨rfl, rfl⟩
  | r :: t, i + 1, h => by
    have := flat_at t i (by simpa using h)
    rw [show (i + 1) * 2 = i * 2 + 2 by omega]
    simpa [flat] using this
theorem RodsR.of_own {w : World} {B : Nat} {e : TypeId} {v : Value} {rs : List (Int × Int)} (h : w.ownsRow B e 2 v rs.length (flat rs)) : RodsR w v rs := by
  have h' := h
  rcases h.2 with ⟨rfl, h0⟩ | ⟨g, cap, cur, rfl, hb, hg, hn, hc, hsz, ht⟩
  · exact ⟨none, 0, by rw [h0], by rw [h0]; exact ⟨Nat.zero_le _, Nat.le_refl _⟩, fun hx => absurd (List.length_eq_zero_iff.1 h0) hx⟩
  · refine ⟨_, cap, rfl, ⟨Nat.le_trans hn hc, hn⟩, fun _ => ⟨g, 0, rfl, (h'.lt g rfl).2, fun i hi => ?_⟩⟩
    obtain ⟨f1, f2⟩ := flat_at rs i hi
    have q1 := h'.cells (g := g) rfl _ _ f1
    have q2 := h'.cells (g := g) rfl _ _ f2
    rw [add_off] at q1 q2
    exact ⟨q1, by rw [Nat.add_assoc]; exact q2⟩

theorem Try.infoRod : (Try.prog.info? 105).map (fun i => (i.zero, i.size, i.bytes)) = some (some (.agg #[.int .i64 0, .int .i64 0]), 2, 16) := by kernel_rfl

end Go.Proofs.Ytjaiolbneodheaa
