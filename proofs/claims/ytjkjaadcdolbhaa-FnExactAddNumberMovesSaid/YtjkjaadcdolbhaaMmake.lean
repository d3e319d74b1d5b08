/- The model's l4Make and MoveBeads. -/
import Derived.Test.YtjkjaadcdolbhaaMone
import Derived.Test.YtjkjaadcdolbhaaOwn
import Derived.Test.YtjkjaadcdolbhaaGood
namespace Go.Proofs.Ytjkjaadcdolbhaa
set_option linter.unusedVariables false
open Go.RowKit

/-- The rod behind a move, the rods behind it. -/
def movR (r : Int × Int) (m : Mv) : Int × Int := if m.part = 0 then (r.1 + m.amt, r.2) else (r.1, r.2 + m.amt)
def movF (rs : List (Int × Int)) (m : Mv) : List (Int × Int) := rs.set m.rod.toNat (movR (rs.getD m.rod.toNat (0, 0)) m)
theorem movF_len (rs : List (Int × Int)) (m : Mv) : (movF rs m).length = rs.length := by simp [movF]
/-- A move of a good frame: the answer. -/
def MkF (up lo : Int) (rs : List (Int × Int)) (m : Mv) (fu fl : Int) (qs : List (Int × Int)) (t : Bool) : Prop :=
  (m.rod < rs.length ∧ goodF up lo (movF rs m) ∧ fu = up ∧ fl = lo ∧ qs = movF rs m ∧ t = true) ∨ (¬ (m.rod < rs.length ∧ goodF up lo (movF rs m)) ∧ fu = 0 ∧ fl = 0 ∧ qs = [] ∧ t = false)
theorem mkF_or (up lo : Int) (rs : List (Int × Int)) (m : Mv) : ∃ fu fl qs t, MkF up lo rs m fu fl qs t := by
  by_cases h : m.rod < rs.length ∧ goodF up lo (movF rs m)
  · exact ⟨up, lo, _, true, .inl ⟨h.1, h.2, rfl, rfl, rfl, rfl⟩⟩
  · exact ⟨0, 0, [], false, .inr ⟨h, rfl, rfl, rfl, rfl⟩⟩

/-- MoveBeads: the answer. -/
def MvF (up lo : Int) (rs : List (Int × Int)) (m : Mv) (fu fl : Int) (qs : List (Int × Int)) (t : Bool) : Prop :=
  (goodF up lo rs ∧ okMv m ∧ MkF up lo rs m fu fl qs t) ∨ (¬ (goodF up lo rs ∧ okMv m) ∧ fu = 0 ∧ fl = 0 ∧ qs = [] ∧ t = false)
theorem mvF_or (up lo : Int) (rs : List (Int × Int)) (m : Mv) : ∃ fu fl qs t, MvF up lo rs m fu fl qs t := by
  by_cases h : goodF up lo rs ∧ okMv m
  · obtain ⟨fu, fl, qs, t, hk⟩ := mkF_or up lo rs m
    exact ⟨fu, fl, qs, t, .inl ⟨h.1, h.2, hk⟩⟩
  · exact ⟨0, 0, [], false, .inr ⟨h, rfl, rfl, rfl, rfl⟩⟩
theorem mkF_len {up lo : Int} {rs : List (Int × Int)} {m : Mv} {fu fl : Int} {qs : List (Int × Int)} {t : Bool} (hg : goodF up lo rs) (h : MkF up lo rs m fu fl qs t) : qs.length ≤ 8 := by
  rcases h with ⟨_, _, _, _, rfl, _⟩ | ⟨_, _, _, rfl, _⟩
  · rw [movF_len]; exact hg.2.2.2.2
  · simp
theorem mvF_len {up lo : Int} {rs : List (Int × Int)} {m : Mv} {fu fl : Int} {qs : List (Int × Int)} {t : Bool} (h : MvF up lo rs m fu fl qs t) : qs.length ≤ 8 := by
  rcases h with ⟨hg, _, hk⟩ | ⟨_, _, _, rfl, _⟩
  · exact mkF_len hg hk
  · simp

end Go.Proofs.Ytjkjaadcdolbhaa
