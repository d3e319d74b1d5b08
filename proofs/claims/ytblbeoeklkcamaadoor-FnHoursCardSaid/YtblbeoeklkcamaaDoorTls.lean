/- Lessons: what is valid; when two have a minute in common, when they clash. -/
import Derived.Test.YtblbeoeklkcamaaDoorLessons
import Derived.Test.YtblbeoeklkcamaaDoorKb
import Derived.Test.YtblbeoeklkcamaaDoorKa
namespace Go.Proofs.YtblbeoeklkcamaaDoor
set_option linter.unusedVariables false
open Go.RowKit

def okTm (b m : Int) : Prop := (480 ≤ b ∧ b ≤ 1140) ∧ (m = 30 ∨ m = 45 ∨ m = 60 ∨ m = 90)
def okLe (x : Les) : Prop := (1 ≤ x.id ∧ x.id ≤ 99) ∧ (1 ≤ x.cls ∧ x.cls ≤ 9) ∧ (1 ≤ x.tch ∧ x.tch ≤ 20) ∧ (1 ≤ x.room ∧ x.room ≤ 9) ∧ (0 ≤ x.day ∧ x.day ≤ 6) ∧ okTm x.bgn x.mins
def okLsAt (ps : List Les) (i : Nat) (h : i < ps.length) : Prop := okLe ps[i] ∧ (0 < i → (ps[i - 1]'(by omega)).id < ps[i].id)
def okLs (ps : List Les) : Prop := (∀ (i : Nat) (h : i < ps.length), okLsAt ps i h) ∧ ps.length ≤ 12
theorem okLs_len {ps : List Les} (h : okLs ps) : ps.length ≤ 12 := h.2
theorem okLs_at {ps : List Les} (h : okLs ps) (k : Nat) (hk : k < ps.length) : okLe ps[k] := (h.1 k hk).1
/-- The first minute after a lesson. -/
def endL (x : Les) : Int := IntKind.i64.wrap (x.bgn + x.mins)
def meetB (a b : Les) : Bool := decide (a.day = b.day ∧ a.bgn < endL b ∧ b.bgn < endL a)
def clashB (a b : Les) : Bool := meetB a b && decide (a.cls = b.cls ∨ a.tch = b.tch ∨ a.room = b.room)
theorem lesC_one (p : Les) : ∀ u ∈ lesC p, u.oneCell' = true := by intro u hu; simp [lesC] at hu; rcases hu with rfl | rfl | rfl | rfl | rfl | rfl | rfl <;> rfl
theorem okTm_end {b m : Int} (h : okTm b m) : IntKind.i64.wrap (b + m) = b + m ∧ 30 ≤ m ∧ m ≤ 90 := by
  obtain ⟨h1, h2⟩ := h
  refine ⟨?_, by omega, by omega⟩
  rw [IntKind.wrap_i64]; omega
theorem okLe_end {x : Les} (h : okLe x) : endL x = x.bgn + x.mins := (okTm_end h.2.2.2.2.2).1
/-- Ids go up. -/
theorem okLs_lt {ps : List Les} (h : okLs ps) (i : Nat) : ∀ (d : Nat) (hj : i + d + 1 < ps.length), (ps[i]'(by omega)).id < ps[i + d + 1].id
  | 0, hj => by have := (h.1 (i + 1) hj).2 (by omega); simpa using this
  | d + 1, hj => by
    have h1 := okLs_lt h i d (by omega)
    have h2 := (h.1 (i + (d + 1) + 1) hj).2 (by omega)
    have h3 : (ps[i + (d + 1) + 1 - 1]'(by omega)).id = (ps[i + d + 1]'(by omega)).id := rfl
    omega
theorem okLs_ne {ps : List Les} (h : okLs ps) (i j : Nat) (hi : i < ps.length) (hj : j < ps.length) (hne : i ≠ j) : ps[i].id ≠ ps[j].id := by
  rcases Nat.lt_or_gt_of_ne hne with hl | hl
  · obtain ⟨d, rfl⟩ : ∃ d, j = i + d + 1 := ⟨j - i - 1, by omega⟩
    have := okLs_lt h i d hj; omega
  · obtain ⟨d, rfl⟩ : ∃ d, i = j + d + 1 := ⟨i - j - 1, by omega⟩
    have := okLs_lt h j d hi; omega
/-- The lesson at a place, or one of noughts. -/
def leD (ps : List Les) (i : Nat) : Les := ps.getD i ⟨0, 0, 0, 0, 0, 0, 0⟩
theorem leD_at (ps : List Les) (i : Nat) (h : i < ps.length) : leD ps i = ps[i] := by simp [leD, List.getD, h]
/-- Where the lesson with an Id is: at k, the first such place. -/
def fndAt (ps : List Les) (id : Int) (k : Nat) : Prop := ∃ h : k < ps.length, ps[k].id = id ∧ ∀ j (hj : j < ps.length), j < k → ps[j].id ≠ id
def fndNo (ps : List Les) (id : Int) : Prop := ∀ j (hj : j < ps.length), ps[j].id ≠ id
theorem fnd_or (ps : List Les) (id : Int) : (∃ k, fndAt ps id k) ∨ fndNo ps id := by
  obtain ⟨p, hp, h1, h2⟩ := first_bad ps.length (fun i h => ps[i].id ≠ id)
  by_cases hlt : p < ps.length
  · exact .inl ⟨p, hlt, Classical.not_not.1 (h2 hlt), h1⟩
  · exact .inr fun j hj => h1 j hj (by omega)
theorem fnd_one {ps : List Les} {id : Int} {k j : Nat} (h : fndAt ps id k) (h' : fndAt ps id j) : k = j := by
  obtain ⟨h1, h2, h3⟩ := h
  obtain ⟨g1, g2, g3⟩ := h'
  rcases Nat.lt_trichotomy k j with e | e | e
  · exact absurd h2 (g3 k h1 e)
  · exact e
  · exact absurd g2 (h3 j g1 e)
theorem fnd_not {ps : List Les} {id : Int} {k : Nat} (h : fndAt ps id k) : ¬ fndNo ps id := fun hn => hn k h.1 h.2.1
/-- The lesson at another time. -/
def atL (x : Les) (d b : Int) : Les := { x with day := d, bgn := b }
/-- The lesson at i fits there: it is valid, and clashes with no other one. -/
def fitP (ps : List Les) (i : Nat) (d b : Int) : Prop := okLe (atL (leD ps i) d b) ∧ ∀ k, k < ps.length → k ≠ i → clashB (atL (leD ps i) d b) (leD ps k) = false
theorem okLe_at {x : Les} (h : okLe x) (d b : Int) : okLe (atL x d b) ↔ (0 ≤ d ∧ d ≤ 6) ∧ okTm b x.mins :=
  ⟨fun g => ⟨g.2.2.2.2.1, g.2.2.2.2.2⟩, fun g => ⟨h.1, h.2.1, h.2.2.1, h.2.2.2.1, g.1, g.2⟩⟩
end Go.Proofs.YtblbeoeklkcamaaDoor
