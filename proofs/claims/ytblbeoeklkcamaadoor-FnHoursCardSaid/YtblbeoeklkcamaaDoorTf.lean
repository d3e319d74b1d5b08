/- Free rooms; hours of teachers. -/
import Derived.Test.YtblbeoeklkcamaaDoorTso
namespace Go.Proofs.YtblbeoeklkcamaaDoor
set_option linter.unusedVariables false
open Go.RowKit

/-- Whether one of the first k lessons has the room when P is held. -/
def frT (ps : List Les) (P : Les) (r : Int) (k : Nat) : Bool := (ps.take k).any fun x => decide (x.room = r) && meetB x P
def frL (ps : List Les) (P : Les) : Nat → List Int
  | 0 => []
  | n + 1 => if frT ps P ((n : Int) + 1) ps.length = true then frL ps P n else frL ps P n ++ [(n : Int) + 1]
theorem frT_zero (ps : List Les) (P : Les) (r : Int) : frT ps P r 0 = false := by simp [frT]
theorem frT_step (ps : List Les) (P : Les) (r : Int) (k : Nat) (h : k < ps.length) : frT ps P r (k + 1) = (frT ps P r k || (decide ((leD ps k).room = r) && meetB (leD ps k) P)) := by
  unfold frT; rw [List.take_succ_eq_append_getElem h, List.any_append, leD_at ps k h]; simp
theorem frL_len (ps : List Les) (P : Les) : ∀ n, (frL ps P n).length ≤ n
  | 0 => Nat.le_refl _
  | n + 1 => by
    have := frL_len ps P n
    rw [frL]; split
    · omega
    · simp; omega
def okFr (ps : List Les) (d b m : Int) : Prop := okLs ps ∧ (0 ≤ d ∧ d ≤ 6) ∧ okTm b m
/-- What FreeRooms tells. -/
def FrF (ps : List Les) (d b m : Int) (qs : List Int) (t : Bool) : Prop := (okFr ps d b m ∧ qs = frL ps ⟨0, 0, 0, 0, d, b, m⟩ 9 ∧ t = true) ∨ (¬ okFr ps d b m ∧ qs = [] ∧ t = false)
theorem frF_or (ps : List Les) (d b m : Int) : ∃ qs t, FrF ps d b m qs t := by
  by_cases h : okFr ps d b m
  · exact ⟨_, _, .inl ⟨h, rfl, rfl⟩⟩
  · exact ⟨_, _, .inr ⟨h, rfl, rfl⟩⟩
theorem frF_len {ps : List Les} {d b m : Int} {qs : List Int} {t : Bool} (h : FrF ps d b m qs t) : qs.length ≤ 12 := by
  rcases h with ⟨_, rfl, _⟩ | ⟨_, rfl, _⟩
  · have := frL_len ps ⟨0, 0, 0, 0, d, b, m⟩ 9; omega
  · simp
/-- The minutes of a teacher in the first k lessons. -/
def minT (ps : List Les) (t : Int) : Nat → Int
  | 0 => 0
  | k + 1 => if (leD ps k).tch = t then minT ps t k + (leD ps k).mins else minT ps t k
def hoL (ps : List Les) : Nat → List (List Int)
  | 0 => []
  | n + 1 => if 0 < minT ps (n : Int) ps.length then hoL ps n ++ [[(n : Int), minT ps (n : Int) ps.length]] else hoL ps n
theorem minT_bd {ps : List Les} (ho : okLs ps) (t : Int) : ∀ k, k ≤ ps.length → 0 ≤ minT ps t k ∧ minT ps t k ≤ 90 * (k : Int)
  | 0, _ => ⟨Int.le_refl _, by simp [minT]⟩
  | k + 1, h => by
    obtain ⟨h1, h2⟩ := minT_bd ho t k (by omega)
    have h3 := (okTm_end (okLs_at ho k (by omega)).2.2.2.2.2).2
    rw [← leD_at ps k (by omega)] at h3
    rw [minT]; split <;> omega
theorem minT_zero {ps : List Les} (ho : okLs ps) : ∀ k, k ≤ ps.length → minT ps 0 k = 0
  | 0, _ => rfl
  | k + 1, h => by
    have h3 := (okLs_at ho k (by omega)).2.2.1
    rw [← leD_at ps k (by omega)] at h3
    rw [minT, if_neg (by omega), minT_zero ho k (by omega)]
theorem hoL_one {ps : List Les} (ho : okLs ps) : hoL ps 1 = [] := by
  rw [hoL, if_neg]
  · rfl
  · have := minT_zero ho ps.length (Nat.le_refl _)
    rw [show ((0 : Nat) : Int) = 0 from rfl, this]; omega
theorem hoL_len (ps : List Les) : ∀ n, (hoL ps n).length ≤ n ∧ ∀ ys ∈ hoL ps n, ys.length = 2
  | 0 => ⟨Nat.le_refl _, fun ys h => by simp [hoL] at h⟩
  | n + 1 => by
    obtain ⟨h1, h2⟩ := hoL_len ps n
    rw [hoL]; split
    · refine ⟨by simp; omega, fun ys h => ?_⟩
      rcases List.mem_append.1 h with h | h
      · exact h2 ys h
      · rw [List.mem_singleton.1 h]; rfl
    · exact ⟨by omega, h2⟩
end Go.Proofs.YtblbeoeklkcamaaDoor
