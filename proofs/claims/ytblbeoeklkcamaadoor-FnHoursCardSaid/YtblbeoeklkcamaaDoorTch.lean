/- Hours of all teachers are all minutes; a lesson shifted back. -/
import Derived.Test.YtblbeoeklkcamaaDoorTso
import Derived.Test.YtblbeoeklkcamaaDoorTf
namespace Go.Proofs.YtblbeoeklkcamaaDoor
set_option linter.unusedVariables false
open Go.RowKit

def sumM (ps : List Les) : Nat → Int
  | 0 => 0
  | k + 1 => sumM ps k + (leD ps k).mins
/-- The minutes of all teachers below n, over the first k lessons. -/
def allT (ps : List Les) (k : Nat) : Nat → Int
  | 0 => 0
  | n + 1 => allT ps k n + minT ps (n : Int) k
theorem allT_step (ps : List Les) (k : Nat) (h0 : 0 ≤ (leD ps k).tch) : ∀ n, allT ps (k + 1) n = allT ps k n + (if (leD ps k).tch < (n : Int) then (leD ps k).mins else 0)
  | 0 => by rw [allT, allT, if_neg (by omega)]; simp
  | n + 1 => by
    rw [allT, allT, allT_step ps k h0 n, minT]
    by_cases e : (leD ps k).tch = (n : Int)
    · rw [if_pos e, if_neg (by omega), if_pos (by omega)]; omega
    · rw [if_neg e]
      by_cases e2 : (leD ps k).tch < (n : Int)
      · rw [if_pos e2, if_pos (by omega)]; omega
      · rw [if_neg e2, if_neg (by omega)]; omega
theorem allT_zero (ps : List Les) : ∀ n, allT ps 0 n = 0
  | 0 => rfl
  | n + 1 => by rw [allT, allT_zero ps n]; simp [minT]
theorem allT_all {ps : List Les} (ho : okLs ps) : ∀ k, k ≤ ps.length → allT ps k 21 = sumM ps k
  | 0, _ => allT_zero ps 21
  | k + 1, hk => by
    have ht : okLe (leD ps k) := by rw [leD_at ps k hk]; exact okLs_at ho k hk
    obtain ⟨-, -, ⟨t1, t2⟩, -⟩ := ht
    rw [allT_step ps k (by omega) 21, allT_all ho k (by omega), sumM, if_pos (by omega)]
theorem sumM_bd {ps : List Les} (ho : okLs ps) : ∀ k, k ≤ ps.length → 0 ≤ sumM ps k ∧ sumM ps k ≤ 90 * (k : Int)
  | 0, _ => ⟨Int.le_refl _, by simp [sumM]⟩
  | k + 1, hk => by
    obtain ⟨h1, h2⟩ := sumM_bd ho k (by omega)
    have ht : okLe (leD ps k) := by rw [leD_at ps k hk]; exact okLs_at ho k hk
    have := (okTm_end ht.2.2.2.2.2).2
    rw [sumM]; omega
/-- What rows of hours hold. -/
def rowH (y : List Int) : Prop := ∃ t m : Int, y = [t, m] ∧ (0 ≤ t ∧ t ≤ 21) ∧ (0 ≤ m ∧ m ≤ 1080)
def sumH (ys : List (List Int)) : Nat → Int
  | 0 => 0
  | k + 1 => sumH ys k + (ys.getD k []).getD 1 0
theorem sumH_app (ys : List (List Int)) (y : List Int) : ∀ k, k ≤ ys.length → sumH (ys ++ [y]) k = sumH ys k
  | 0, _ => rfl
  | k + 1, hk => by
    rw [sumH, sumH, sumH_app ys y k (by omega)]
    have : (ys ++ [y]).getD k [] = ys.getD k [] := by simp [List.getD, List.getElem?_append_left (show k < ys.length by omega)]
    rw [this]
theorem sumH_snoc (ys : List (List Int)) (t m : Int) : sumH (ys ++ [[t, m]]) (ys.length + 1) = sumH ys ys.length + m := by
  rw [sumH, sumH_app ys _ _ (Nat.le_refl _)]
  have : (ys ++ [[t, m]]).getD ys.length [] = [t, m] := by simp [List.getD]
  rw [this]; rfl
theorem hoL_rows {ps : List Les} (ho : okLs ps) : ∀ n, n ≤ 21 → sumH (hoL ps n) (hoL ps n).length = allT ps ps.length n ∧ ∀ y ∈ hoL ps n, rowH y
  | 0, _ => ⟨rfl, fun y h => by simp [hoL] at h⟩
  | n + 1, hn => by
    obtain ⟨h1, h2⟩ := hoL_rows ho n (by omega)
    obtain ⟨b1, b2⟩ := minT_bd ho (n : Int) ps.length (Nat.le_refl _)
    have hl := okLs_len ho
    rw [hoL, allT]
    by_cases e : 0 < minT ps (n : Int) ps.length
    · rw [if_pos e]
      refine ⟨?_, fun y h => ?_⟩
      · have e1 : (hoL ps n ++ [[(n : Int), minT ps (n : Int) ps.length]]).length = (hoL ps n).length + 1 := by simp
        rw [e1, sumH_snoc, h1]
      · rcases List.mem_append.1 h with h | h
        · exact h2 y h
        · exact ⟨_, _, List.mem_singleton.1 h, ⟨by omega, by omega⟩, by omega, by omega⟩
    · rw [if_neg e]
      exact ⟨by rw [h1]; omega, h2⟩
theorem sumH_bd {ys : List (List Int)} (h : ∀ y ∈ ys, rowH y) : ∀ k, k ≤ ys.length → 0 ≤ sumH ys k ∧ sumH ys k ≤ 1080 * (k : Int)
  | 0, _ => ⟨Int.le_refl _, by simp [sumH]⟩
  | k + 1, hk => by
    obtain ⟨h1, h2⟩ := sumH_bd h k (by omega)
    have hk' : k < ys.length := hk
    have e : ys.getD k [] = ys[k] := by simp [List.getD, hk']
    obtain ⟨t, m, hy, _, m0, m1⟩ := h _ (List.getElem_mem hk')
    rw [sumH, e, hy]
    show 0 ≤ sumH ys k + m ∧ sumH ys k + m ≤ _
    omega
/-- What TeacherHours tells. -/
def HoF (ps : List Les) (ys : List (List Int)) (t : Bool) : Prop := (okLs ps ∧ ys = hoL ps 21 ∧ t = true) ∨ (¬ okLs ps ∧ ys = [] ∧ t = false)
theorem hoF_or (ps : List Les) : ∃ ys t, HoF ps ys t := by
  by_cases h : okLs ps
  · exact ⟨_, _, .inl ⟨h, rfl, rfl⟩⟩
  · exact ⟨_, _, .inr ⟨h, rfl, rfl⟩⟩
theorem hoF_sum {ps : List Les} {ys : List (List Int)} (h : HoF ps ys true) : sumH ys ys.length = sumM ps ps.length ∧ (∀ y ∈ ys, rowH y) ∧ ys.length ≤ 21 ∧ okLs ps := by
  rcases h with ⟨ho, rfl, _⟩ | ⟨_, _, h⟩
  · obtain ⟨h1, h2⟩ := hoL_rows ho 21 (Nat.le_refl _)
    exact ⟨by rw [h1]; exact allT_all ho _ (Nat.le_refl _), h2, (hoL_len ps 21).1, ho⟩
  · simp at h
theorem shift_back {ps qs : List Les} {id d b : Int} (h : ShF ps id d b qs true) (i : Nat) (hi : i < ps.length) (he : ps[i].id = id) : ∃ rs t, ShF qs id ps[i].day ps[i].bgn rs t ∧ (t = true → rs = ps) := by
  rcases h with ⟨k, ho, hk, hf, rfl, _⟩ | ⟨_, _, h⟩
  · obtain ⟨h1, h2, h3⟩ := hk
    have hik : i = k := by
      refine Classical.byContradiction fun e => ?_
      exact okLs_ne ho i k hi h1 e (he.trans h2.symm)
    subst hik
    obtain ⟨rs, t, hs⟩ := shF_or (ps.set i (atL (leD ps i) d b)) id ps[i].day ps[i].bgn
    refine ⟨rs, t, hs, fun ht => ?_⟩
    subst ht
    rcases hs with ⟨k', _, hk', _, rfl, _⟩ | ⟨_, _, h⟩
    · have hfi : fndAt (ps.set i (atL (leD ps i) d b)) id i := by
        refine ⟨by rw [List.length_set]; exact hi, ?_, fun j hj hlt => ?_⟩
        · rw [List.getElem_set_self]; show (leD ps i).id = id; rw [leD_at ps i hi]; exact he
        · rw [List.getElem_set_ne (by omega)]; exact h3 j (by rw [List.length_set] at hj; exact hj) hlt
      obtain rfl := fnd_one hfi hk'
      rw [leD_set_self ps i _ hi, leD_at ps i hi, List.set_set]
      show ps.set i ps[i] = ps
      exact List.set_getElem_self hi
    · simp at h
  · simp at h
end Go.Proofs.YtblbeoeklkcamaaDoor
