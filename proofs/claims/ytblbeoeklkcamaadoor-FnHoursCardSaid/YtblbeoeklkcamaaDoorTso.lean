/- Lessons: sorted by insertion; slots; what shifting and the first slot tell. -/
import Derived.Test.YtblbeoeklkcamaaDoorTls
namespace Go.Proofs.YtblbeoeklkcamaaDoor
set_option linter.unusedVariables false
open Go.RowKit

/-- x set into a list at a place. -/
def insAt (D : List Les) (x : Les) (j : Nat) : List Les := D.take j ++ x :: D.drop j
/-- From place j downwards: where x goes. -/
def insJ (D : List Les) (x : Les) : Nat → Nat
  | 0 => 0
  | j + 1 => if x.bgn < (leD D j).bgn then insJ D x j else j + 1
def insL (D : List Les) (x : Les) : List Les := insAt D x (insJ D x D.length)
def srtL (hs : List Les) : List Les := hs.foldl insL []
theorem insJ_go {D : List Les} {x : Les} {j : Nat} (h : x.bgn < (leD D j).bgn) : insJ D x (j + 1) = insJ D x j := by rw [insJ, if_pos h]
theorem insJ_stop {D : List Les} {x : Les} {j : Nat} (h : ¬ x.bgn < (leD D j).bgn) : insJ D x (j + 1) = j + 1 := by rw [insJ, if_neg h]
theorem insJ_le (D : List Les) (x : Les) : ∀ j, insJ D x j ≤ j
  | 0 => Nat.le_refl _
  | j + 1 => by
    rw [insJ]; split
    · exact Nat.le_succ_of_le (insJ_le D x j)
    · exact Nat.le_refl _
theorem insAt_len (D : List Les) (x : Les) (j : Nat) (h : j ≤ D.length) : (insAt D x j).length = D.length + 1 := by
  simp [insAt]; omega
theorem insL_len (D : List Les) (x : Les) : (insL D x).length = D.length + 1 := insAt_len D x _ (insJ_le D x _)
theorem srtL_snoc (hs : List Les) (x : Les) : srtL (hs ++ [x]) = insL (srtL hs) x := by simp [srtL]
theorem srtL_take (hs : List Les) (k : Nat) (h : k < hs.length) : srtL (hs.take (k + 1)) = insL (srtL (hs.take k)) hs[k] := by
  rw [List.take_succ_eq_append_getElem h, srtL_snoc]
theorem srtL_len_aux : ∀ (n : Nat) (hs : List Les), hs.length = n → (srtL hs).length = n
  | 0, hs, h => by have := List.length_eq_zero_iff.1 h; subst this; rfl
  | n + 1, hs, h => by
    have e : hs = hs.take n ++ [hs[n]] := by rw [← List.take_succ_eq_append_getElem (by omega), List.take_of_length_le (by omega)]
    rw [e, srtL_snoc, insL_len, srtL_len_aux n (hs.take n) (by simp; omega)]
theorem srtL_len (hs : List Les) : (srtL hs).length = hs.length := srtL_len_aux _ hs rfl
theorem insAt_mem {D : List Les} {x y : Les} {j : Nat} (h : y ∈ insAt D x j) : y = x ∨ y ∈ D := by
  rcases List.mem_append.1 h with h | h
  · exact .inr (List.mem_of_mem_take h)
  · rcases List.mem_cons.1 h with h | h
    · exact .inl h
    · exact .inr (List.mem_of_mem_drop h)
theorem srtL_mem_aux : ∀ (n : Nat) (hs : List Les), hs.length = n → ∀ y ∈ srtL hs, y ∈ hs
  | 0, hs, h, y, hy => by have := List.length_eq_zero_iff.1 h; subst this; simp [srtL] at hy
  | n + 1, hs, h, y, hy => by
    have e : hs = hs.take n ++ [hs[n]] := by rw [← List.take_succ_eq_append_getElem (by omega), List.take_of_length_le (by omega)]
    rw [e, srtL_snoc] at hy
    rcases insAt_mem hy with rfl | hy
    · exact List.getElem_mem _
    · exact List.mem_of_mem_take (srtL_mem_aux n (hs.take n) (by simp; omega) y hy)
theorem srtL_mem (hs : List Les) (y : Les) (h : y ∈ srtL hs) : y ∈ hs := srtL_mem_aux _ hs rfl y h
/-- One exchange: x goes a place down. -/
theorem ins_swap (D R : List Les) (x : Les) (m : Nat) (h : m < D.length) : (((insAt D x (m + 1) ++ R).set (m + 1) (leD D m)).set m x) = insAt D x m ++ R := by
  rw [leD_at D m h]
  have hl : (D.take (m + 1)).length = m + 1 := by simp; omega
  have hl2 : (D.take m).length = m := by simp; omega
  apply List.ext_getElem?
  intro i
  have hD : D.drop m = D[m] :: D.drop (m + 1) := List.drop_eq_getElem_cons h
  have e0 : insAt D x (m + 1) ++ R = D.take m ++ (D[m] :: x :: (D.drop (m + 1) ++ R)) := by
    unfold insAt
    rw [List.take_succ_eq_append_getElem h, List.append_assoc, List.append_assoc]
    rfl
  have e1 : insAt D x m ++ R = D.take m ++ (x :: D[m] :: (D.drop (m + 1) ++ R)) := by
    unfold insAt
    rw [hD, List.append_assoc]
    rfl
  rw [e0, e1]
  rcases Nat.lt_trichotomy i m with hi | rfl | hi
  · rw [List.getElem?_set_ne (by omega), List.getElem?_set_ne (by omega), List.getElem?_append_left (by omega), List.getElem?_append_left (by omega)]
  · rw [List.getElem?_set_self (by simp; omega), List.getElem?_append_right (by omega), hl2, Nat.sub_self]
    rfl
  · rw [List.getElem?_set_ne (by omega)]
    by_cases e : i = m + 1
    · subst e
      rw [List.getElem?_set_self (by simp; omega), List.getElem?_append_right (by omega), hl2, show m + 1 - m = 1 by omega]
      rfl
    · rw [List.getElem?_set_ne (by omega), List.getElem?_append_right (by omega), List.getElem?_append_right (by omega), hl2]
      obtain ⟨d, hd⟩ : ∃ d, i - m = d + 2 := ⟨i - m - 2, by omega⟩
      rw [hd]
      rfl
/-- The lessons of a class on a day, in the order of their beginnings. -/
def heldL (ps : List Les) (c d : Int) : List Les := ps.filter fun x => decide (x.cls = c ∧ x.day = d)
def dayF (ps : List Les) (c d : Int) : List Les := srtL (heldL ps c d)
theorem heldL_yes (ps : List Les) (c d : Int) (k : Nat) (h : k < ps.length) (hc : ps[k].cls = c ∧ ps[k].day = d) : heldL (ps.take (k + 1)) c d = heldL (ps.take k) c d ++ [ps[k]] := by
  unfold heldL; rw [List.take_succ_eq_append_getElem h, List.filter_append]; simp [hc]
theorem heldL_no (ps : List Les) (c d : Int) (k : Nat) (h : k < ps.length) (hc : ¬ (ps[k].cls = c ∧ ps[k].day = d)) : heldL (ps.take (k + 1)) c d = heldL (ps.take k) c d := by
  unfold heldL; rw [List.take_succ_eq_append_getElem h, List.filter_append]; simp [hc]
theorem heldL_len (ps : List Les) (c d : Int) : (heldL ps c d).length ≤ ps.length := List.length_filter_le _ _
theorem dayF_len (ps : List Les) (c d : Int) : (dayF ps c d).length ≤ ps.length := by unfold dayF; rw [srtL_len]; exact heldL_len ps c d
theorem dayF_mem {ps : List Les} {c d : Int} {y : Les} (h : y ∈ dayF ps c d) : y ∈ ps := (List.mem_filter.1 (srtL_mem _ _ h)).1
theorem dayF_yes (ps : List Les) (c d : Int) (k : Nat) (h : k < ps.length) (hc : ps[k].cls = c ∧ ps[k].day = d) : dayF (ps.take (k + 1)) c d = insL (dayF (ps.take k) c d) ps[k] := by
  unfold dayF; rw [heldL_yes ps c d k h hc, srtL_snoc]
theorem dayF_no (ps : List Les) (c d : Int) (k : Nat) (h : k < ps.length) (hc : ¬ (ps[k].cls = c ∧ ps[k].day = d)) : dayF (ps.take (k + 1)) c d = dayF (ps.take k) c d := by
  unfold dayF; rw [heldL_no ps c d k h hc]
/-- What ShiftLesson tells. -/
def ShF (ps : List Les) (id d b : Int) (qs : List Les) (t : Bool) : Prop := (∃ k, okLs ps ∧ fndAt ps id k ∧ fitP ps k d b ∧ qs = ps.set k (atL (leD ps k) d b) ∧ t = true) ∨ ((¬ ∃ k, okLs ps ∧ fndAt ps id k ∧ fitP ps k d b) ∧ qs = [] ∧ t = false)
theorem shF_or (ps : List Les) (id d b : Int) : ∃ qs t, ShF ps id d b qs t := by
  by_cases h : ∃ k, okLs ps ∧ fndAt ps id k ∧ fitP ps k d b
  · obtain ⟨k, h1, h2, h3⟩ := h
    exact ⟨_, _, .inl ⟨k, h1, h2, h3, rfl, rfl⟩⟩
  · exact ⟨_, _, .inr ⟨h, rfl, rfl⟩⟩
theorem shF_len {ps qs : List Les} {id d b : Int} {t : Bool} (h : ShF ps id d b qs t) : qs.length ≤ 12 := by
  rcases h with ⟨k, h1, _, _, rfl, _⟩ | ⟨_, rfl, _⟩
  · rw [List.length_set]; exact okLs_len h1
  · simp
/-- Slots: their days and beginnings. -/
def slD (s : Nat) : Int := ((s / 45 : Nat) : Int)
def slB (s : Nat) : Int := 480 + 15 * ((s % 45 : Nat) : Int)
theorem slD_at (D j : Nat) (h : j < 45) : slD (45 * D + j) = (D : Int) := by unfold slD; congr 1; omega
theorem slB_at (D j : Nat) (h : j < 45) : slB (45 * D + j) = 480 + 15 * (j : Int) := by unfold slB; congr 3; omega
def slF (ps : List Les) (k s : Nat) : Prop := fitP ps k (slD s) (slB s)
/-- What FirstSlot tells. -/
def SlF (ps : List Les) (id d b : Int) (t : Bool) : Prop := (∃ k s, okLs ps ∧ fndAt ps id k ∧ s < 315 ∧ slF ps k s ∧ (∀ s', s' < s → ¬ slF ps k s') ∧ d = slD s ∧ b = slB s ∧ t = true) ∨ ((¬ ∃ k s, okLs ps ∧ fndAt ps id k ∧ s < 315 ∧ slF ps k s) ∧ d = 0 ∧ b = 0 ∧ t = false)
theorem slF_or (ps : List Les) (id : Int) : ∃ d b t, SlF ps id d b t := by
  by_cases h : ∃ k s, okLs ps ∧ fndAt ps id k ∧ s < 315 ∧ slF ps k s
  · obtain ⟨k, s, h1, h2, h3, h4⟩ := h
    obtain ⟨p, hp, hp2, hp3⟩ := first_idx 315 (fun s => slF ps k s) ⟨s, h3, h4⟩
    exact ⟨_, _, _, .inl ⟨k, p, h1, h2, hp, hp2, hp3, rfl, rfl, rfl⟩⟩
  · exact ⟨_, _, _, .inr ⟨h, rfl, rfl, rfl⟩⟩
/-- For the lesson at k: the first slot that fits, or none. -/
theorem SlF.at {ps : List Les} {id d b : Int} {t : Bool} {k : Nat} (h : SlF ps id d b t) (ho : okLs ps) (hk : fndAt ps id k) : (∃ s, s < 315 ∧ slF ps k s ∧ (∀ s', s' < s → ¬ slF ps k s') ∧ d = slD s ∧ b = slB s ∧ t = true) ∨ ((∀ s, s < 315 → ¬ slF ps k s) ∧ d = 0 ∧ b = 0 ∧ t = false) := by
  rcases h with ⟨k', s, h1, h2, h3⟩ | ⟨h1, h2⟩
  · obtain rfl := fnd_one hk h2
    exact .inl ⟨s, h3⟩
  · exact .inr ⟨fun s hs hf => h1 ⟨k, s, ho, hk, hs, hf⟩, h2⟩
theorem SlF.no {ps : List Les} {id d b : Int} {t : Bool} (h : SlF ps id d b t) (hn : ¬ ∃ k, okLs ps ∧ fndAt ps id k) : d = 0 ∧ b = 0 ∧ t = false := by
  rcases h with ⟨k, s, h1, h2, _⟩ | ⟨_, h2⟩
  · exact absurd ⟨k, h1, h2⟩ hn
  · exact h2
theorem leD_set_self (ps : List Les) (k : Nat) (x : Les) (h : k < ps.length) : leD (ps.set k x) k = x := by rw [leD_at _ _ (by simpa using h), List.getElem_set_self]
theorem leD_set_ne (ps : List Les) (k j : Nat) (x : Les) (hj : j < ps.length) (h : j ≠ k) : leD (ps.set k x) j = leD ps j := by rw [leD_at _ _ (by simpa using hj), List.getElem_set_ne (by omega), leD_at _ _ hj]
/-- The program's test of another lesson, in the list itself and in the list in which it is shifted. -/
theorem fit_list {ps : List Les} {k : Nat} {d b : Int} (ho : okLs ps) (hk : k < ps.length) (hx : okLe (atL (leD ps k) d b)) : (∃ j, j < ps.length ∧ (leD ps j).id ≠ (atL (leD ps k) d b).id ∧ clashB (atL (leD ps k) d b) (leD ps j) = true) ↔ ¬ fitP ps k d b := by
  constructor
  · rintro ⟨j, h1, h2, h3⟩ ⟨_, hf⟩
    have hjk : j ≠ k := fun e => by subst e; exact h2 rfl
    rw [hf j h1 hjk] at h3; simp at h3
  · intro hf
    refine Classical.byContradiction fun hc => hf ⟨hx, fun j h1 hjk => ?_⟩
    cases e : clashB (atL (leD ps k) d b) (leD ps j) with
    | false => rfl
    | true =>
      refine absurd ⟨j, h1, ?_, e⟩ hc
      show (leD ps j).id ≠ (leD ps k).id
      rw [leD_at ps j h1, leD_at ps k hk]
      exact okLs_ne ho j k h1 hk hjk
theorem fit_set {ps : List Les} {k : Nat} {d b : Int} (ho : okLs ps) (hk : k < ps.length) (hx : okLe (atL (leD ps k) d b)) : (∃ j, j < (ps.set k (atL (leD ps k) d b)).length ∧ (leD (ps.set k (atL (leD ps k) d b)) j).id ≠ (atL (leD ps k) d b).id ∧ clashB (atL (leD ps k) d b) (leD (ps.set k (atL (leD ps k) d b)) j) = true) ↔ ¬ fitP ps k d b := by
  rw [← fit_list ho hk hx]
  constructor
  · rintro ⟨j, h1, h2, h3⟩
    rw [List.length_set] at h1
    have hjk : j ≠ k := fun e => by subst e; rw [leD_set_self ps j _ h1] at h2; exact h2 rfl
    rw [leD_set_ne ps k j _ h1 hjk] at h2 h3
    exact ⟨j, h1, h2, h3⟩
  · rintro ⟨j, h1, h2, h3⟩
    have hjk : j ≠ k := fun e => by subst e; exact h2 rfl
    refine ⟨j, by rw [List.length_set]; exact h1, ?_⟩
    rw [leD_set_ne ps k j _ h1 hjk]
    exact ⟨h2, h3⟩
theorem lesC_set (ps : List Les) (k : Nat) (hk : k < ps.length) (p : Les) : (((((((flatC lesC ps).set (k * 7) (.int .i64 p.id)).set (k * 7 + 1) (.int .i64 p.cls)).set (k * 7 + 2) (.int .i64 p.tch)).set (k * 7 + 3) (.int .i64 p.room)).set (k * 7 + 4) (.int .i64 p.day)).set (k * 7 + 5) (.int .i64 p.bgn)).set (k * 7 + 6) (.int .i64 p.mins) = flatC lesC (ps.set k p) := by
  have hx := flatC_len lesC_len ps
  refine flatC_setf lesC_len (by omega) _ ps k p (by simp only [List.length_set]; exact hx) (fun i hi j hj e => ?_) (fun _ j hj => ?_)
  · rw [List.getElem?_set_ne (by omega), List.getElem?_set_ne (by omega), List.getElem?_set_ne (by omega), List.getElem?_set_ne (by omega), List.getElem?_set_ne (by omega), List.getElem?_set_ne (by omega), List.getElem?_set_ne (by omega)]
    exact flatC_at lesC_len ps i hi j hj
  · have hj' : j = 0 ∨ j = 1 ∨ j = 2 ∨ j = 3 ∨ j = 4 ∨ j = 5 ∨ j = 6 := by omega
    rcases hj' with rfl | rfl | rfl | rfl | rfl | rfl | rfl
    · simp only [Nat.add_zero]
      rw [List.getElem?_set_ne (by omega), List.getElem?_set_ne (by omega), List.getElem?_set_ne (by omega), List.getElem?_set_ne (by omega), List.getElem?_set_ne (by omega), List.getElem?_set_ne (by omega), List.getElem?_set_self (by (try simp only [List.length_set]); omega)]; rfl
    · rw [List.getElem?_set_ne (by omega), List.getElem?_set_ne (by omega), List.getElem?_set_ne (by omega), List.getElem?_set_ne (by omega), List.getElem?_set_ne (by omega), List.getElem?_set_self (by (try simp only [List.length_set]); omega)]; rfl
    · rw [List.getElem?_set_ne (by omega), List.getElem?_set_ne (by omega), List.getElem?_set_ne (by omega), List.getElem?_set_ne (by omega), List.getElem?_set_self (by (try simp only [List.length_set]); omega)]; rfl
    · rw [List.getElem?_set_ne (by omega), List.getElem?_set_ne (by omega), List.getElem?_set_ne (by omega), List.getElem?_set_self (by (try simp only [List.length_set]); omega)]; rfl
    · rw [List.getElem?_set_ne (by omega), List.getElem?_set_ne (by omega), List.getElem?_set_self (by (try simp only [List.length_set]); omega)]; rfl
    · rw [List.getElem?_set_ne (by omega), List.getElem?_set_self (by (try simp only [List.length_set]); omega)]; rfl
    · rw [List.getElem?_set_self (by (try simp only [List.length_set]); omega)]; rfl
end Go.Proofs.YtblbeoeklkcamaaDoor
