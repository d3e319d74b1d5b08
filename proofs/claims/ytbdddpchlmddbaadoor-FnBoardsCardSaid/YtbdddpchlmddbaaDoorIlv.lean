/- The places of a board, lines and spaces in turn. -/
import Derived.Test.YtbdddpchlmddbaaDoorBcarry
namespace Go.Proofs.YtbdddpchlmddbaaDoor
set_option linter.unusedVariables false
open Go.RowKit

def ilv (ls ss : List Int) : List Int := (List.range (2 * ls.length)).map fun i => if i % 2 = 0 then ls.getD (i / 2) 0 else ss.getD (i / 2) 0
def evs (ps : List Int) : List Int := (List.range (ps.length / 2)).map fun k => ps.getD (2 * k) 0
def ods (ps : List Int) : List Int := (List.range (ps.length / 2)).map fun k => ps.getD (2 * k + 1) 0
def mkP (p : Nat) : Int := if p % 2 = 0 then 5 else 2
theorem ilv_len (ls ss : List Int) : (ilv ls ss).length = 2 * ls.length := by simp [ilv]
theorem evs_len (ps : List Int) : (evs ps).length = ps.length / 2 := by simp [evs]
theorem ods_len (ps : List Int) : (ods ps).length = ps.length / 2 := by simp [ods]
theorem ilv_at (ls ss : List Int) (i : Nat) (h : i < (ilv ls ss).length) : (ilv ls ss)[i] = if i % 2 = 0 then ls.getD (i / 2) 0 else ss.getD (i / 2) 0 := by simp [ilv]
theorem ilv_ev (ls ss : List Int) (k : Nat) (h : 2 * k < (ilv ls ss).length) (h1 : k < ls.length) : (ilv ls ss)[2 * k] = ls[k] := by
  rw [ilv_at, if_pos (by omega), show 2 * k / 2 = k by omega, getDi_at ls k h1]
theorem ilv_od (ls ss : List Int) (k : Nat) (h : 2 * k + 1 < (ilv ls ss).length) (h1 : k < ss.length) : (ilv ls ss)[2 * k + 1] = ss[k] := by
  rw [ilv_at, if_neg (by omega), show (2 * k + 1) / 2 = k by omega, getDi_at ss k h1]
theorem evs_at (ps : List Int) (k : Nat) (h : k < (evs ps).length) (h1 : 2 * k < ps.length) : (evs ps)[k] = ps[2 * k] := by
  simp only [evs, List.getElem_map, List.getElem_range]; exact getDi_at ps _ h1
theorem ods_at (ps : List Int) (k : Nat) (h : k < (ods ps).length) (h1 : 2 * k + 1 < ps.length) : (ods ps)[k] = ps[2 * k + 1] := by
  simp only [ods, List.getElem_map, List.getElem_range]; exact getDi_at ps _ h1
theorem evs_ilv (ls ss : List Int) : evs (ilv ls ss) = ls := by
  refine List.ext_getElem (by rw [evs_len, ilv_len]; omega) fun k h1 h2 => ?_
  have h3 : 2 * k < (ilv ls ss).length := by rw [ilv_len]; omega
  rw [evs_at _ k h1 h3, ilv_ev ls ss k h3 h2]
theorem ods_ilv (ls ss : List Int) (hs : ss.length = ls.length) : ods (ilv ls ss) = ss := by
  refine List.ext_getElem (by rw [ods_len, ilv_len]; omega) fun k h1 h2 => ?_
  have h3 : 2 * k + 1 < (ilv ls ss).length := by rw [ilv_len]; omega
  rw [ods_at _ k h1 h3, ilv_od ls ss k h3 h2]
/-- An index of the places is one of a line or of a space. -/
theorem ev_or (i : Nat) : (∃ k, i = 2 * k) ∨ ∃ k, i = 2 * k + 1 := by
  rcases Nat.mod_two_eq_zero_or_one i with h | h
  · exact .inl ⟨i / 2, by omega⟩
  · exact .inr ⟨i / 2, by omega⟩
theorem ilv_evs (ps : List Int) (n : Nat) (h : ps.length = 2 * n) : ilv (evs ps) (ods ps) = ps := by
  refine List.ext_getElem (by rw [ilv_len, evs_len]; omega) fun i h1 h2 => ?_
  rw [ilv_len, evs_len] at h1
  rcases ev_or i with ⟨k, rfl⟩ | ⟨k, rfl⟩
  · have h5 : k < (evs ps).length := by rw [evs_len]; omega
    rw [ilv_ev _ _ k _ h5, evs_at ps k h5 h2]
  · have h5 : k < (ods ps).length := by rw [ods_len]; omega
    rw [ilv_od _ _ k _ h5, ods_at ps k h5 h2]
def ctr (ps : List Int) : Prop := ∀ k (h : k < ps.length), 0 ≤ ps[k] ∧ ps[k] ≤ 30
theorem ctr_ilv (ls ss : List Int) (hs : ss.length = ls.length) : ctr (ilv ls ss) ↔ ctr ls ∧ ctr ss := by
  constructor
  · intro h
    refine ⟨fun k hk => ?_, fun k hk => ?_⟩
    · have h3 : 2 * k < (ilv ls ss).length := by rw [ilv_len]; omega
      rw [← ilv_ev ls ss k h3 hk]; exact h _ h3
    · have h3 : 2 * k + 1 < (ilv ls ss).length := by rw [ilv_len]; omega
      rw [← ilv_od ls ss k h3 hk]; exact h _ h3
  · rintro ⟨h1, h2⟩ i hi
    have hi' := hi
    rw [ilv_len] at hi'
    rcases ev_or i with ⟨k, rfl⟩ | ⟨k, rfl⟩
    · have h5 : k < ls.length := by omega
      rw [ilv_ev ls ss k hi h5]; exact h1 k h5
    · have h5 : k < ss.length := by omega
      rw [ilv_od ls ss k hi h5]; exact h2 k h5
theorem okB_iff (ls ss : List Int) : okB ls ss ↔ ((1 ≤ ls.length ∧ ls.length ≤ 6) ∧ ss.length = ls.length) ∧ ctr ls ∧ ctr ss := by
  constructor
  · rintro ⟨h1, h2, h3⟩
    exact ⟨⟨h1, h2⟩, fun k hk => (h3 k hk (by rw [h2]; exact hk)).1, fun k hk => (h3 k (by rw [← h2]; exact hk) hk).2⟩
  · rintro ⟨⟨h1, h2⟩, h3, h4⟩
    exact ⟨h1, h2, fun k h5 h6 => ⟨h3 k h5, h4 k h6⟩⟩
theorem okB_ilv (ls ss : List Int) : okB ls ss ↔ ((1 ≤ ls.length ∧ ls.length ≤ 6) ∧ ss.length = ls.length) ∧ ctr (ilv ls ss) := by
  rw [okB_iff]
  constructor
  · rintro ⟨h1, h2⟩; exact ⟨h1, (ctr_ilv ls ss h1.2).2 h2⟩
  · rintro ⟨h1, h2⟩; exact ⟨h1, (ctr_ilv ls ss h1.2).1 h2⟩
/-- Some carries, or borrows, from a place. -/
def cyP (p : Nat) (t : Int) (ps : List Int) : List Int := (ps.set p (ps.getD p 0 - t * mkP p)).set (p + 1) (ps.getD (p + 1) 0 + t)
theorem cyP_len (p : Nat) (t : Int) (ps : List Int) : (cyP p t ps).length = ps.length := by simp [cyP]
theorem set2_at (ps : List Int) (p i : Nat) (x y : Int) (h : i < ((ps.set p x).set (p + 1) y).length) : ((ps.set p x).set (p + 1) y)[i] = if i = p + 1 then y else if i = p then x else ps.getD i 0 := by
  have h' : i < ps.length := by simpa using h
  by_cases h1 : i = p + 1
  · subst h1; rw [if_pos rfl]; simp
  · rw [if_neg h1, List.getElem_set_ne (by omega)]
    by_cases h2 : i = p
    · subst h2; rw [if_pos rfl]; simp
    · rw [if_neg h2, List.getElem_set_ne (by omega), getDi_at ps i h']
theorem cyP_at (p : Nat) (t : Int) (ps : List Int) (i : Nat) (h : i < (cyP p t ps).length) : (cyP p t ps)[i] = if i = p + 1 then ps.getD (p + 1) 0 + t else if i = p then ps.getD p 0 - t * mkP p else ps.getD i 0 := set2_at ps p i _ _ h
theorem getD_seti (l : List Int) (k i : Nat) (x : Int) (h : i < l.length) : (l.set k x).getD i 0 = if i = k then x else l.getD i 0 := by
  rw [getDi_at _ i (by rw [List.length_set]; exact h), getDi_at l i h, List.getElem_set]
  by_cases e : k = i
  · rw [if_pos e, if_pos e.symm]
  · rw [if_neg e, if_neg (fun e' => e e'.symm)]
theorem ilv_getD (ls ss : List Int) (i : Nat) (h : i < 2 * ls.length) : (ilv ls ss).getD i 0 = if i % 2 = 0 then ls.getD (i / 2) 0 else ss.getD (i / 2) 0 := by
  rw [getDi_at _ i (by rw [ilv_len]; exact h), ilv_at]
theorem cyP_line (ls ss : List Int) (hs : ss.length = ls.length) (k : Nat) (hk : k < ls.length) (t : Int) : cyP (2 * k) t (ilv ls ss) = ilv (mvL true k t ls) (mvS true k t ss) := by
  refine List.ext_getElem (by rw [cyP_len, ilv_len, ilv_len, mvL_len]) fun i h1 h2 => ?_
  rw [cyP_at, ilv_at]
  rw [cyP_len, ilv_len] at h1
  unfold mvL mvS mkP
  rw [if_pos rfl, if_pos rfl, if_pos (show 2 * k % 2 = 0 by omega), ilv_getD ls ss i h1, ilv_getD ls ss (2 * k) (by omega), ilv_getD ls ss (2 * k + 1) (by omega), if_pos (show 2 * k % 2 = 0 by omega), if_neg (show ¬ (2 * k + 1) % 2 = 0 by omega), show 2 * k / 2 = k by omega, show (2 * k + 1) / 2 = k by omega, getD_seti ls k (i / 2) _ (by omega), getD_seti ss k (i / 2) _ (by omega)]
  rcases ev_or i with ⟨j, rfl⟩ | ⟨j, rfl⟩
  · rw [if_neg (by omega), if_pos (show 2 * j % 2 = 0 by omega), if_pos (show 2 * j % 2 = 0 by omega), show 2 * j / 2 = j by omega]
    by_cases e : j = k
    · subst e; rw [if_pos rfl, if_pos rfl]; omega
    · rw [if_neg (by omega), if_neg e]
  · rw [if_neg (show ¬ (2 * j + 1) % 2 = 0 by omega), if_neg (show ¬ (2 * j + 1) % 2 = 0 by omega), show (2 * j + 1) / 2 = j by omega]
    by_cases e : j = k
    · subst e; rw [if_pos rfl, if_pos rfl]
    · rw [if_neg (by omega), if_neg (by omega), if_neg e]
theorem cyP_space (ls ss : List Int) (hs : ss.length = ls.length) (k : Nat) (hk : k + 1 < ls.length) (t : Int) : cyP (2 * k + 1) t (ilv ls ss) = ilv (mvL false k t ls) (mvS false k t ss) := by
  refine List.ext_getElem (by rw [cyP_len, ilv_len, ilv_len, mvL_len]) fun i h1 h2 => ?_
  rw [cyP_at, ilv_at]
  rw [cyP_len, ilv_len] at h1
  unfold mvL mvS mkP
  rw [if_neg (show ¬ (false = true) by simp), if_neg (show ¬ (false = true) by simp), if_neg (show ¬ (2 * k + 1) % 2 = 0 by omega), ilv_getD ls ss i h1, ilv_getD ls ss (2 * k + 1) (by omega), ilv_getD ls ss (2 * k + 1 + 1) (by omega), if_neg (show ¬ (2 * k + 1) % 2 = 0 by omega), if_pos (show (2 * k + 1 + 1) % 2 = 0 by omega), show (2 * k + 1) / 2 = k by omega, show (2 * k + 1 + 1) / 2 = k + 1 by omega, getD_seti ls (k + 1) (i / 2) _ (by omega), getD_seti ss k (i / 2) _ (by omega)]
  rcases ev_or i with ⟨j, rfl⟩ | ⟨j, rfl⟩
  · rw [if_pos (show 2 * j % 2 = 0 by omega), if_pos (show 2 * j % 2 = 0 by omega), show 2 * j / 2 = j by omega]
    by_cases e : j = k + 1
    · subst e; rw [if_pos (by omega), if_pos rfl]
    · rw [if_neg (by omega), if_neg (by omega), if_neg e]
  · rw [if_neg (by omega), if_neg (show ¬ (2 * j + 1) % 2 = 0 by omega), if_neg (show ¬ (2 * j + 1) % 2 = 0 by omega), show (2 * j + 1) / 2 = j by omega]
    by_cases e : j = k
    · subst e; rw [if_pos rfl, if_pos rfl]; omega
    · rw [if_neg (by omega), if_neg e]
/-- Behind carries from one place two counts are new. -/
theorem cyP_ctr (p : Nat) (t : Int) (ps : List Int) (hp : p + 1 < ps.length) (h : ctr ps) : ctr (cyP p t ps) ↔ (0 ≤ (cyP p t ps).getD p 0 ∧ (cyP p t ps).getD p 0 ≤ 30) ∧ (0 ≤ (cyP p t ps).getD (p + 1) 0 ∧ (cyP p t ps).getD (p + 1) 0 ≤ 30) := by
  constructor
  · intro h1
    rw [getDi_at _ p (by rw [cyP_len]; omega), getDi_at _ (p + 1) (by rw [cyP_len]; omega)]
    exact ⟨h1 _ _, h1 _ _⟩
  · rintro ⟨h1, h2⟩ i hi
    rw [cyP_at]
    rw [getDi_at _ p (by rw [cyP_len]; omega), cyP_at, if_neg (by omega), if_pos rfl] at h1
    rw [getDi_at _ (p + 1) (by rw [cyP_len]; omega), cyP_at, if_pos rfl] at h2
    rw [cyP_len] at hi
    by_cases e : i = p + 1
    · rw [if_pos e]; exact h2
    · rw [if_neg e]
      by_cases e2 : i = p
      · rw [if_pos e2]; exact h1
      · rw [if_neg e2, getDi_at ps i hi]; exact h i hi
end Go.Proofs.YtbdddpchlmddbaaDoor
