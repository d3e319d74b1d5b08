/- The plain form of a board by carries from its places. -/
import Derived.Test.YtbdddpchlmddbaaDoorJone
import Derived.Test.YtbdddpchlmddbaaDoorPnf
namespace Go.Proofs.YtbdddpchlmddbaaDoor
set_option linter.unusedVariables false
open Go.RowKit

theorem mkP_ev' (k : Nat) : mkP (2 * k) = 5 := by unfold mkP; rw [if_pos (by omega)]
theorem mkP_od' (k : Nat) : mkP (2 * k + 1) = 2 := by unfold mkP; rw [if_neg (by omega)]
/-- Behind the carries of p places: the counts, how many carries. -/
def pbS (ps : List Int) : Nat → List Int × Int
  | 0 => (ps, 0)
  | p + 1 => (cyP p ((pbS ps p).1.getD p 0 / mkP p) (pbS ps p).1, (pbS ps p).2 + (pbS ps p).1.getD p 0 / mkP p)
theorem pbS_len (ps : List Int) : ∀ p, (pbS ps p).1.length = ps.length
  | 0 => rfl
  | p + 1 => by show (cyP _ _ _).length = _; rw [cyP_len, pbS_len ps p]
/-- The carries from a place are possible. -/
def pbG (ps : List Int) (p : Nat) : Prop := 0 < (pbS ps p).1.getD p 0 / mkP p → p + 1 < ps.length ∧ ctr (pbS ps (p + 1)).1
theorem cyP_zero (p : Nat) (ps : List Int) : cyP p 0 ps = ps := by
  refine List.ext_getElem (cyP_len _ _ _) fun i h1 h2 => ?_
  rw [cyP_at, getDi_at ps i h2]
  by_cases e : i = p + 1
  · subst e; rw [if_pos rfl, getDi_at ps _ h2]; omega
  · rw [if_neg e]
    by_cases e2 : i = p
    · subst e2; rw [if_pos rfl, getDi_at ps _ h2]; omega
    · rw [if_neg e2]
theorem pbS_still (ps : List Int) (p : Nat) (h : (pbS ps p).1.getD p 0 / mkP p = 0) : pbS ps (p + 1) = pbS ps p := by
  show (cyP p ((pbS ps p).1.getD p 0 / mkP p) (pbS ps p).1, (pbS ps p).2 + (pbS ps p).1.getD p 0 / mkP p) = _
  rw [h, cyP_zero, Int.add_zero]
theorem pbS_low (ps : List Int) : ∀ p j, j < p → j < ps.length → (pbS ps p).1.getD j 0 < mkP j := by
  intro p
  induction p with
  | zero => intro j h; omega
  | succ p ih =>
    intro j h1 h2
    show (cyP p ((pbS ps p).1.getD p 0 / mkP p) (pbS ps p).1).getD j 0 < _
    rw [getDi_at _ j (by rw [cyP_len, pbS_len]; exact h2), cyP_at, if_neg (by omega)]
    by_cases e : j = p
    · subst e; rw [if_pos rfl]
      generalize (pbS ps j).1.getD j 0 = x
      unfold mkP
      split <;> omega
    · rw [if_neg e]; exact ih j (by omega) h2
theorem ctr_pos {ps : List Int} (h : ctr ps) (p : Nat) : 0 ≤ ps.getD p 0 ∧ ps.getD p 0 ≤ 30 := by
  rcases Nat.lt_or_ge p ps.length with h1 | h1
  · rw [getDi_at ps p h1]; exact h p h1
  · rw [List.getD_eq_getElem?_getD, List.getElem?_eq_none h1]; simp
theorem div_pos' {x : Int} (h : 0 ≤ x ∧ x ≤ 30) (p : Nat) : 0 ≤ x / mkP p ∧ x / mkP p ≤ 15 := by
  unfold mkP
  split <;> omega
/-- As long as all carries are possible the counts are. -/
theorem pbS_ctr (ps : List Int) (h : ctr ps) : ∀ p, (∀ j, j < p → pbG ps j) → ctr (pbS ps p).1 ∧ 0 ≤ (pbS ps p).2 ∧ (pbS ps p).2 ≤ 15 * p := by
  intro p
  induction p with
  | zero => intro _; exact ⟨h, by show (0 : Int) ≤ 0; omega, by show (0 : Int) ≤ _; omega⟩
  | succ p ih =>
    intro hg
    obtain ⟨i1, i2, i3⟩ := ih fun j hj => hg j (by omega)
    have hd := div_pos' (ctr_pos i1 p) p
    have e2 : (pbS ps (p + 1)).2 = (pbS ps p).2 + (pbS ps p).1.getD p 0 / mkP p := rfl
    refine ⟨?_, by omega, by omega⟩
    by_cases h0 : 0 < (pbS ps p).1.getD p 0 / mkP p
    · exact (hg p (by omega) h0).2
    · rw [pbS_still ps p (by omega)]; exact i1
theorem plR_len (ls ss : List Int) : ∀ k, (plR ls ss k).os.length = ls.length ∧ (plR ls ss k).ot.length = ss.length
  | 0 => ⟨rfl, rfl⟩
  | k + 1 => by
    have := plR_len ls ss k
    show (mvL false k _ (mvL true k _ _)).length = _ ∧ (mvS false k _ (mvS true k _ _)).length = _
    rw [mvL_len, mvL_len, mvS_len, mvS_len]; exact this
theorem plF_len (ls ss : List Int) : (plF ls ss).os.length = ls.length ∧ (plF ls ss).ot.length = ss.length := by
  have := plR_len ls ss (ls.length - 1)
  unfold plF plA
  rw [mvL_len, mvS_len]; exact this
theorem ilv_getEv (ls ss : List Int) (k : Nat) (h : k < ls.length) : (ilv ls ss).getD (2 * k) 0 = ls.getD k 0 := by
  rw [ilv_getD ls ss _ (by omega), if_pos (by omega), show 2 * k / 2 = k by omega]
theorem ilv_getOd (ls ss : List Int) (k : Nat) (h : k < ls.length) : (ilv ls ss).getD (2 * k + 1) 0 = ss.getD k 0 := by
  rw [ilv_getD ls ss _ (by omega), if_neg (by omega), show (2 * k + 1) / 2 = k by omega]
theorem pb_A (ps : List Int) (k : Nat) (s : PlS) (h : pbS ps (2 * k) = (ilv s.os s.ot, s.n)) (hs : s.ot.length = s.os.length) (hk : k < s.os.length) : pbS ps (2 * k + 1) = (ilv (plA k s).os (plA k s).ot, (plA k s).n) := by
  show (cyP (2 * k) ((pbS ps (2 * k)).1.getD (2 * k) 0 / mkP (2 * k)) (pbS ps (2 * k)).1, (pbS ps (2 * k)).2 + (pbS ps (2 * k)).1.getD (2 * k) 0 / mkP (2 * k)) = _
  rw [h, mkP_ev', ilv_getEv s.os s.ot k hk, cyP_line s.os s.ot hs k hk]
  rfl
theorem pb_C (ps : List Int) (k : Nat) (s : PlS) (h : pbS ps (2 * k + 1) = (ilv s.os s.ot, s.n)) (hs : s.ot.length = s.os.length) (hk : k + 1 < s.os.length) : pbS ps (2 * k + 1 + 1) = (ilv (plC k s).os (plC k s).ot, (plC k s).n) := by
  show (cyP (2 * k + 1) ((pbS ps (2 * k + 1)).1.getD (2 * k + 1) 0 / mkP (2 * k + 1)) (pbS ps (2 * k + 1)).1, (pbS ps (2 * k + 1)).2 + (pbS ps (2 * k + 1)).1.getD (2 * k + 1) 0 / mkP (2 * k + 1)) = _
  rw [h, mkP_od', ilv_getOd s.os s.ot k (by omega), cyP_space s.os s.ot hs k hk]
  rfl
theorem pb_R (ls ss : List Int) (hn : 1 ≤ ls.length ∧ ls.length ≤ 6) (hs : ss.length = ls.length) : ∀ k, k < ls.length → pbS (ilv ls ss) (2 * k) = (ilv (plR ls ss k).os (plR ls ss k).ot, (plR ls ss k).n) ∧ ((plR ls ss k).ok ↔ ∀ p, p < 2 * k → ctr (pbS (ilv ls ss) (p + 1)).1) := by
  intro k
  induction k with
  | zero => intro _; exact ⟨rfl, ⟨fun _ p hp => by omega, fun _ => trivial⟩⟩
  | succ k ih =>
    intro hk
    obtain ⟨i1, i2⟩ := ih (by omega)
    have hl := plR_len ls ss k
    have hA := pb_A (ilv ls ss) k (plR ls ss k) i1 (by omega) (by omega)
    have hlA1 : (plA k (plR ls ss k)).os.length = ls.length := by unfold plA; rw [mvL_len]; exact hl.1
    have hlA2 : (plA k (plR ls ss k)).ot.length = ss.length := by unfold plA; rw [mvS_len]; exact hl.2
    have hC := pb_C (ilv ls ss) k (plA k (plR ls ss k)) hA (by omega) (by omega)
    have hlC := plR_len ls ss (k + 1)
    have oA : okB (plA k (plR ls ss k)).os (plA k (plR ls ss k)).ot ↔ ctr (pbS (ilv ls ss) (2 * k + 1)).1 := by
      rw [okB_ilv, hA]
      exact ⟨fun h => h.2, fun h => ⟨⟨by omega, by omega⟩, h⟩⟩
    have oC : okB (plR ls ss (k + 1)).os (plR ls ss (k + 1)).ot ↔ ctr (pbS (ilv ls ss) (2 * k + 1 + 1)).1 := by
      rw [okB_ilv, hC]
      exact ⟨fun h => h.2, fun h => ⟨⟨by omega, by omega⟩, h⟩⟩
    refine ⟨hC, ?_⟩
    have e : (plR ls ss (k + 1)).ok ↔ ((plR ls ss k).ok ∧ okB (plA k (plR ls ss k)).os (plA k (plR ls ss k)).ot) ∧ okB (plR ls ss (k + 1)).os (plR ls ss (k + 1)).ot := Iff.rfl
    rw [e, i2, oA, oC]
    constructor
    · rintro ⟨⟨h1, h2⟩, h3⟩ p hp
      by_cases e1 : p < 2 * k
      · exact h1 p e1
      · by_cases e2 : p = 2 * k
        · subst e2; exact h2
        · obtain rfl : p = 2 * k + 1 := by omega
          exact h3
    · intro h
      exact ⟨⟨fun p hp => h p (by omega), h _ (by omega)⟩, h _ (by omega)⟩
/-- The model's plain form is that by places. -/
theorem pb_F (ls ss : List Int) (hg : okB ls ss) : ((plF ls ss).ok ∧ plB (plF ls ss).os (plF ls ss).ot ↔ ∀ p, p < 2 * ls.length → pbG (ilv ls ss) p) ∧
    ((∀ p, p < 2 * ls.length → pbG (ilv ls ss) p) → evs (pbS (ilv ls ss) (2 * ls.length)).1 = (plF ls ss).os ∧ ods (pbS (ilv ls ss) (2 * ls.length)).1 = (plF ls ss).ot ∧ (pbS (ilv ls ss) (2 * ls.length)).2 = (plF ls ss).n) := by
  have hc := ((okB_ilv ls ss).1 hg).2
  obtain ⟨⟨hn1, hn2⟩, hs, _⟩ := hg
  obtain ⟨m, hm⟩ : ∃ m, ls.length = m + 1 := ⟨ls.length - 1, by omega⟩
  obtain ⟨i1, i2⟩ := pb_R ls ss ⟨hn1, hn2⟩ hs m (by omega)
  have hl := plR_len ls ss m
  have hF : plF ls ss = plA m (plR ls ss m) := by unfold plF; rw [hm]; rfl
  have hA := pb_A (ilv ls ss) m (plR ls ss m) i1 (by omega) (by omega)
  have hlA1 : (plA m (plR ls ss m)).os.length = ls.length := by unfold plA; rw [mvL_len]; exact hl.1
  have hlA2 : (plA m (plR ls ss m)).ot.length = ss.length := by unfold plA; rw [mvS_len]; exact hl.2
  have oA : okB (plA m (plR ls ss m)).os (plA m (plR ls ss m)).ot ↔ ctr (pbS (ilv ls ss) (2 * m + 1)).1 := by
    rw [okB_ilv, hA]
    exact ⟨fun h => h.2, fun h => ⟨⟨by omega, by omega⟩, h⟩⟩
  have oF : (plA m (plR ls ss m)).ok ↔ (plR ls ss m).ok ∧ okB (plA m (plR ls ss m)).os (plA m (plR ls ss m)).ot := Iff.rfl
  have hil := ilv_len ls ss
  rw [hF, hm]
  generalize hq : plA m (plR ls ss m) = q at *
  -- the last place
  have last : (pbS (ilv ls ss) (2 * m + 1)).1.getD (2 * m + 1) 0 = q.ot.getD m 0 := by rw [hA]; exact ilv_getOd q.os q.ot m (by omega)
  have main : q.ok ∧ plB q.os q.ot ↔ ∀ p, p < 2 * (m + 1) → pbG (ilv ls ss) p := by
    rw [oF, i2, oA]
    constructor
    · rintro ⟨⟨h1, h2⟩, h3⟩ p hp h0
      by_cases e1 : p < 2 * m
      · exact ⟨by omega, h1 p e1⟩
      · by_cases e2 : p = 2 * m
        · subst e2; exact ⟨by omega, h2⟩
        · obtain rfl : p = 2 * m + 1 := by omega
          rw [last, mkP_od'] at h0
          have := (h3 m (by omega) (by omega)).2
          rw [getDi_at _ m (by omega)] at h0
          omega
    · intro h
      have hall : ∀ p, p ≤ 2 * m + 1 → ctr (pbS (ilv ls ss) p).1 := fun p hp => (pbS_ctr (ilv ls ss) hc p fun j hj => h j (by omega)).1
      refine ⟨⟨fun p hp => hall _ (by omega), hall _ (by omega)⟩, fun k h1 h2 => ⟨?_, ?_⟩⟩
      · have := pbS_low (ilv ls ss) (2 * m + 1) (2 * k) (by omega) (by omega)
        rw [hA, mkP_ev', ilv_getEv q.os q.ot k h1, getDi_at q.os k h1] at this
        omega
      · by_cases e : k = m
        · subst e
          rcases Int.lt_or_le 1 q.ot[k] with h5 | h5
          · have := (h (2 * k + 1) (by omega) (by rw [last, mkP_od', getDi_at q.ot k h2]; omega)).1
            omega
          · exact h5
        · have := pbS_low (ilv ls ss) (2 * m + 1) (2 * k + 1) (by omega) (by omega)
          rw [hA, mkP_od', ilv_getOd q.os q.ot k h1, getDi_at q.ot k h2] at this
          omega
  refine ⟨main, fun h => ?_⟩
  have hb := (main.2 h).2
  have hst : pbS (ilv ls ss) (2 * (m + 1)) = pbS (ilv ls ss) (2 * m + 1) := by
    refine pbS_still (ilv ls ss) (2 * m + 1) ?_
    have h5 := hb m (by omega) (by omega)
    have h6 := ctr_pos (pbS_ctr (ilv ls ss) hc (2 * m + 1) fun j hj => h j (by omega)).1 (2 * m + 1)
    rw [last] at h6 ⊢
    rw [getDi_at q.ot m (by omega)] at h6 ⊢
    rw [mkP_od']
    omega
  rw [hst, hA]
  exact ⟨evs_ilv _ _, ods_ilv _ _ (by omega), rfl⟩
end Go.Proofs.YtbdddpchlmddbaaDoor
