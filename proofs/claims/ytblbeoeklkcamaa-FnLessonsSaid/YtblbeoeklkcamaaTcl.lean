/- A lesson in its first slot: no pair with it, and no more pairs than before. -/
import Derived.Test.YtblbeoeklkcamaaTp
namespace Go.Proofs.Ytblbeoeklkcamaa
set_option linter.unusedVariables false
open Go.RowKit

theorem clashB_symm (a b : Les) : clashB a b = clashB b a := by
  have h1 : decide (a.day = b.day ∧ a.bgn < endL b ∧ b.bgn < endL a) = decide (b.day = a.day ∧ b.bgn < endL a ∧ a.bgn < endL b) := by
    apply decide_eq_decide.2
    constructor <;> (rintro ⟨h, h2, h3⟩; exact ⟨h.symm, h3, h2⟩)
  have h2 : decide (a.cls = b.cls ∨ a.tch = b.tch ∨ a.room = b.room) = decide (b.cls = a.cls ∨ b.tch = a.tch ∨ b.room = a.room) := by
    apply decide_eq_decide.2
    constructor <;> (rintro (h | h | h); exact .inl h.symm; exact .inr (.inl h.symm); exact .inr (.inr h.symm))
  unfold clashB meetB
  rw [h1, h2]
theorem okLs_set {ps : List Les} {k : Nat} {d b : Int} (ho : okLs ps) (hk : k < ps.length) (hx : okLe (atL (leD ps k) d b)) : okLs (ps.set k (atL (leD ps k) d b)) := by
  have hid : ∀ i (h : i < (ps.set k (atL (leD ps k) d b)).length) (h2 : i < ps.length), (ps.set k (atL (leD ps k) d b))[i].id = ps[i].id := by
    intro i h h2
    by_cases e : i = k
    · subst e; rw [List.getElem_set_self]; show (leD ps i).id = _; rw [leD_at ps i h2]
    · rw [List.getElem_set_ne (by omega)]
  refine ⟨fun i h => ?_, by rw [List.length_set]; exact ho.2⟩
  have h2 : i < ps.length := by rw [List.length_set] at h; exact h
  refine ⟨?_, fun h0 => ?_⟩
  · by_cases e : i = k
    · subst e; rw [List.getElem_set_self]; exact hx
    · rw [List.getElem_set_ne (by omega)]; exact (ho.1 i h2).1
  · rw [hid i h h2, hid (i - 1) (by omega) (by omega)]; exact (ho.1 i h2).2 h0
theorem prR_mono (ps : List Les) (i d : Nat) : (prR ps i d).length ≤ (prR ps i (d + 1)).length := by
  cases hc : clashB (leD ps i) (leD ps (i + 1 + d)) with
  | true => rw [prR_yes hc, List.length_append]; omega
  | false => rw [prR_no hc]; exact Nat.le_refl _
def freeQ (ps : List Les) (k : Nat) (ys : List Int) : Prop := ∃ a b, a < ps.length ∧ b < ps.length ∧ a ≠ k ∧ b ≠ k ∧ ys = [(leD ps a).id, (leD ps b).id]
theorem prR_set {ps : List Les} {k : Nat} {d b : Int} (hk : k < ps.length) (hf : ∀ j, j < ps.length → j ≠ k → clashB (atL (leD ps k) d b) (leD ps j) = false) (i : Nat) (hi : i < ps.length) : ∀ n, i + 1 + n ≤ ps.length → (prR (ps.set k (atL (leD ps k) d b)) i n).length ≤ (prR ps i n).length ∧ ∀ ys ∈ prR (ps.set k (atL (leD ps k) d b)) i n, freeQ ps k ys
  | 0, _ => ⟨Nat.le_refl _, fun ys h => by simp [prR] at h⟩
  | n + 1, hn => by
    obtain ⟨h1, h2⟩ := prR_set hk hf i hi n (by omega)
    have hm := prR_mono ps i n
    have hj : i + 1 + n < ps.length := by omega
    by_cases e : i = k
    · subst e
      have hc : clashB (leD (ps.set i (atL (leD ps i) d b)) i) (leD (ps.set i (atL (leD ps i) d b)) (i + 1 + n)) = false := by
        rw [leD_set_self ps i _ hi, leD_set_ne ps i _ _ hj (by omega)]; exact hf _ hj (by omega)
      rw [prR_no hc]
      exact ⟨by omega, h2⟩
    · by_cases e2 : i + 1 + n = k
      · have hc : clashB (leD (ps.set k (atL (leD ps k) d b)) i) (leD (ps.set k (atL (leD ps k) d b)) (i + 1 + n)) = false := by
          rw [e2, leD_set_self ps k _ hk, leD_set_ne ps k i _ hi e, clashB_symm]; exact hf i hi e
        rw [prR_no hc]
        exact ⟨by omega, h2⟩
      · have s1 := leD_set_ne ps k i (atL (leD ps k) d b) hi e
        have s2 := leD_set_ne ps k (i + 1 + n) (atL (leD ps k) d b) hj e2
        cases hc : clashB (leD ps i) (leD ps (i + 1 + n)) with
        | true =>
          have hc' : clashB (leD (ps.set k (atL (leD ps k) d b)) i) (leD (ps.set k (atL (leD ps k) d b)) (i + 1 + n)) = true := by rw [s1, s2]; exact hc
          rw [prR_yes hc, prR_yes hc', List.length_append, List.length_append]
          refine ⟨by simp; omega, fun ys h => ?_⟩
          rcases List.mem_append.1 h with h | h
          · exact h2 ys h
          · rw [List.mem_singleton.1 h, s1, s2]; exact ⟨i, i + 1 + n, hi, hj, e, e2, rfl⟩
        | false =>
          have hc' : clashB (leD (ps.set k (atL (leD ps k) d b)) i) (leD (ps.set k (atL (leD ps k) d b)) (i + 1 + n)) = false := by rw [s1, s2]; exact hc
          rw [prR_no hc, prR_no hc']
          exact ⟨h1, h2⟩
theorem prA_set {ps : List Les} {k : Nat} {d b : Int} (hk : k < ps.length) (hf : ∀ j, j < ps.length → j ≠ k → clashB (atL (leD ps k) d b) (leD ps j) = false) : ∀ n, n ≤ ps.length → (prA (ps.set k (atL (leD ps k) d b)) n).length ≤ (prA ps n).length ∧ ∀ ys ∈ prA (ps.set k (atL (leD ps k) d b)) n, freeQ ps k ys
  | 0, _ => ⟨Nat.le_refl _, fun ys h => by simp [prA] at h⟩
  | n + 1, hn => by
    obtain ⟨h1, h2⟩ := prA_set hk hf n (by omega)
    obtain ⟨g1, g2⟩ := prR_set hk hf n (by omega) (ps.length - (n + 1)) (by omega)
    rw [prA, prA, List.length_append, List.length_append, List.length_set]
    refine ⟨by omega, fun ys h => ?_⟩
    rcases List.mem_append.1 h with h | h
    · exact h2 ys h
    · exact g2 ys h
/-- What ClashingPairs tells. -/
def PrF (ps : List Les) (ys : List (List Int)) (t : Bool) : Prop := (okLs ps ∧ ys = prA ps ps.length ∧ t = true) ∨ (¬ okLs ps ∧ ys = [] ∧ t = false)
theorem prF_or (ps : List Les) : ∃ ys t, PrF ps ys t ∧ (t = true ↔ okLs ps) := by
  by_cases h : okLs ps
  · exact ⟨_, _, .inl ⟨h, rfl, rfl⟩, by simp [h]⟩
  · exact ⟨_, _, .inr ⟨h, rfl, rfl⟩, by simp [h]⟩
theorem slot_facts {ps : List Les} {id d b : Int} (h : SlF ps id d b true) : ∃ qs xs ys, ShF ps id d b qs true ∧ PrF ps xs true ∧ PrF qs ys true ∧ ys.length ≤ xs.length ∧ ∀ y ∈ ys, ¬ id ∈ y := by
  rcases h with ⟨k, s, ho, hk, _, hf, _, rfl, rfl, _⟩ | ⟨_, _, _, h⟩
  · have hkl := hk.1
    obtain ⟨g1, g2⟩ := prA_set (d := slD s) (b := slB s) hkl hf.2 ps.length (Nat.le_refl _)
    refine ⟨_, _, _, .inl ⟨k, ho, hk, hf, rfl, rfl⟩, .inl ⟨ho, rfl, rfl⟩, .inl ⟨okLs_set ho hkl hf.1, rfl, rfl⟩, ?_, ?_⟩
    · rw [List.length_set]; exact g1
    · rw [List.length_set]
      intro y hy hin
      obtain ⟨a, b, ha, hb, hak, hbk, rfl⟩ := g2 y hy
      obtain ⟨h1, h2, h3⟩ := hk
      simp only [List.mem_cons, List.not_mem_nil, or_false] at hin
      rcases hin with e | e
      · rw [leD_at ps a ha, ← h2] at e; exact okLs_ne ho k a h1 ha (fun x => hak x.symm) e
      · rw [leD_at ps b hb, ← h2] at e; exact okLs_ne ho k b h1 hb (fun x => hbk x.symm) e
  · simp at h
end Go.Proofs.Ytblbeoeklkcamaa
