/- Moves merged: the list, a step at a time. -/
import Derived.Test.YtmkocinknhaniaaKz
import Derived.WalkSmall
namespace Go.Proofs.Ytmkocinknhaniaa
set_option linter.unusedVariables false
open Go.RowKit

def mergeStep (o : List Mv) (m : Mv) : Option (List Mv) :=
  match o.getLast? with
  | none => some (o ++ [m])
  | some l => if l.rod = m.rod ∧ l.part = m.part then (if l.amt + m.amt = 0 then some o.dropLast else if -5 ≤ l.amt + m.amt ∧ l.amt + m.amt ≤ 5 then some (o.dropLast ++ [⟨m.rod, m.part, l.amt + m.amt⟩]) else none) else some (o ++ [m])
def mergeO (ms : List Mv) : Option (List Mv) := ms.foldl (fun o m => o.bind fun r => mergeStep r m) (some [])
theorem mg_nil (m : Mv) : mergeStep [] m = some [m] := rfl
theorem mg_last (p : List Mv) (l m : Mv) : mergeStep (p ++ [l]) m = if l.rod = m.rod ∧ l.part = m.part then (if l.amt + m.amt = 0 then some p else if -5 ≤ l.amt + m.amt ∧ l.amt + m.amt ≤ 5 then some (p ++ [⟨m.rod, m.part, l.amt + m.amt⟩]) else none) else some (p ++ [l] ++ [m]) := by
  unfold mergeStep
  rw [List.getLast?_concat, List.dropLast_concat]
theorem mg_diff {p : List Mv} {l m : Mv} (h : ¬ (l.rod = m.rod ∧ l.part = m.part)) : mergeStep (p ++ [l]) m = some (p ++ [l] ++ [m]) := by rw [mg_last, if_neg h]
theorem mg_zero {p : List Mv} {l m : Mv} (h1 : l.rod = m.rod) (h2 : l.part = m.part) (h : l.amt + m.amt = 0) : mergeStep (p ++ [l]) m = some p := by rw [mg_last, if_pos ⟨h1, h2⟩, if_pos h]
theorem mg_sum {p : List Mv} {l m : Mv} (h1 : l.rod = m.rod) (h2 : l.part = m.part) (h : ¬ l.amt + m.amt = 0) (hb : -5 ≤ l.amt + m.amt ∧ l.amt + m.amt ≤ 5) : mergeStep (p ++ [l]) m = some (p ++ [⟨m.rod, m.part, l.amt + m.amt⟩]) := by rw [mg_last, if_pos ⟨h1, h2⟩, if_neg h, if_pos hb]
theorem mg_out {p : List Mv} {l m : Mv} (h1 : l.rod = m.rod) (h2 : l.part = m.part) (h : ¬ l.amt + m.amt = 0) (hb : ¬ (-5 ≤ l.amt + m.amt ∧ l.amt + m.amt ≤ 5)) : mergeStep (p ++ [l]) m = none := by rw [mg_last, if_pos ⟨h1, h2⟩, if_neg h, if_neg hb]
theorem mergeO_snoc (ms : List Mv) (k : Nat) (h : k < ms.length) : mergeO (ms.take (k + 1)) = (mergeO (ms.take k)).bind fun r => mergeStep r ms[k] := by
  unfold mergeO; rw [List.take_succ_eq_append_getElem h, List.foldl_append]; rfl
theorem merge_none (ms : List Mv) : ms.foldl (fun o m => o.bind fun r => mergeStep r m) none = none := by
  induction ms with
  | nil => rfl
  | cons m t ih => exact ih
theorem mergeO_none (ms : List Mv) (k : Nat) (h : mergeO (ms.take k) = none) : mergeO ms = none := by
  have : mergeO ms = (ms.drop k).foldl (fun o m => o.bind fun r => mergeStep r m) (mergeO (ms.take k)) := by
    unfold mergeO; rw [← List.foldl_append, List.take_append_drop]
  rw [this, h, merge_none]
theorem mergeStep_len {o r : List Mv} {m : Mv} (h : mergeStep o m = some r) : r.length ≤ o.length + 1 := by
  rcases List.eq_nil_or_concat o with rfl | ⟨p, l, rfl⟩
  · rw [mg_nil] at h; injection h with h; subst h; simp
  · rw [List.concat_eq_append] at h ⊢
    rw [mg_last] at h
    split at h
    · split at h
      · injection h with h; subst h; simp; omega
      · split at h
        · injection h with h; subst h; simp
        · cases h
    · injection h with h; subst h; simp
theorem mergeO_len (ms : List Mv) : ∀ k, k ≤ ms.length → ∀ r, mergeO (ms.take k) = some r → r.length ≤ k := by
  intro k
  induction k with
  | zero => intro _ r h; unfold mergeO at h; simp at h; subst h; simp
  | succ k ih =>
    intro hk r h
    rw [mergeO_snoc ms k (by omega)] at h
    cases hp : mergeO (ms.take k) with
    | none => rw [hp] at h; simp at h
    | some o =>
      rw [hp] at h
      have := ih (by omega) o hp
      have := mergeStep_len (show mergeStep o ms[k] = some r from h)
      omega
/-- MergedMoves: the answer. -/
def MgF (ms qs : List Mv) (t : Bool) : Prop := (okMs ms ∧ mergeO ms = some qs ∧ t = true) ∨ (¬ (okMs ms ∧ mergeO ms ≠ none) ∧ qs = [] ∧ t = false)
theorem mgF_or (ms : List Mv) : ∃ qs t, MgF ms qs t := by
  by_cases h : okMs ms ∧ mergeO ms ≠ none
  · cases hp : mergeO ms with
    | none => exact absurd hp h.2
    | some r => exact ⟨r, true, .inl ⟨h.1, hp, rfl⟩⟩
  · exact ⟨[], false, .inr ⟨h, rfl, rfl⟩⟩
theorem mgF_len {ms qs : List Mv} {t : Bool} (h : MgF ms qs t) : qs.length ≤ 60 := by
  rcases h with ⟨h1, h2, _⟩ | ⟨_, rfl, _⟩
  · have := mergeO_len ms ms.length (Nat.le_refl _) qs (by rwa [List.take_length]); have := h1.2; omega
  · simp
theorem set_last (p : List Mv) (l l' : Mv) : (p ++ [l]).set p.length l' = p ++ [l'] := by simp
theorem own_pop {w : World} {B g cap : Nat} {e : TypeId} (p : List Mv) (l : Mv) (h : w.ownsRow B e 3 (.slice (some ⟨g, 0, none⟩) (p.length + 1) cap) (p.length + 1) (flatC mvC (p ++ [l]))) : w.ownsRow B e 3 (.slice (some ⟨g, 0, none⟩) p.length cap) p.length (flatC mvC p) := by
  rw [flatC_app] at h
  exact ownsRow_pop (flatC_len mvC_len p) h
theorem own_cap {w : World} {B g cap n : Nat} {e : TypeId} {size : Nat} {xs : List Value} (h : w.ownsRow B e size (.slice (some ⟨g, 0, none⟩) n cap) n xs) : n ≤ cap ∧ cap ≤ maxLen := by
  rcases h.2 with ⟨h', _⟩ | ⟨g', cap', cur, h', _, _, h1, h2, _⟩
  · simp at h'
  · simp only [Value.slice.injEq, Option.some.injEq, Addr.mk.injEq, and_true, true_and] at h'
    obtain ⟨rfl, rfl⟩ := h'
    exact ⟨h1, h2⟩
theorem own_set2 {w : World} {B g cap : Nat} {e : TypeId} (p : List Mv) (l : Mv) (x : Int) (h : w.ownsRow B e 3 (.slice (some ⟨g, 0, none⟩) (p.length + 1) cap) (p.length + 1) (flatC mvC (p ++ [l]))) :
    (w.setCell ⟨g, p.length * 3 + 2, none⟩ (.int .i64 x)).ownsRow B e 3 (.slice (some ⟨g, 0, none⟩) (p.length + 1) cap) (p.length + 1) (flatC mvC (p ++ [{ l with amt := x }])) := by
  have h1 := (h.stored (p.length * 3 + 2) (.int .i64 x)).1
  rwa [flatC_set1 mvC_len (p ++ [l]) p.length 2 (by simp) (by omega) (.int .i64 x) { l with amt := x } (by rw [List.getElem_concat_length rfl (by simp)]; rfl), set_last] at h1
theorem own_lastC {w : World} {B g cap : Nat} {e : TypeId} (p : List Mv) (l : Mv) (h : w.ownsRow B e 3 (.slice (some ⟨g, 0, none⟩) (p.length + 1) cap) (p.length + 1) (flatC mvC (p ++ [l]))) :
    (w.cell? ⟨g, p.length * 3, none⟩ = some (.int .i64 l.rod) ∧ w.cell? ⟨g, p.length * 3 + 1, none⟩ = some (.int .i64 l.part) ∧ w.cell? ⟨g, p.length * 3 + 2, none⟩ = some (.int .i64 l.amt)) ∧ (∀ j, w.frozen? ⟨g, j, none⟩ = false) := by
  have hc := fun c (hc : c < 3) => (h.cellAt (p.length * 3 + c) (by omega)).trans (flatC_at mvC_len (p ++ [l]) p.length (by simp) c hc)
  rw [List.getElem_concat_length rfl (by simp)] at hc
  exact ⟨⟨hc 0 (by omega), hc 1 (by omega), hc 2 (by omega)⟩, h.frozenAt⟩
end Go.Proofs.Ytmkocinknhaniaa
