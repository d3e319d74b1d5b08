/- Texts of moves there and back; merged moves. -/
import Derived.Test.YtmkocinknhaniaaMgmath
import Derived.Test.YtmkocinknhaniaaKi
import Derived.Test.YtmkocinknhaniaaMbeads
import Derived.Test.YtmkocinknhaniaaPmath
namespace Go.Proofs.Ytmkocinknhaniaa
set_option linter.unusedVariables false
open Go.RowKit

theorem pmF_text {ms : List Mv} (h : okMs ms) : PmF ⟨(msT ms).toArray⟩ ms true := .inl ⟨h, by simp, rfl⟩
theorem pmF_back {s : ByteArray} {ms : List Mv} (h : PmF s ms true) : okMs ms ∧ (⟨(msT ms).toArray⟩ : ByteArray) = s := by
  rcases h with ⟨h1, h2, _⟩ | ⟨_, _, h⟩
  · refine ⟨h1, ?_⟩
    obtain ⟨d⟩ := s
    rw [← h2]
  · cases h
theorem chg_app (R : Nat) (a b : List Mv) : chgI R (a ++ b) = chgI R a + chgI R b := by unfold chgI; rw [List.map_append, List.sum_append]
theorem chg_one (R : Nat) (m : Mv) : chgI R [m] = m.amt * worthN R m := by simp [chgI]
theorem beads_app (a b : List Mv) : beadsI (a ++ b) = beadsI a + beadsI b := by unfold beadsI; rw [List.map_append, List.sum_append]
theorem beads_one (m : Mv) : beadsI [m] = absI m.amt := by simp [beadsI]
theorem absI_add (x y : Int) : absI (x + y) ≤ absI x + absI y := by unfold absI; split <;> split <;> split <;> omega
theorem absI_nn (x : Int) : 0 ≤ absI x := by unfold absI; split <;> omega
theorem mg_step {o r : List Mv} {m : Mv} (h : mergeStep o m = some r) (hm : okMv m) (ho : ∀ x ∈ o, okMv x) : (∀ x ∈ r, okMv x) ∧ chgI 8 r = chgI 8 o + m.amt * worthN 8 m ∧ beadsI r ≤ beadsI o + absI m.amt := by
  by_cases h0 : o = []
  · subst h0
    rw [mg_nil] at h
    injection h with h
    subst h
    exact ⟨fun x hx => by rw [List.mem_singleton.1 hx]; exact hm, by rw [chg_one]; simp [chgI], by rw [beads_one]; simp [beadsI]⟩
  · obtain ⟨p, l, rfl⟩ : ∃ p l, o = p ++ [l] := ⟨o.dropLast, o.getLast h0, (List.dropLast_concat_getLast h0).symm⟩
    have hl := ho l (by simp)
    have hp : ∀ x ∈ p, okMv x := fun x hx => ho x (by simp [hx])
    rw [mg_last] at h
    by_cases h1 : l.rod = m.rod ∧ l.part = m.part
    · rw [if_pos h1] at h
      have hw : worthN 8 l = worthN 8 m := by unfold worthN; rw [h1.1, h1.2]
      by_cases h2 : l.amt + m.amt = 0
      · rw [if_pos h2] at h
        injection h with h
        subst h
        refine ⟨hp, ?_, ?_⟩
        · rw [chg_app, chg_one, hw, Int.add_assoc, ← Int.add_mul, h2]; simp
        · rw [beads_app, beads_one]; have := absI_nn l.amt; have := absI_nn m.amt; omega
      · rw [if_neg h2] at h
        by_cases h3 : -5 ≤ l.amt + m.amt ∧ l.amt + m.amt ≤ 5
        · rw [if_pos h3] at h
          injection h with h
          subst h
          refine ⟨fun x hx => ?_, ?_, ?_⟩
          · rcases List.mem_append.1 hx with hx | hx
            · exact hp x hx
            · rw [List.mem_singleton.1 hx]; exact ⟨hm.1, hm.2.1, h3, h2⟩
          · have hw2 : worthN 8 (⟨m.rod, m.part, l.amt + m.amt⟩ : Mv) = worthN 8 m := rfl
            rw [chg_app, chg_app, chg_one, chg_one, hw, hw2, Int.add_assoc, Int.add_mul]
          · rw [beads_app, beads_app, beads_one, beads_one]; have := absI_add l.amt m.amt; show beadsI p + absI (l.amt + m.amt) ≤ _; omega
        · rw [if_neg h3] at h; cases h
    · rw [if_neg h1] at h
      injection h with h
      subst h
      refine ⟨fun x hx => ?_, by rw [chg_app, chg_one], by rw [beads_app, beads_one]; omega⟩
      rcases List.mem_append.1 hx with hx | hx
      · exact ho x hx
      · rw [List.mem_singleton.1 hx]; exact hm
theorem mg_keep (ms : List Mv) (ho : okMs ms) : ∀ k, k ≤ ms.length → ∀ r, mergeO (ms.take k) = some r → (∀ x ∈ r, okMv x) ∧ chgI 8 r = chgI 8 (ms.take k) ∧ beadsI r ≤ beadsI (ms.take k)
  | 0, _, r, h => by
    have e : r = [] := by simp [mergeO] at h; exact h
    subst e
    exact ⟨fun x hx => (by cases hx), by simp, by simp⟩
  | k + 1, hk, r, h => by
    rw [mergeO_snoc ms k (by omega)] at h
    cases hq : mergeO (ms.take k) with
    | none => rw [hq] at h; cases h
    | some q =>
      rw [hq] at h
      obtain ⟨i1, i2, i3⟩ := mg_keep ms ho k (by omega) q hq
      obtain ⟨j1, j2, j3⟩ := mg_step h (ho.1 k (by omega)) i1
      refine ⟨j1, by rw [j2, i2, chg_snoc 8 ms k (by omega)], ?_⟩
      rw [beadsI_snoc ms k (by omega)]; omega
theorem mgF_keep {ms qs : List Mv} (h : MgF ms qs true) : okMs ms ∧ okMs qs ∧ chgI 8 qs = chgI 8 ms ∧ beadsI qs ≤ beadsI ms ∧ qs.length ≤ ms.length := by
  rcases h with ⟨h1, h2, _⟩ | ⟨_, _, h⟩
  · have hk := mg_keep ms h1 ms.length (Nat.le_refl _) qs (by rw [List.take_length]; exact h2)
    have hl := mergeO_len ms ms.length (Nat.le_refl _) qs (by rw [List.take_length]; exact h2)
    rw [List.take_length] at hk
    have h60 := h1.2
    exact ⟨h1, ⟨fun k hk' => hk.1 _ (List.getElem_mem hk'), by omega⟩, hk.2.1, hk.2.2, hl⟩
  · cases h
theorem chF_eight {ms : List Mv} (h : okMs ms) : ChF ms 8 (chgI 8 ms) true := .inl ⟨h, by omega, fun k hk => by have := (h.1 k hk).1; omega, rfl, rfl⟩
end Go.Proofs.Ytmkocinknhaniaa
