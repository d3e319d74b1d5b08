/- The model's ParseFrame, whole. -/
import Derived.Test.YtbnfbpbfbdbiaaaSPar
namespace Go.Proofs.Ytbnfbpbfbdbiaaa
set_option linter.unusedVariables false
open Go.RowKit

theorem spl_count (c : UInt8) : ∀ l : List UInt8, (spl c l).length ≤ l.length + 1
  | [] => by simp [spl]
  | x :: r => by
    have ih := spl_count c r
    rw [spl]
    split
    · simp; omega
    · split
      · simp
      · rename_i p ps e
        rw [e] at ih
        simp at ih ⊢
        omega
theorem specParse_ok (s : ByteArray) (up lo : Int) (rs : List (Int × Int)) (w : World) (hs : s.size ≤ 1048576) (h : IsT s up lo rs) :
    Calls Try.prog 49 #[.string s] w fun e w' => (∃ v, e = .returned (.tuple #[.agg #[.int .i64 up, .int .i64 lo, v], .bool true]) ∧ RodsR w' v rs) ∧ Below w.heap.size w w' := by
  obtain ⟨h1, h2, h3, h4⟩ := words_of s up lo rs h
  have hl := h.1.2.2.2
  have hlen : ([chD up, 47, chD lo] :: rs.map (fun r => [chD r.1, chD r.2])).length = rs.length + 1 := by simp
  refine specParse_core s w hs _ h1 (by omega) (by omega) (chD up) 47 (chD lo) rfl _ ⟨by omega, Nat.le_refl _⟩ (fun i hi h1i _ => ?_) (fun h => absurd h (Nat.lt_irrefl _)) true up lo rs (.inl ⟨rfl, rfl, h3.symm, h4.symm, ?_, h⟩)
  · cases i with
    | zero => omega
    | succ i => simp
  · exact h2.symm
theorem specParse_bad (s : ByteArray) (w : World) (hs : s.size ≤ 1048576) (h : ¬ ∃ up lo rs, IsT s up lo rs) :
    Calls Try.prog 49 #[.string s] w fun e w' => (∃ v, e = .returned (.tuple #[.agg #[.int .i64 0, .int .i64 0, v], .bool false]) ∧ RodsR w' v []) ∧ Below w.heap.size w w' := by
  have hne := spl_ne 32 s.data.toList
  have hcount := spl_count 32 s.data.toList
  have hsl : s.data.toList.length = s.size := by simp
  obtain ⟨W, hW⟩ : ∃ W, spl 32 s.data.toList = W := ⟨_, rfl⟩
  rw [hW] at hne hcount
  have hN : 0 < W.length := List.length_pos_iff.2 hne
  by_cases h3 : W[0].length = 3
  · by_cases h9 : W.length ≤ 9
    · obtain ⟨a0, a1, a2, h0⟩ : ∃ a0 a1 a2, W[0] = [a0, a1, a2] := by
        generalize W[0] = q at h3
        match q, h3 with
        | [x, y, z], _ => exact ⟨x, y, z, rfl⟩
      obtain ⟨p, hp, hpre, hx⟩ := first_bad W.length (fun i h => 1 ≤ i → W[i].length = 2)
      have hp1 : 1 ≤ p := by
        rcases Nat.eq_zero_or_pos p with e | e
        · subst e
          exact absurd (fun h' => absurd h' (by omega)) (hx hN)
        · exact e
      exact specParse_core s w hs W hW hN h9 a0 a1 a2 h0 p ⟨hp1, hp⟩ (fun i hi h1 h2 => hpre i hi h2 h1) (fun hlt e => hx hlt fun _ => e) false 0 0 [] (.inr ⟨rfl, rfl, rfl, rfl, fun _ hh => h ⟨_, _, _, hh⟩⟩)
    · exact (specParse_many s w hs W hW (by omega) (by omega) h3).mono fun e w' ⟨he, hb⟩ => ⟨⟨_, he, rods_nil _⟩, hb⟩
  · exact (specParse_short s w hs W hW hN h3).mono fun e w' ⟨he, hb⟩ => ⟨⟨_, he, rods_nil _⟩, hb⟩
end Go.Proofs.Ytbnfbpbfbdbiaaa
