/- LessString of both; pieces joined again. -/
import Derived.Test.YtfmkdfmholhnjaaJoini
import Derived.Test.YtfmkdfmholhnjaaISplit
namespace Go.Proofs.Ytfmkdfmholhnjaa
set_option linter.unusedVariables false
open Go.RowKit

set_option maxRecDepth 100000 in
set_option maxHeartbeats 400000 in
theorem implLess_any (a b : ByteArray) (w : World) :
    Calls Try.prog 16 #[.string a, .string b] w fun e w' => e = .returned (.bool (Op.bytesLess a.toList b.toList)) ∧ w' = w := by
  go_enter Try.func16, Try.ntmps16
  go_wp2
  go_ret
  exact ⟨rfl, rfl⟩
set_option maxRecDepth 100000 in
set_option maxHeartbeats 400000 in
theorem specLess_any (a b : ByteArray) (w : World) :
    Calls Try.prog 17 #[.string a, .string b] w fun e w' => e = .returned (.bool (Op.bytesLess a.toList b.toList)) ∧ w' = w := by
  go_enter Try.func17, Try.ntmps17
  go_wp2
  go_ret
  exact ⟨rfl, rfl⟩
theorem less_asym : ∀ (a b : List UInt8), Op.bytesLess a b = true → Op.bytesLess b a = false
  | _, [], h => by rw [Op.bytesLess] at h; cases h
  | [], y :: b, _ => by rw [Op.bytesLess]
  | x :: a, y :: b, h => by
    have ih := less_asym a b
    rw [Op.bytesLess] at h ⊢
    simp only [Bool.or_eq_true, Bool.and_eq_true, decide_eq_true_eq, beq_iff_eq, Bool.or_eq_false_iff, decide_eq_false_iff_not, Bool.and_eq_false_iff] at h ⊢
    rcases h with h | ⟨rfl, h⟩
    · refine ⟨fun h2 => absurd (UInt8.lt_trans h h2) (UInt8.lt_irrefl _), .inl ?_⟩
      exact beq_eq_false_iff_ne.2 fun e => by subst e; exact UInt8.lt_irrefl _ h
    · exact ⟨UInt8.lt_irrefl _, .inr (ih h)⟩
theorem spl_mem (c : UInt8) : ∀ (l : List UInt8), ∀ p ∈ spl c l, c ∉ p
  | [], p, hp => by simp [spl] at hp; subst hp; simp
  | x :: r, p, hp => by
    have ih := spl_mem c r
    rw [spl] at hp
    split at hp
    · rcases List.mem_cons.1 hp with rfl | h
      · simp
      · exact ih p h
    · rename_i hx
      split at hp
      · simp at hp; subst hp; simp; exact fun e => hx e.symm
      · rename_i q qs he
        rcases List.mem_cons.1 hp with rfl | h
        · have := ih q (by rw [he]; exact List.mem_cons_self ..)
          simp; exact ⟨fun e => hx e.symm, this⟩
        · exact ih p (by rw [he]; exact List.mem_cons_of_mem _ h)
theorem join_spl (c : UInt8) : ∀ l : List UInt8, Lib.join (spl c l) [c] = l
  | [] => by simp [spl, Lib.join_one]
  | x :: r => by
    have ih := join_spl c r
    rw [spl]
    split
    · rename_i hx
      subst hx
      cases he : spl x r with
      | nil => exact absurd he (spl_ne x r)
      | cons p ps =>
        rw [he, Lib.join_cons] at ih
        rw [Lib.join_cons, ← ih]
        simp [Lib.joinTail]
    · split
      · rename_i he; exact absurd he (spl_ne c r)
      · rename_i q qs he
        rw [he, Lib.join_cons] at ih
        rw [Lib.join_cons, List.cons_append, ih]
theorem pcs_data (c : UInt8) (s : ByteArray) : (pcs c s).map (fun s => s.data.toList) = spl c s.data.toList := by simp [pcs, Function.comp_def]
theorem pcs_join (c : UInt8) (s : ByteArray) : joinB (pcs c s) c = s := by
  unfold joinB
  rw [pcs_data, join_spl]
theorem pcs_pos (c : UInt8) (s : ByteArray) : 0 < (pcs c s).length := by
  rw [pcs_len]
  have := spl_ne c s.data.toList
  cases h : spl c s.data.toList with
  | nil => exact absurd h this
  | cons p ps => simp
theorem pcs_can (c : UInt8) (s : ByteArray) (hs : s.size ≤ 4000) : CanJ (pcs c s) c := by
  refine ⟨fun x hx => ?_, ?_⟩
  · simp only [pcs, List.mem_map] at hx
    obtain ⟨l, hl, rfl⟩ := hx
    exact spl_mem c _ l hl
  · have h := join_len (pcs c s) c (pcs_pos c s)
    rw [pcs_data, join_spl] at h
    have : (s.data.toList.length : Int) = s.size := by simp
    omega
end Go.Proofs.Ytfmkdfmholhnjaa
