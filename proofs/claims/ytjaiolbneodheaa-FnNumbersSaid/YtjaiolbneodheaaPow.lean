/- Powers of ten: bounds, the model's l2Power. -/
import Derived.Test.YtjaiolbneodheaaBase
namespace Go.Proofs.Ytjaiolbneodheaa
set_option linter.unusedVariables false
open Go.RowKit

theorem pow_bd (k : Nat) (h : k ≤ 8) : 1 ≤ (10 : Int) ^ k ∧ (10 : Int) ^ k ≤ 100000000 := by
  have h1 : (10 : Nat) ^ k ≤ 10 ^ 8 := Nat.pow_le_pow_right (by decide) h
  have h2 : 1 ≤ (10 : Nat) ^ k := Nat.pow_pos (by decide)
  have e : ((10 ^ k : Nat) : Int) = (10 : Int) ^ k := by simp
  rw [← e]
  omega

set_option maxRecDepth 100000 in
set_option maxHeartbeats 800000 in
theorem l2Power_any (n : Nat) (w : World) (h : n ≤ 8) :
    Calls Try.prog 94 #[.int .i64 n] w fun e w' => e = .returned (.int .i64 ((10 : Int) ^ n)) ∧ w' = w := by
  go_enter Try.func94, Try.ntmps94
  go_wp2_with fail
  go_loopw [3, 4] (fun o i wr => ∃ k : Nat, k ≤ n ∧ i = .int .i64 k ∧ o = .int .i64 ((10 : Int) ^ k) ∧ wr = w) (fun _ i _ => n - (intOf i).toNat)
  case atStart => exact ⟨0, Nat.zero_le _, rfl, by simp, rfl⟩
  case round =>
    obtain ⟨k, hk, rfl, rfl, rfl⟩ := hrel
    obtain ⟨b1, b2⟩ := pow_bd k (by omega)
    have HS : Hid (10 * (10 : Int) ^ k = (10 : Int) ^ (k + 1)) := Lib.hid (by rw [Int.pow_succ]; omega)
    generalize hp : (10 : Int) ^ k = p at b1 b2 HS ⊢
    by_cases hlt : k < n
    · go_wp2_with fail
      go_roundw
      case rel => exact ⟨k + 1, by omega, by go_num, by rw [← HS.out], trivial⟩
      case measure => simp [intOf]; omega
    · have hke : k = n := by omega
      subst hke
      have HP := Lib.hid hp
      clear hp
      go_wp2_with fail
      go_ret
      exact ⟨ret_int HP.out.symm, rfl⟩
end Go.Proofs.Ytjaiolbneodheaa
