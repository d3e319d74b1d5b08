/- The functions that compute a checksum return the plain fold over the bytes, for every string up to the length limit of the model. -/
import Derived.Test.YtfbilfplbjjoaaaDoorBase
import Derived.WalkKit
import Derived.Lib.Hide
namespace Go.Proofs.YtfbilfplbjjoaaaDoor
set_option linter.unusedVariables false
open Go.RowKit

/-- The checksum of a list of bytes. -/
def sumF (l : List UInt8) : Int := l.foldl (fun h c => (41 * h + (c.toNat : Int) + 1) % 999979) 7
theorem sumF_snoc (l : List UInt8) (c : UInt8) : sumF (l ++ [c]) = (41 * sumF l + (c.toNat : Int) + 1) % 999979 := by
  simp [sumF, List.foldl_append]
theorem sumF_bd (l : List UInt8) : 0 ≤ sumF l ∧ sumF l < 999979 := by
  rcases List.eq_nil_or_concat l with rfl | ⟨l', c, rfl⟩
  · exact ⟨by decide, by decide⟩
  · rw [List.concat_eq_append, sumF_snoc]; omega

set_option maxRecDepth 100000 in
set_option maxHeartbeats 400000 in
theorem l1Sum_any (s : ByteArray) (w : World) (hs : s.size ≤ maxLen) :
    Calls Tryd.prog 36 #[.string s] w fun e w' => e = .returned (.int .i64 (sumF s.data.toList)) ∧ w = w' := by
  unfold maxLen at hs
  go_enter Tryd.func36, Tryd.ntmps36
  go_wp2
  go_loop [3, 4] (fun n i => ∃ k : Nat, k ≤ s.size ∧ i = .int .i64 k ∧ n = .int .i64 (sumF (s.data.toList.take k))) (fun _ i => s.size - (intOf i).toNat)
  case atStart => exact ⟨0, Nat.zero_le _, rfl, rfl⟩
  case round =>
    obtain ⟨k, hk, rfl, rfl⟩ := hrel
    have hd := sumF_bd (s.data.toList.take k)
    by_cases hlt : k < s.size
    · have HS : Hid (sumF (s.data.toList.take (k + 1)) = (41 * sumF (s.data.toList.take k) + (s[k].toNat : Int) + 1) % 999979) := by
        rw [take_snoc s k hlt, sumF_snoc]; exact Lib.hid rfl
      have hb : (s[k].toNat : Int) < 256 := by have := s[k].toNat_lt; omega
      go_wp2
      all_goals
        go_round
        case rel => exact ⟨k + 1, by omega, by go_num, by rw [HS.out]⟩
        case measure => simp [intOf]; omega
    · go_wp2
      go_ret
      exact ⟨ret_int (by rw [List.take_of_length_le (by simp; omega)]), rfl⟩

set_option maxRecDepth 100000 in
set_option maxHeartbeats 400000 in
theorem implChecksum_in (s : ByteArray) (w : World) (h : s.size ≤ 4000) :
    Calls Tryd.prog 26 #[.string s] w fun e w' => e = .returned (.tuple #[.int .i64 (sumF s.data.toList), .bool true]) ∧ w = w' := by
  go_enter Tryd.func26, Tryd.ntmps26
  go_wp2
  go_loop [4, 11] (fun n i => ∃ k : Nat, k ≤ s.size ∧ i = .int .i64 k ∧ n = .int .i64 (sumF (s.data.toList.take k))) (fun _ i => s.size - (intOf i).toNat)
  case atStart => exact ⟨0, Nat.zero_le _, rfl, rfl⟩
  case round =>
    obtain ⟨k, hk, rfl, rfl⟩ := hrel
    have hd := sumF_bd (s.data.toList.take k)
    by_cases hlt : k < s.size
    · have HS : Hid (sumF (s.data.toList.take (k + 1)) = (41 * sumF (s.data.toList.take k) + (s[k].toNat : Int) + 1) % 999979) := by
        rw [take_snoc s k hlt, sumF_snoc]; exact Lib.hid rfl
      have hb : (s[k].toNat : Int) < 256 := by have := s[k].toNat_lt; omega
      go_wp2
      all_goals
        go_round
        case rel => exact ⟨k + 1, by omega, by go_num, by rw [HS.out]⟩
        case measure => simp [intOf]; omega
    · go_wp2
      go_ret2
      exact ⟨ret_int2 (by rw [List.take_of_length_le (by simp; omega)]), rfl⟩
set_option maxRecDepth 100000 in
set_option maxHeartbeats 400000 in
theorem implChecksum_out (s : ByteArray) (w : World) (hs : s.size ≤ maxLen) (h : 4000 < s.size) :
    Calls Tryd.prog 26 #[.string s] w fun e w' => e = .returned (.tuple #[.int .i64 0, .bool false]) ∧ w = w' := by
  unfold maxLen at hs
  go_enter Tryd.func26, Tryd.ntmps26
  go_wp2
  go_ret2
  exact ⟨rfl, rfl⟩
end Go.Proofs.YtfbilfplbjjoaaaDoor
