/- The reference model's number text is the decimal numeral. -/
import Derived.Test.YtblbeoeklkcamaaDoorKa
import Derived.WalkKit
import Derived.Lib.Hide
import Derived.Lib.ItoaNum
import Derived.Deep.QuietTactic
import Derived.BigQuiet
import Derived.IntWalk
namespace Go.Proofs.YtblbeoeklkcamaaDoor
set_option linter.unusedVariables false
open Go.RowKit

theorem dec_small (u : Nat) (h : u < 10) : Lib.decDigits u = [UInt8.ofNat (48 + u)] := by rw [Lib.decDigits, dif_pos h]
theorem dig_slice (n : Int) (h0 : 0 ≤ n) (h1 : n < 10) (w : World) :
    Sem.run Tryd.prog (Instr.slice 9 (.string ⟨#[48, 49, 50, 51, 52, 53, 54, 55, 56, 57]⟩) (some (.int .i64 n)) (some (.int .i64 (n + 1))) none) w = .ok (.string ⟨(Lib.decDigits n.toNat).toArray⟩) w := by
  rw [dec_small n.toNat (by omega)]
  have : n = 0 ∨ n = 1 ∨ n = 2 ∨ n = 3 ∨ n = 4 ∨ n = 5 ∨ n = 6 ∨ n = 7 ∨ n = 8 ∨ n = 9 := by omega
  rcases this with rfl | rfl | rfl | rfl | rfl | rfl | rfl | rfl | rfl | rfl <;> (clear h0 h1; revert w; intro w; show _ = _; kernel_rfl)
theorem nDig_le : ∀ (k u : Nat), u < 10 ^ (k + 1) → Lib.nDigits u ≤ k + 1
  | 0, u, h => by rw [Lib.nDigits_small (by simpa using h)]; exact Nat.le_refl _
  | k + 1, u, h => by
    by_cases hs : u < 10
    · rw [Lib.nDigits_small hs]; omega
    · rw [Lib.nDigits_big hs]
      have := nDig_le k (u / 10) (by rw [Nat.pow_succ] at h; omega)
      omega
theorem dec_len (u : Nat) (h : u ≤ 9223372036854775808) : (Lib.decDigits u).length ≤ 19 := by
  rw [Lib.decDigits_length]; exact nDig_le 18 u (by omega)

theorem itoa_small (n : Int) (h0 : 0 ≤ n) : Lib.itoa n = Lib.decDigits n.toNat := by rw [Lib.itoa, if_neg (by omega)]
theorem itoa_snoc (n : Int) (h0 : 10 ≤ n) : Lib.itoa n = Lib.itoa (n / 10) ++ Lib.decDigits (n % 10).toNat := by
  rw [itoa_small n (by omega), itoa_small (n / 10) (by omega), Lib.decDigits, dif_neg (by omega)]
  have e1 : (n / 10).toNat = n.toNat / 10 := by omega
  have e2 : (n % 10).toNat = n.toNat % 10 := by omega
  rw [e1, e2, Lib.decDigits.eq_1 (n.toNat % 10), dif_pos (by omega)]
theorem itoa_neg (n : Int) (h0 : n < 0) : Lib.itoa n = 45 :: Lib.itoa (-n) := by
  rw [itoa_small (-n) (by omega), Lib.itoa, if_pos h0]
  have e1 : (-n).toNat = n.natAbs := by omega
  rw [e1]

set_option maxRecDepth 100000 in
set_option maxHeartbeats 400000 in
theorem l1Num_small (n : Int) (w : World) (h0 : 0 ≤ n) (h1 : n < 10) :
    Calls Tryd.prog 47 #[.int .i64 n] w fun e w' => e = .returned (.string ⟨(Lib.itoa n).toArray⟩) ∧ ∃ m, w' = w.drewN m := by
  rw [itoa_small n h0]
  have hs := dig_slice n h0 h1 w
  go_enter Tryd.func47, Tryd.ntmps47
  go_wp2
  go_ret
  exact ⟨rfl, 0, rfl⟩

set_option maxRecDepth 100000 in
set_option maxHeartbeats 400000 in
theorem l1Num_pos (k : Nat) : ∀ (n : Int) (w : World), n ≤ k → 0 ≤ n → n ≤ 9223372036854775807 →
    Calls Tryd.prog 47 #[.int .i64 n] w fun e w' => e = .returned (.string ⟨(Lib.itoa n).toArray⟩) ∧ ∃ m, w' = w.drewN m := by
  induction k with
  | zero => exact fun n w hk h0 h1 => l1Num_small n w h0 (by omega)
  | succ k ih =>
    intro n w hk h0 h1
    by_cases hs : n < 10
    · exact l1Num_small n w h0 hs
    · have IH := Lib.hid ih
      clear ih
      have hge : 10 ≤ n := by omega
      have a1 : 0 ≤ n / 10 := by omega
      have a2 : 0 ≤ n % 10 := by omega
      have a3 : n % 10 < 10 := by omega
      have b0 : ∀ m, Sem.run Tryd.prog (Instr.slice 9 (.string ⟨#[48, 49, 50, 51, 52, 53, 54, 55, 56, 57]⟩) (some (.int .i64 (n % 10))) (some (.int .i64 (n % 10 + 1))) none) (w.drewN m) = .ok (.string ⟨(Lib.decDigits (n % 10).toNat).toArray⟩) (w.drewN m) := fun m => dig_slice (n % 10) a2 a3 _
      have b1 : n.tdiv 10 = n / 10 := Int.tdiv_eq_ediv_of_nonneg (by omega)
      have b2 : n.tmod 10 = n % 10 := Int.tmod_eq_emod_of_nonneg (by omega)
      have b3 : IntKind.i64.wrap (n % 10 + 1) = n % 10 + 1 := IntWalk.i64_in _ (by omega)
      have b4 : IntKind.i64.wrap (n % 10) = n % 10 := IntWalk.i64_in _ (by omega)
      have b5 : IntKind.i64.wrap (n / 10) = n / 10 := IntWalk.i64_in _ (by omega)
      have b7 : ¬ 9223372036854775807 < (Lib.itoa (n / 10)).length + (Lib.decDigits (n % 10).toNat).length := by
        rw [itoa_small _ a1]
        have := dec_len (n / 10).toNat (by omega)
        have := dec_len (n % 10).toNat (by omega)
        omega
      have b6 : Hid (({ data := (Lib.itoa (n / 10)).toArray } : ByteArray) ++ { data := (Lib.decDigits (n % 10).toNat).toArray } = ⟨(Lib.itoa n).toArray⟩) := Lib.hid (by
        rw [ByteArray.mk_append_mk, itoa_snoc n hge])
      go_enter Tryd.func47, Tryd.ntmps47
      go_wp2_with fail
      go_quiet ((go_at_call 47; exact Calls.quiet_of (IH.out (n / 10) _ (by omega) (by omega) (by omega))))
      go_wp2_with fail
      go_ret
      exact ⟨ret_str b6.out, _, rfl⟩

set_option maxRecDepth 100000 in
set_option maxHeartbeats 400000 in
theorem l1Num_any (n : Int) (w : World) (h0 : -9223372036854775807 ≤ n) (h1 : n ≤ 9223372036854775807) :
    Calls Tryd.prog 47 #[.int .i64 n] w fun e w' => e = .returned (.string ⟨(Lib.itoa n).toArray⟩) ∧ ∃ m, w' = w.drewN m := by
  by_cases hn : n < 0
  · have b7 : ¬ 9223372036854775807 < 1 + (Lib.itoa (-n)).length := by
      rw [itoa_small _ (by omega)]
      have := dec_len (-n).toNat (by omega)
      omega
    have b6 : Hid (({ data := #[45] } : ByteArray) ++ { data := (Lib.itoa (-n)).toArray } = ⟨(Lib.itoa n).toArray⟩) := Lib.hid (by
      rw [ByteArray.mk_append_mk, itoa_neg n hn]; simp)
    go_enter Tryd.func47, Tryd.ntmps47
    go_wp2_with (go_at_call 47; refine (l1Num_pos (-n).toNat (-n) _ (by omega) (by omega) (by omega)).mono ?_; rintro e w' ⟨rfl, m, rfl⟩)
    go_ret
    exact ⟨ret_str b6.out, _, rfl⟩
  · exact l1Num_pos n.toNat n w (by omega) (by omega) h1
end Go.Proofs.YtblbeoeklkcamaaDoor
