/- A fraction in lowest terms: the model's, the program's. -/
import Derived.Test.YtlhcediejccieaaClass
import Derived.Test.YtlhcediejccieaaKa
import Derived.Deep.QuietTactic
import Derived.BigQuiet
namespace Go.Proofs.Ytlhcediejccieaa
set_option linter.unusedVariables false
open Go.RowKit

theorem tmodN (x y : Nat) : (x : Int).tmod (y : Int) = ((x % y : Nat) : Int) := by rw [Int.tmod_eq_emod_of_nonneg (by omega)]; exact (Int.natCast_emod x y).symm
theorem tdivN (x y : Nat) : (x : Int).tdiv (y : Int) = ((x / y : Nat) : Int) := by rw [Int.tdiv_eq_ediv_of_nonneg (by omega)]; exact (Int.natCast_ediv x y).symm
theorem gcd_step (x y : Nat) (hy : 0 < y) : Nat.gcd y (x % y) = Nat.gcd x y := by rw [Nat.gcd_comm x y, Nat.gcd_rec y x, Nat.gcd_comm]

set_option maxRecDepth 100000 in
set_option maxHeartbeats 1600000 in
theorem l2Reduce_any (n d : Nat) (w : World) (hn : n ≤ 1000000000) (hd0 : 1 ≤ d) (hd : d ≤ 1000000000) (q1 q2 : Nat) (e1 : n / Nat.gcd n d = q1) (e2 : d / Nat.gcd n d = q2) :
    Calls Try.prog 58 #[.int .i64 (n : Int), .int .i64 (d : Int)] w fun e w' => e = .returned (.tuple #[.int .i64 (q1 : Int), .int .i64 (q2 : Int)]) ∧ Below w.heap.size w w' := by
  have HE1 := Lib.hid e1
  have HE2 := Lib.hid e2
  clear e1 e2
  go_enter Try.func58, Try.ntmps58
  go_wp2_with fail
  refine (l1Most_any _ _ _).mono ?_
  rintro e w' ⟨rfl, hw⟩
  subst w'
  have hm : (if -(n : Int) < (n : Int) then (n : Int) else -(n : Int)) = (n : Int) := by split <;> omega
  rw [hm]
  clear hm
  go_wp2_with fail
  go_loopw [6, 7] (fun a b wr => ∃ x y : Nat, a = .int .i64 (x : Int) ∧ b = .int .i64 (y : Int) ∧ Hid (Nat.gcd x y = Nat.gcd n d) ∧ x ≤ 1000000000 ∧ y ≤ 1000000000 ∧ wr = w) (fun _ b _ => (intOf b).toNat)
  case atStart => exact ⟨n, d, rfl, rfl, Lib.hid rfl, hn, hd, rfl⟩
  case round =>
    obtain ⟨x, y, rfl, rfl, HG, hx, hy, rfl⟩ := hrel
    by_cases hy0 : 0 < y
    · have hne : ((y : Int) != 0) = true := by simp; omega
      have hne' : ((y : Int) == 0) = false := by simp; omega
      have hnz : ¬ (y : Int) = 0 := by omega
      have hmod := tmodN x y
      have hlt : x % y < y := Nat.mod_lt x hy0
      have HS := Lib.hid (gcd_step x y hy0)
      generalize x % y = z at hmod hlt HS
      go_wp2_with fail
      go_roundw
      case rel => exact ⟨y, z, rfl, by first | rfl | go_num, Lib.hid (HS.out.trans HG.out), hy, by omega, by trivial⟩
      case measure => simp [intOf]; omega
    · obtain rfl : y = 0 := by omega
      have hgx : Nat.gcd n d = x := by have := HG.out; rw [Nat.gcd_zero_right] at this; exact this.symm
      have hx0 : 0 < x := by rw [← hgx]; exact Nat.gcd_pos_of_pos_right n (by omega)
      have hq1 : (n : Int).tdiv (x : Int) = (q1 : Int) := by rw [tdivN, ← HE1.out, hgx]
      have hq2 : (d : Int).tdiv (x : Int) = (q2 : Int) := by rw [tdivN, ← HE2.out, hgx]
      have hb1 : q1 ≤ n := by rw [← HE1.out]; exact Nat.div_le_self n _
      have hb2 : q2 ≤ d := by rw [← HE2.out]; exact Nat.div_le_self d _
      clear hgx HG HE1 HE2
      have hnz : ((x : Int) == 0) = false := by simp; omega
      have hnz' : ¬ (x : Int) = 0 := by omega
      have hw1 : IntKind.i64.wrap (q1 : Int) = (q1 : Int) := by rw [IntKind.wrap_i64]; omega
      have hw2 : IntKind.i64.wrap (q2 : Int) = (q2 : Int) := by rw [IntKind.wrap_i64]; omega
      go_wp2_with fail
      go_quiet (fail)
      go_wp2_with fail
      go_ret2
      exact ⟨rfl, bl_drewN (Below.refl _ _) _⟩
set_option maxRecDepth 100000 in
set_option maxHeartbeats 1600000 in
theorem lowest_any (n d : Nat) (w : World) (hn : n ≤ 1000000000) (hd0 : 1 ≤ d) (hd : d ≤ 1000000000) (q1 q2 : Nat) (e1 : n / Nat.gcd n d = q1) (e2 : d / Nat.gcd n d = q2) :
    Calls Try.prog 57 #[.int .i64 (n : Int), .int .i64 (d : Int)] w fun e w' => e = .returned (.tuple #[.int .i64 (q1 : Int), .int .i64 (q2 : Int)]) ∧ Below w.heap.size w w' := by
  have HE1 := Lib.hid e1
  have HE2 := Lib.hid e2
  clear e1 e2
  go_enter Try.func57, Try.ntmps57
  go_wp2_with fail
  go_loopw [6, 7] (fun a b wr => ∃ x y : Nat, a = .int .i64 (x : Int) ∧ b = .int .i64 (y : Int) ∧ Hid (Nat.gcd x y = Nat.gcd n d) ∧ x ≤ 1000000000 ∧ y ≤ 1000000000 ∧ Below w.heap.size w wr) (fun _ b _ => (intOf b).toNat)
  case atStart => exact ⟨n, d, rfl, rfl, Lib.hid rfl, hn, hd, Below.refl _ _⟩
  case round =>
    obtain ⟨x, y, rfl, rfl, HG, hx, hy, hb⟩ := hrel
    have HB := Lib.hid hb
    clear hb
    by_cases hy0 : 0 < y
    · have hne : ((y : Int) != 0) = true := by simp; omega
      have hne' : ((y : Int) == 0) = false := by simp; omega
      have hnz : ¬ (y : Int) = 0 := by omega
      have hmod := tmodN x y
      have hlt : x % y < y := Nat.mod_lt x hy0
      have HS := Lib.hid (gcd_step x y hy0)
      generalize x % y = z at hmod hlt HS
      have hw0 : IntKind.i64.wrap (z : Int) = (z : Int) := by rw [IntKind.wrap_i64]; omega
      go_wp2_with fail
      go_quiet (fail)
      go_wp2_with fail
      go_roundw
      case rel => exact ⟨y, z, rfl, by first | rfl | go_num, Lib.hid (HS.out.trans HG.out), hy, by omega, bl_drewN HB.out _⟩
      case measure => simp [intOf]; omega
    · obtain rfl : y = 0 := by omega
      have hgx : Nat.gcd n d = x := by have := HG.out; rw [Nat.gcd_zero_right] at this; exact this.symm
      have hx0 : 0 < x := by rw [← hgx]; exact Nat.gcd_pos_of_pos_right n (by omega)
      have hq1 : (n : Int).tdiv (x : Int) = (q1 : Int) := by rw [tdivN, ← HE1.out, hgx]
      have hq2 : (d : Int).tdiv (x : Int) = (q2 : Int) := by rw [tdivN, ← HE2.out, hgx]
      have hb1 : q1 ≤ n := by rw [← HE1.out]; exact Nat.div_le_self n _
      have hb2 : q2 ≤ d := by rw [← HE2.out]; exact Nat.div_le_self d _
      clear hgx HG HE1 HE2
      have hnz : ((x : Int) == 0) = false := by simp; omega
      have hnz' : ¬ (x : Int) = 0 := by omega
      have hw1 : IntKind.i64.wrap (q1 : Int) = (q1 : Int) := by rw [IntKind.wrap_i64]; omega
      have hw2 : IntKind.i64.wrap (q2 : Int) = (q2 : Int) := by rw [IntKind.wrap_i64]; omega
      go_wp2_with fail
      go_quiet (fail)
      go_wp2_with fail
      go_ret2
      exact ⟨rfl, bl_drewN HB.out _⟩
end Go.Proofs.Ytlhcediejccieaa
