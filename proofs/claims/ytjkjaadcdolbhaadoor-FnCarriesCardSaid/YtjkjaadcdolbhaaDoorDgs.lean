/- The law's digit sum. -/
import Derived.Test.YtjkjaadcdolbhaaDoorKt
import Derived.Test.YtjkjaadcdolbhaaDoorVin
namespace Go.Proofs.YtjkjaadcdolbhaaDoor
set_option linter.unusedVariables false
open Go.RowKit
set_option linter.unusedSimpArgs false

theorem dsF_bd : ∀ (k : Nat) (n : Int), 0 ≤ dsF k n ∧ dsF k n ≤ 9 * k
  | 0, n => by simp [dsF]
  | k + 1, n => by
    have := dsF_bd k (n / 10)
    unfold dsF
    omega
set_option maxRecDepth 100000 in
set_option maxHeartbeats 1600000 in
theorem vDigitSum_any (n : Int) (w : World) (h0 : 0 ≤ n) (h1 : n < 10 ^ 18) : Calls Tryd.prog 12 #[.int .i64 n] w fun e w' => e = .returned (.int .i64 (dsF 20 n)) ∧ w' = w := by
  have hb := dsF_bd 20 n
  obtain ⟨D, hD⟩ : ∃ D, D = dsF 20 n := ⟨_, rfl⟩
  rw [← hD] at hb ⊢
  have HD := Lib.hid hD
  have h2 : n ≤ 1000000000000000000 := by omega
  clear hD h1
  go_enter Tryd.func12, Tryd.ntmps12
  go_wp2_with fail
  go_loopw [0, 3] (fun xv sv wr => ∃ (k : Nat) (x s : Int), k ≤ 20 ∧ xv = .int .i64 x ∧ sv = .int .i64 s ∧ Hid (s + dsF k x = D) ∧ (0 ≤ x ∧ x ≤ 1000000000000000000) ∧ Hid (x < 10 ^ k) ∧ (0 ≤ s ∧ s ≤ 200) ∧ wr = w) (fun xv _ _ => (intOf xv).toNat)
  case atStart => exact ⟨20, n, 0, Nat.le_refl _, rfl, rfl, Lib.hid (by rw [Int.zero_add]; exact HD.out.symm), ⟨h0, h2⟩, Lib.hid (by omega), ⟨by omega, by omega⟩, rfl⟩
  case round =>
    obtain ⟨k, x, s, hk, rfl, rfl, HS, ⟨hx0, hx1⟩, HX, ⟨hs0, hs1⟩, hw⟩ := hrel
    subst wr
    by_cases hlt : 0 < x
    · cases k with
      | zero => have := HX.out; simp at this; omega
      | succ k =>
        have hS := HS.out
        unfold dsF at hS
        have hd := dsF_bd k (x / 10)
        have HS2 : Hid (s + x % 10 + dsF k (x / 10) = D) := Lib.hid (by omega)
        have HX2 : Hid (x / 10 < 10 ^ k) := Lib.hid (by have := HX.out; rw [Int.pow_succ] at this; omega)
        have hq : x.tdiv 10 = x / 10 := Int.tdiv_eq_ediv_of_nonneg hx0
        have hr : x.tmod 10 = x % 10 := Int.tmod_eq_emod_of_nonneg hx0
        obtain ⟨y, hy⟩ : ∃ y, IntKind.i64.wrap (x.tdiv 10) = y := ⟨_, rfl⟩
        obtain ⟨z, hz⟩ : ∃ z, x.tmod 10 = z := ⟨_, rfl⟩
        have hye : y = x / 10 := by rw [← hy, hq, IntKind.wrap_i64]; omega
        have hze : z = x % 10 := by rw [← hz, hr]
        have HY := Lib.hid hye
        have HZ := Lib.hid hze
        have hzb : 0 ≤ z ∧ z ≤ 9 := by omega
        have hsb : s + z ≤ 200 := by have := HS2.out; rw [← hze] at this; omega
        have hws : IntKind.i64.wrap (s + z) = s + z := by rw [IntKind.wrap_i64]; omega
        clear hS hd hq hr hye hze
        go_wp2_with fail
        go_roundw
        case rel => exact ⟨k, y, s + z, by omega, by first | rfl | rw [hy] | (rw [← hy, IntKind.wrap_i64]), by first | rfl | rw [hws] | (rw [hz, hws]), by rw [HY.out, HZ.out]; exact HS2, by have := HY.out; omega, by rw [HY.out]; exact HX2, ⟨by omega, hsb⟩, by first | rfl | trivial⟩
        case measure => simp [intOf]; have := HY.out; omega
    · obtain rfl : x = 0 := by omega
      have hS := HS.out
      rw [dsF_zero, Int.add_zero] at hS
      subst hS
      go_wp2_with fail
      go_ret
      exact ⟨rfl, rfl⟩
end Go.Proofs.YtjkjaadcdolbhaaDoor
