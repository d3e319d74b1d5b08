/- The model's text of a lesson. -/
import Derived.Test.YtblbeoeklkcamaaDoorTlt
import Derived.Test.YtblbeoeklkcamaaDoorLe1
import Derived.Deep.RegionHeld3
namespace Go.Proofs.YtblbeoeklkcamaaDoor
set_option linter.unusedVariables false
open Go.RowKit

set_option maxRecDepth 100000 in
set_option maxHeartbeats 1600000 in
theorem l11Clock_any (m : Int) (w : World) (h0 : 0 ≤ m) (h1 : m ≤ 9999) :
    Calls Tryd.prog 48 #[.int .i64 m] w fun e w' => e = .returned (.string (clS m)) ∧ ∃ n, w' = w.drewN n := by
  obtain ⟨A, hA⟩ : ∃ A, A = nmS (m / 60) := ⟨_, rfl⟩
  have sA : A.size ≤ 19 := by rw [hA]; exact nmS_size _ (by omega) (by omega)
  obtain ⟨x, hx⟩ : ∃ x, x = m / 60 := ⟨_, rfl⟩
  obtain ⟨y, hy⟩ : ∃ y, y = m % 60 / 10 := ⟨_, rfl⟩
  obtain ⟨z, hz⟩ : ∃ z, z = m % 10 := ⟨_, rfl⟩
  have hC : clS m = A ++ ⟨#[58]⟩ ++ ⟨#[chE y]⟩ ++ ⟨#[chE z]⟩ := by rw [hA, hy, hz]; rfl
  rw [hC]
  have x1 : IntKind.i64.wrap (m.tdiv 60) = x := by rw [IntKind.wrap_i64, Int.tdiv_eq_ediv_of_nonneg h0]; omega
  have y1 : IntKind.i64.wrap (m.tmod 60) = m % 60 := by rw [IntKind.wrap_i64, Int.tmod_eq_emod_of_nonneg h0]; omega
  have y2 : IntKind.i64.wrap ((m % 60).tdiv 10) = y := by rw [IntKind.wrap_i64, Int.tdiv_eq_ediv_of_nonneg (by omega)]; omega
  have y3 : m.tmod 60 = m % 60 := Int.tmod_eq_emod_of_nonneg h0
  have z1 : IntKind.i64.wrap (m.tmod 10) = z := by rw [IntKind.wrap_i64, Int.tmod_eq_emod_of_nonneg h0]; omega
  have z2 : m.tmod 10 = z := by rw [Int.tmod_eq_emod_of_nonneg h0]; omega
  have HX : Hid (∀ w, Calls Tryd.prog 47 #[.int .i64 x] w fun e w' => e = .returned (.string A) ∧ ∃ n, w' = w.drewN n) := Lib.hid (fun w => by rw [hA, hx]; exact l1Num_any (m / 60) w (by omega) (by omega))
  have HY : Hid (∀ w, Calls Tryd.prog 47 #[.int .i64 y] w fun e w' => e = .returned (.string ⟨#[chE y]⟩) ∧ ∃ n, w' = w.drewN n) := Lib.hid (fun w => by rw [← nmS_dig y (by omega) (by omega)]; exact l1Num_any y w (by omega) (by omega))
  have HZ : Hid (∀ w, Calls Tryd.prog 47 #[.int .i64 z] w fun e w' => e = .returned (.string ⟨#[chE z]⟩) ∧ ∃ n, w' = w.drewN n) := Lib.hid (fun w => by rw [← nmS_dig z (by omega) (by omega)]; exact l1Num_any z w (by omega) (by omega))
  have q58 : (⟨#[58]⟩ : ByteArray).size = 1 := rfl
  obtain ⟨D, hD⟩ : ∃ D : ByteArray, D = ⟨#[chE y]⟩ := ⟨_, rfl⟩
  obtain ⟨E, hE⟩ : ∃ E : ByteArray, E = ⟨#[chE z]⟩ := ⟨_, rfl⟩
  have sD : D.size = 1 := by rw [hD]; rfl
  have sE : E.size = 1 := by rw [hE]; rfl
  rw [← hD] at HY ⊢
  rw [← hE] at HZ ⊢
  clear hA hx hy hz hC hD hE
  have g1 : ¬ 9223372036854775807 < A.size + 1 := by omega
  have g2 : ¬ 9223372036854775807 < A.size + 1 + 1 := by omega
  have g3 : ¬ 9223372036854775807 < A.size + 1 + 1 + 1 := by omega
  go_enter Tryd.func48, Tryd.ntmps48
  go_wp2_with fail
  refine (HX.out _).mono ?_
  rintro e w' ⟨rfl, m1, rfl⟩
  go_wp2_with fail

  refine (HY.out _).mono ?_
  rintro e w' ⟨rfl, m2, rfl⟩
  go_wp2_with fail
  refine (HZ.out _).mono ?_
  rintro e w' ⟨rfl, m3, rfl⟩
  go_wp2_with fail
  go_ret
  exact ⟨rfl, _, rfl⟩
end Go.Proofs.YtblbeoeklkcamaaDoor
