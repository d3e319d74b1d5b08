/- One digit as a text. -/
import Derived.Test.YtmkocinknhaniaaNum
namespace Go.Proofs.Ytmkocinknhaniaa
set_option linter.unusedVariables false
open Go.RowKit

def chD (x : Int) : UInt8 := UInt8.ofNat (48 + x.toNat)
theorem chD_nat (x : Int) (h0 : 0 ≤ x) (h1 : x ≤ 9) : ((chD x).toNat : Int) = 48 + x := by
  unfold chD
  rw [UInt8.toNat_ofNat']
  omega
theorem l1Num_dig (n : Int) (w : World) (h0 : 0 ≤ n) (h1 : n ≤ 9) :
    Calls Try.prog 44 #[.int .i64 n] w fun e w' => e = .returned (.string ⟨#[chD n]⟩) ∧ w' = w := by
  have hs := dig_slice n h0 (by omega) w
  rw [dec_small n.toNat (by omega)] at hs
  have hc : [UInt8.ofNat (48 + n.toNat)] = [chD n] := rfl
  rw [hc] at hs
  go_enter Try.func44, Try.ntmps44
  go_wp2
  go_ret
  exact ⟨rfl, rfl⟩
end Go.Proofs.Ytmkocinknhaniaa
