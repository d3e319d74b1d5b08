/- The law on Checksum returns true: both functions compute the same fold within the limit and fail beyond it. -/
import Derived.Test.YtgfpbcflcakdbaaSumc
namespace Go.Proofs.Ytgfpbcflcakdbaa
set_option linter.unusedVariables false
open Go.RowKit
set_option maxHeartbeats 400000 in
theorem lawChecksum (a0 : ByteArray) (w : World) (w0 : a0.size ≤ maxLen) :
    Calls Try.prog 7 #[.string a0] w fun e w' => e = .returned (.bool true) ∧ Below w.heap.size w w' := by
  by_cases h0 : (1048576 : Int) < a0.size
  · unfold maxLen at w0
    go_enter Try.func7, Try.ntmps7
    go_wp2
    go_ret
    exact ⟨rfl, Below.refl _ _⟩
  · by_cases h1 : a0.size ≤ 4000
    · go_enter Try.func7, Try.ntmps7
      go_wp2_with (first
        | (go_at_call 23; refine (specChecksum_in a0 _ h1).mono ?_; rintro e w' ⟨rfl, rfl⟩)
        | (go_at_call 24; refine (implChecksum_in a0 _ h1).mono ?_; rintro e w' ⟨rfl, rfl⟩))
      go_ret
      exact ⟨rfl, Below.refl _ _⟩
    · have h1' : 4000 < a0.size := by omega
      have w0' := w0
      unfold maxLen at w0
      go_enter Try.func7, Try.ntmps7
      go_wp2_with (first
        | (go_at_call 23; refine (specChecksum_out a0 _ w0' h1').mono ?_; rintro e w' ⟨rfl, rfl⟩)
        | (go_at_call 24; refine (implChecksum_out a0 _ w0' h1').mono ?_; rintro e w' ⟨rfl, rfl⟩))
      go_ret
      exact ⟨rfl, Below.refl _ _⟩
end Go.Proofs.Ytgfpbcflcakdbaa
