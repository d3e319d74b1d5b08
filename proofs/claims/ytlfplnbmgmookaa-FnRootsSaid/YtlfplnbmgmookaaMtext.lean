/- The text that a marking lays into a string: 'm' and the number. -/
import Derived.Test.YtlfplnbmgmookaaKa
import Derived.Lib.ItoaNum
import Derived.Laws.IdiomStrings
import Derived.IntWalk
namespace Go.Proofs.Ytlfplnbmgmookaa
set_option linter.unusedVariables false
open Go.RowKit

def mT (k : Int) : ByteArray := ⟨(109 :: Lib.decDigits k.toNat).toArray⟩
theorem mdec_snoc (n : Nat) (h : 10 ≤ n) : Lib.decDigits n = Lib.decDigits (n / 10) ++ [UInt8.ofNat (48 + n % 10)] := by
  rw [Lib.decDigits, dif_neg (by omega)]
theorem mdec_small (n : Nat) (h : n < 10) : Lib.decDigits n = [UInt8.ofNat (48 + n)] := by rw [Lib.decDigits, dif_pos h]
theorem mdec_len : ∀ (k u : Nat), u < 10 ^ (k + 1) → (Lib.decDigits u).length ≤ k + 1
  | 0, u, h => by rw [mdec_small u (by simpa using h)]; simp
  | k + 1, u, h => by
    by_cases hs : u < 10
    · rw [mdec_small u hs]; simp
    · rw [mdec_snoc u (by omega), List.length_append]
      have := mdec_len k (u / 10) (by rw [Nat.pow_succ] at h; omega)
      simp; omega

end Go.Proofs.Ytlfplnbmgmookaa
