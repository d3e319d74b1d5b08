/- The value of a proper amount is what it was made of. -/
import Derived.Test.YtghdmiimanhjgaaDoorMsr
namespace Go.Proofs.YtghdmiimanhjgaaDoor
set_option linter.unusedVariables false
open Go.RowKit

theorem cA_prop (us : List Un) (v : Int) (i : Nat) (h : i < us.length) : cA (propL us v) i = digV us v i := by
  rw [cA_at _ i (by rw [propL_len]; exact h), propL_at]
theorem valD_prop {us : List Un} (hs : okS us) (v : Int) : ∀ d k, k + 1 + d = us.length → valD us (propL us v) (d + 1) = curV us v k * szU us k
  | 0, k, h => by
    rw [valD_step us _ k 0 h, cA_prop us v k (by omega)]
    unfold digV
    rw [if_neg (by omega)]
    show (0 + _) * _ = _
    rw [Int.zero_add]
  | d + 1, k, h => by
    rw [valD_step us _ k (d + 1) h, valD_prop hs v d (k + 1) (by omega), cA_prop us v k (by omega)]
    unfold digV
    rw [if_pos (by omega), curV]
    congr 1
    exact Int.ediv_mul_add_emod _ _
theorem valA_prop {us : List Un} (hs : okS us) (v : Int) : valA us (propL us v) = v := by
  have hl := hs.1.1
  obtain ⟨n, hn⟩ : ∃ n, us.length = n + 1 := ⟨us.length - 1, by omega⟩
  unfold valA
  rw [hn, valD_prop hs v n 0 (by omega), okS_first hs]
  show v * 1 = v
  omega
theorem curV_mono {us : List Un} (hs : okS us) {u v : Int} (h : u ≤ v) : ∀ i, curV us u i ≤ curV us v i
  | 0 => h
  | i + 1 => by
    have h3 := okS_sz hs (i + 1)
    rw [curV, curV]
    exact Int.ediv_le_ediv (by omega) (curV_mono hs h i)
theorem okP_mono {us : List Un} (hs : okS us) {u v : Int} (h0 : 0 ≤ u) (h : u ≤ v) (hp : okP us v) : okP us u :=
  ⟨h0, Int.le_trans (curV_mono hs h _) hp.2⟩
theorem okP_val {us : List Un} {cs : List Int} (h : okAm us cs) : 0 ≤ valA us cs := (valA_lt h).1
end Go.Proofs.YtghdmiimanhjgaaDoor
