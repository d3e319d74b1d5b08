/- The reference model's scalar functions on frames. -/
import Derived.Test.YtlfplnbmgmookaaGood
namespace Go.Proofs.Ytlfplnbmgmookaa
set_option linter.unusedVariables false
open Go.RowKit

def valF (r : Int × Int) : Int := 5 * r.1 + r.2
def numF (rs : List (Int × Int)) : Int := rs.foldl (fun n r => 10 * n + valF r) 0
theorem numF_snoc (rs : List (Int × Int)) (k : Nat) (h : k < rs.length) : numF (rs.take (k + 1)) = 10 * numF (rs.take k) + valF rs[k] := by
  unfold numF; rw [List.take_succ_eq_append_getElem h, List.foldl_append]; rfl
theorem numF_bd (up lo : Int) (rs : List (Int × Int)) (hu : up ≤ 2) (hl : lo ≤ 5) (hg : ∀ (i : Nat) (h : i < rs.length), rodOk up lo rs[i]) : ∀ k, k ≤ rs.length → 0 ≤ numF (rs.take k) ∧ numF (rs.take k) + 2 ≤ 2 * 10 ^ k := by
  intro k
  induction k with
  | zero => intro _; simp [numF]
  | succ k ih =>
    intro hk
    obtain ⟨i1, i2⟩ := ih (by omega)
    obtain ⟨⟨d1, d2⟩, d3, d4⟩ := hg k (by omega)
    rw [numF_snoc rs k (by omega)]
    unfold valF
    rw [Int.pow_succ]
    omega
theorem numF_max (up lo : Int) (rs : List (Int × Int)) (hg : goodF up lo rs) (k : Nat) (hk : k ≤ rs.length) : 0 ≤ numF (rs.take k) ∧ numF (rs.take k) ≤ 200000000 := by
  obtain ⟨g1, ⟨_, g3⟩, ⟨_, g5⟩, _, g7⟩ := hg
  obtain ⟨h1, h2⟩ := numF_bd up lo rs g3 g5 g1 k hk
  have h3 : (10 : Int) ^ k ≤ 10 ^ 8 := by
    have : (10 : Nat) ^ k ≤ 10 ^ 8 := Nat.pow_le_pow_right (by decide) (by omega)
    exact_mod_cast this
  have h4 : (10 : Int) ^ 8 = 100000000 := by decide
  omega

def stdR (r : Int × Int) : Prop := r.1 ≤ 1 ∧ r.2 ≤ 4
end Go.Proofs.Ytlfplnbmgmookaa
