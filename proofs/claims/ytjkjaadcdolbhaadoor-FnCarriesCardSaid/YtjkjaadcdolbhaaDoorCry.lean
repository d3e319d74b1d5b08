/- Kinds and digits counted; rods that a carry changes. -/
import Derived.Test.YtjkjaadcdolbhaaDoorKt
namespace Go.Proofs.YtjkjaadcdolbhaaDoor
set_option linter.unusedVariables false
open Go.RowKit

theorem sumI_set : ∀ (ks : List Int) (j : Nat) (hj : j < ks.length) (x : Int), sumI (ks.set j x) = sumI ks + (x - ks[j])
  | [], j, hj, _ => by simp at hj
  | k :: t, 0, _, x => by simp [sumI]; omega
  | k :: t, j + 1, hj, x => by
    have ih := sumI_set t j (by simpa using hj) x
    simp only [List.set_cons_succ, sumI, List.getElem_cons_succ, ih]
    omega
theorem bump_sum (ks : List Int) (j : Nat) (hj : j < ks.length) : sumI (bump ks j) = sumI ks + 1 := by
  unfold bump
  rw [sumI_set ks j hj, List.getD_eq_getElem?_getD, List.getElem?_eq_getElem hj]
  simp only [Option.getD_some]
  omega
theorem bump_len (ks : List Int) (j : Nat) : (bump ks j).length = ks.length := by unfold bump; exact List.length_set
theorem kindA_lt4 (v d : Int) : kindA v d < 4 := by unfold kindA; split; omega; split; omega; split <;> omega
/-- 1 for a digit that is not 0. -/
def nz (d : Int) : Int := if 0 < d then 1 else 0
theorem goK_sum : ∀ (ds : List Int) (i : Nat) (rs : List (Int × Int)) (ks : List Int), ks.length = 4 → sumI (goK i ds rs ks) = sumI ks + sumI (ds.map nz)
  | [], _, _, ks, _ => by simp [goK, sumI]
  | d :: ds, i, rs, ks, hk => by
    unfold goK
    rw [List.map_cons, sumI]
    by_cases h : 0 < d
    · rw [if_pos h, goK_sum ds _ _ _ (by rw [bump_len]; exact hk), bump_sum ks _ (by rw [hk]; exact kindA_lt4 _ _)]
      unfold nz; rw [if_pos h]; omega
    · rw [if_neg h, goK_sum ds _ _ _ hk]
      unfold nz; rw [if_neg h]; omega
/-- How many digits are not 0, of at most k. -/
def czF : Nat → Int → Int
  | 0, _ => 0
  | k + 1, n => nz (n % 10) + czF k (n / 10)
theorem czF_zero : ∀ k, czF k 0 = 0
  | 0 => rfl
  | k + 1 => by unfold czF; rw [show (0 : Int) / 10 = 0 from rfl, czF_zero k]; rfl
theorem czF_bd : ∀ (k : Nat) (n : Int), 0 ≤ czF k n ∧ czF k n ≤ k
  | 0, n => by simp [czF]
  | k + 1, n => by
    have := czF_bd k (n / 10)
    unfold czF nz
    split <;> omega
theorem sumI_app : ∀ a b : List Int, sumI (a ++ b) = sumI a + sumI b
  | [], b => by simp [sumI]
  | x :: a, b => by rw [List.cons_append, sumI, sumI, sumI_app a b]; omega
theorem digs_snoc (n : Nat) (m : Int) : digs (n + 1) m = digs n (m / 10) ++ [m % 10] := by
  unfold digs
  rw [List.range_succ, List.map_append]
  congr 1
  · refine List.map_congr_left (fun i hi => ?_)
    have hi' := List.mem_range.1 hi
    rw [show n + 1 - 1 - i = (n - 1 - i) + 1 by omega, Int.pow_succ, Int.mul_comm ((10 : Int) ^ (n - 1 - i)) 10, Int.ediv_ediv_of_nonneg (by decide : (0 : Int) ≤ 10)]
  · simp
theorem digs_nz : ∀ (n : Nat) (m : Int) (j : Nat), 0 ≤ m → m < 10 ^ n → n ≤ j → sumI ((digs n m).map nz) = czF j m
  | 0, m, j, h0, h1, _ => by
    have : m = 0 := by simp at h1; omega
    subst this
    rw [czF_zero]; rfl
  | n + 1, m, j, h0, h1, hj => by
    obtain ⟨i, rfl⟩ : ∃ i, j = i + 1 := ⟨j - 1, by omega⟩
    rw [digs_snoc, List.map_append, sumI_app, digs_nz n (m / 10) i (by omega) (by rw [Int.pow_succ] at h1; omega) (by omega)]
    rw [show czF (i + 1) m = nz (m % 10) + czF i (m / 10) from rfl]
    simp only [List.map_cons, List.map_nil, sumI]
    omega
/-- The kinds of an addition are as many as digits that are not 0. -/
theorem kinds_all {up lo : Int} {rs : List (Int × Int)} {m : Int} (hc : canF up lo rs m) : sumI (goK 0 (digs rs.length m) rs [0, 0, 0, 0]) = czF 20 m := by
  rw [goK_sum _ _ _ _ rfl, digs_nz rs.length m 20 hc.2.2.1 hc.2.2.2.1 (by have := hc.1.2.2.2; omega)]
  simp [sumI]
/-- How many of the first rods have another value. -/
def dfC (rs qs : List (Int × Int)) : Nat → Int
  | 0 => 0
  | k + 1 => dfC rs qs k + (if vAt rs k = vAt qs k then 0 else 1)
theorem dfC_same (rs : List (Int × Int)) : ∀ k, dfC rs rs k = 0
  | 0 => rfl
  | k + 1 => by unfold dfC; rw [dfC_same rs k]; simp
theorem dfC_set (rs qs : List (Int × Int)) (q : Nat) (hq : q < rs.length) (y : Int × Int) (hy : valF y ≠ vAt rs q) (hv : vAt qs q = valF y) : ∀ k, dfC rs qs k = dfC (rs.set q y) qs k + (if q < k then 1 else 0)
  | 0 => by simp [dfC]
  | k + 1 => by
    unfold dfC
    rw [dfC_set rs qs q hq y hy hv k]
    by_cases e : q = k
    · subst e
      have h1 : vAt (rs.set q y) q = valF y := by rw [vAt_in (by rw [List.length_set]; exact hq), List.getElem_set_self]
      rw [h1, hv, if_neg (fun e : vAt rs q = valF y => hy e.symm), if_pos rfl, if_neg (Nat.lt_irrefl _), if_pos (Nat.lt_succ_self _)]
    · rw [vAt_set_ne e]
      by_cases h : q < k
      · rw [if_pos h, if_pos (show q < k + 1 by omega)]; omega
      · rw [if_neg h, if_neg (show ¬ q < k + 1 by omega)]; omega
theorem chR_ge : ∀ (r : Nat) (d : Int) (rs : List (Int × Int)) (i : Nat), r ≤ i → vAt (chR r d rs) i = vAt rs i
  | 0, _, _, _, _ => rfl
  | r + 1, d, rs, i, h => by
    unfold chR
    split
    · rfl
    · rw [chR_ge r _ _ i (by omega), vAt_set_ne (by omega)]
theorem chR_dfC : ∀ (r : Nat) (d : Int) (rs : List (Int × Int)), stdF rs → r < rs.length → 1 ≤ d → d ≤ 9 → numF rs + d * 10 ^ (rs.length - 1 - r) < 10 ^ rs.length → dfC rs (chR (r + 1) d rs) rs.length = (chC (r + 1) d rs : Nat) + 1
  | r, d, rs, h, hr, h0, h9, hT => by
    have hv := vAt_bd h r
    have hn : ¬ d ≤ 0 := by omega
    have hne : valF (digR ((vAt rs r + d) % 10)) ≠ vAt rs r := by rw [valF_digR]; omega
    by_cases hd : 9 < vAt rs r + d
    · cases r with
      | zero => exact (top_num rs d h hr hd hT).elim
      | succ r =>
        have e2 : (vAt rs (r + 1) + d) / 10 = 1 := by omega
        have hst := step_num rs r d hr
        have hs := stdF_set h (r + 1) ((vAt rs (r + 1) + d) % 10) (by omega) (by omega)
        have ih := chR_dfC r 1 (rs.set (r + 1) (digR ((vAt rs (r + 1) + d) % 10))) hs (by rw [List.length_set]; omega) (by omega) (by omega) (by rw [List.length_set]; rw [e2] at hst; omega)
        rw [List.length_set, chC_set _ _ _ _ _ (Nat.le_refl _)] at ih
        have hu := chR_ge (r + 1) 1 (rs.set (r + 1) (digR ((vAt rs (r + 1) + d) % 10))) (r + 1) (Nat.le_refl _)
        have hu2 : vAt (rs.set (r + 1) (digR ((vAt rs (r + 1) + d) % 10))) (r + 1) = valF (digR ((vAt rs (r + 1) + d) % 10)) := by rw [vAt_in (by rw [List.length_set]; exact hr), List.getElem_set_self]
        unfold chR chC
        rw [if_neg hn, if_neg hn, if_pos hd, e2, dfC_set rs _ (r + 1) hr _ hne (hu.trans hu2), if_pos hr, ih]
        omega
    · have e2 : (vAt rs r + d) / 10 = 0 := by omega
      have hu2 : vAt (rs.set r (digR ((vAt rs r + d) % 10))) r = valF (digR ((vAt rs r + d) % 10)) := by rw [vAt_in (by rw [List.length_set]; exact hr), List.getElem_set_self]
      unfold chR chC
      rw [if_neg hn, if_neg hn, if_neg hd, e2, chR_zero, dfC_set rs _ r hr _ hne hu2, if_pos hr, dfC_same]
      omega
theorem dfC_bd (rs qs : List (Int × Int)) : ∀ k, 0 ≤ dfC rs qs k ∧ dfC rs qs k ≤ k
  | 0 => by simp [dfC]
  | k + 1 => by
    have := dfC_bd rs qs k
    unfold dfC
    split <;> omega
end Go.Proofs.YtjkjaadcdolbhaaDoor
