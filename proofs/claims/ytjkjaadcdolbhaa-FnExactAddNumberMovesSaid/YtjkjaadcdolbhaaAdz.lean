/- A digit at a rod, as a number: its digits. -/
import Derived.Test.YtjkjaadcdolbhaaAdg
namespace Go.Proofs.Ytjkjaadcdolbhaa
set_option linter.unusedVariables false
open Go.RowKit

theorem dig_one (n q i : Nat) (d : Int) (hq : q < n) (hi : i < n) (h0 : 0 ≤ d) (h9 : d ≤ 9) : d * 10 ^ (n - 1 - q) / 10 ^ (n - 1 - i) % 10 = if i = q then d else 0 := by
  by_cases e : i = q
  · subst e
    rw [if_pos rfl, Int.mul_ediv_cancel _ (Int.ne_of_gt (Int.pow_pos (by decide)))]
    omega
  · rw [if_neg e]
    by_cases hl : i < q
    · have hp : (0 : Int) < 10 ^ (n - 1 - q) := Int.pow_pos (by decide)
      have h1 : d * 10 ^ (n - 1 - q) ≤ 9 * 10 ^ (n - 1 - q) := Int.mul_le_mul_of_nonneg_right h9 (Int.le_of_lt hp)
      have h2 : (10 : Int) ^ (n - 1 - q + 1) ≤ 10 ^ (n - 1 - i) := by
        have : (10 : Nat) ^ (n - 1 - q + 1) ≤ 10 ^ (n - 1 - i) := Nat.pow_le_pow_right (by decide) (by omega)
        exact_mod_cast this
      rw [Int.pow_succ] at h2
      have h3 : 0 ≤ d * 10 ^ (n - 1 - q) := Int.mul_nonneg h0 (Int.le_of_lt hp)
      rw [Int.ediv_eq_zero_of_lt h3 (by omega)]
      rfl
    · obtain ⟨j, hj⟩ : ∃ j, n - 1 - q = (n - 1 - i) + (j + 1) := ⟨i - q - 1, by omega⟩
      have hp : (10 : Int) ^ (n - 1 - i) ≠ 0 := Int.ne_of_gt (Int.pow_pos (by decide))
      rw [hj, Int.pow_add, Int.mul_comm ((10 : Int) ^ (n - 1 - i)), ← Int.mul_assoc, Int.mul_ediv_cancel _ hp, Int.pow_succ, ← Int.mul_assoc]
      omega
theorem go_none (n : Nat) (m : Int) : ∀ (k i : Nat) (rs : List (Int × Int)) (ks : List Int), i + k = n → (∀ j, i ≤ j → j < n → m / 10 ^ (n - 1 - j) % 10 = 0) →
    goM i ((digs n m).drop i) rs = [] ∧ goR i ((digs n m).drop i) rs = rs ∧ goC i ((digs n m).drop i) rs = 0 ∧ goK i ((digs n m).drop i) rs ks = ks
  | 0, i, rs, ks, hi, _ => by
    rw [List.drop_eq_nil_of_le (by rw [digs_len]; omega)]
    exact ⟨rfl, rfl, rfl, rfl⟩
  | k + 1, i, rs, ks, hi, h => by
    have hd := h i (Nat.le_refl _) (by omega)
    have ih := go_none n m k (i + 1) rs ks (by omega) (fun j h1 h2 => h j (by omega) h2)
    rw [digs_drop n m i (by omega), hd]
    simp only [goM, goR, goC, goK, chM_zero, chR_zero, chC_zero, Int.lt_irrefl, if_false, List.nil_append, Nat.zero_add]
    exact ih
theorem go_from (n : Nat) (m : Int) (q : Nat) (hq : q < n) : ∀ (k i : Nat) (rs : List (Int × Int)) (ks : List Int), i + k = q → (∀ j, j < n → j ≠ q → m / 10 ^ (n - 1 - j) % 10 = 0) →
    goM i ((digs n m).drop i) rs = chM (q + 1) (m / 10 ^ (n - 1 - q) % 10) rs ∧ goR i ((digs n m).drop i) rs = chR (q + 1) (m / 10 ^ (n - 1 - q) % 10) rs ∧ goC i ((digs n m).drop i) rs = chC (q + 1) (m / 10 ^ (n - 1 - q) % 10) rs
  | 0, i, rs, ks, hi, h => by
    have hi' : i = q := by omega
    subst hi'
    obtain ⟨k, hk⟩ : ∃ k, (i + 1) + k = n := ⟨n - (i + 1), by omega⟩
    rw [digs_drop n m i hq]
    have := go_none n m k (i + 1) (chR (i + 1) (m / 10 ^ (n - 1 - i) % 10) rs) [] hk (fun j h1 h2 => h j h2 (by omega))
    simp only [goM, goR, goC]
    rw [this.1, this.2.1, this.2.2.1, List.append_nil, Nat.add_zero]
    exact ⟨rfl, rfl, rfl⟩
  | k + 1, i, rs, ks, hi, h => by
    have hd := h i (by omega) (by omega)
    have ih := go_from n m q hq k (i + 1) rs ks (by omega) h
    rw [digs_drop n m i (by omega), hd]
    simp only [goM, goR, goC, chM_zero, chR_zero, chC_zero, List.nil_append, Nat.zero_add]
    exact ih
theorem go_digit (n q : Nat) (d : Int) (rs : List (Int × Int)) (hq : q < n) (h0 : 0 ≤ d) (h9 : d ≤ 9) :
    goM 0 (digs n (d * 10 ^ (n - 1 - q))) rs = chM (q + 1) d rs ∧ goR 0 (digs n (d * 10 ^ (n - 1 - q))) rs = chR (q + 1) d rs ∧ goC 0 (digs n (d * 10 ^ (n - 1 - q))) rs = chC (q + 1) d rs := by
  have := go_from n (d * 10 ^ (n - 1 - q)) q hq q 0 rs [] (by omega) (fun j hj hne => by rw [dig_one n q j d hq hj h0 h9, if_neg hne])
  rw [dig_one n q q d hq hq h0 h9, if_pos rfl] at this
  exact this
/-- That a digit can be added to a rod. -/
def canD (up lo : Int) (rs : List (Int × Int)) (q d : Int) : Prop := goodF up lo rs ∧ stdF rs ∧ (0 ≤ q ∧ q ≤ (rs.length : Int) - 1) ∧ (0 ≤ d ∧ d ≤ 9) ∧ numF rs + d * 10 ^ (rs.length - 1 - q.toNat) < 10 ^ rs.length
theorem canD_F {up lo : Int} {rs : List (Int × Int)} {q : Nat} {d : Int} (hq : q < rs.length) (h0 : 0 ≤ d) (h9 : d ≤ 9) : canF up lo rs (d * 10 ^ (rs.length - 1 - q)) ↔ canD up lo rs q d := by
  have hp : (0 : Int) < 10 ^ (rs.length - 1 - q) := Int.pow_pos (by decide)
  have h1 : d * 10 ^ (rs.length - 1 - q) ≤ 9 * 10 ^ (rs.length - 1 - q) := Int.mul_le_mul_of_nonneg_right h9 (Int.le_of_lt hp)
  have h2 : 0 ≤ d * 10 ^ (rs.length - 1 - q) := Int.mul_nonneg h0 (Int.le_of_lt hp)
  have h3 : (10 : Int) ^ (rs.length - 1 - q + 1) ≤ 10 ^ rs.length := by
    have : (10 : Nat) ^ (rs.length - 1 - q + 1) ≤ 10 ^ rs.length := Nat.pow_le_pow_right (by decide) (by omega)
    exact_mod_cast this
  rw [Int.pow_succ] at h3
  constructor
  · rintro ⟨a, b, c, e, f⟩
    exact ⟨a, b, by omega, ⟨h0, h9⟩, by rw [Int.toNat_natCast]; exact f⟩
  · rintro ⟨a, b, c, e, f⟩
    rw [Int.toNat_natCast] at f
    exact ⟨a, b, h2, by omega, f⟩
theorem numF_one (r q : Nat) (d : Int) (hq : q < r) : numF ((forR r 0).set q (digR d)) = d * 10 ^ (r - 1 - q) := by
  have e := numF_set (forR r 0) q (by rw [forR_len]; exact hq) (digR d)
  have hp : (0 : Int) < 10 ^ r := Int.pow_pos (by decide)
  rw [numF_forR r 0 (Int.le_refl _) hp, valF_digR, forR_at, valF_digR, forR_len] at e
  rw [e]
  simp
end Go.Proofs.Ytjkjaadcdolbhaa
