/- Adding on a frame, digit by digit: what is moved, what stands then, how often is carried, the kinds. -/
import Derived.Test.YtjkjaadcdolbhaaMbtw
import Derived.Test.YtjkjaadcdolbhaaQchange
import Derived.Test.YtjkjaadcdolbhaaFsame
namespace Go.Proofs.Ytjkjaadcdolbhaa
set_option linter.unusedVariables false
open Go.RowKit

/-- The value of a rod; 0 for a rod that there is not. -/
def vAt (rs : List (Int × Int)) (r : Nat) : Int := valF (rs.getD r (0, 0))
/-- The moves that give a standard rod another value. -/
def turnM (r : Nat) (v x : Int) : List Mv := btw1 r 0 (digR v) (digR x) ++ btw1 r 1 (digR v) (digR x)
def chM : Nat → Int → List (Int × Int) → List Mv
  | 0, _, _ => []
  | r + 1, d, rs => if d ≤ 0 then [] else turnM r (vAt rs r) ((vAt rs r + d) % 10) ++ chM r ((vAt rs r + d) / 10) (rs.set r (digR ((vAt rs r + d) % 10)))
def chR : Nat → Int → List (Int × Int) → List (Int × Int)
  | 0, _, rs => rs
  | r + 1, d, rs => if d ≤ 0 then rs else chR r ((vAt rs r + d) / 10) (rs.set r (digR ((vAt rs r + d) % 10)))
def chC : Nat → Int → List (Int × Int) → Nat
  | 0, _, _ => 0
  | r + 1, d, rs => if d ≤ 0 then 0 else if 9 < vAt rs r + d then 1 + chC r 1 rs else 0
/-- A kind of the rule for adding, by its number. -/
def kindA (v d : Int) : Nat := if v % 5 + d ≤ 4 ∨ (5 ≤ d ∧ v ≤ 4 ∧ v + d - 5 ≤ 4) then 0 else if v + d ≤ 9 then 1 else if 10 - d ≤ v ∧ (10 - d) % 5 ≤ v % 5 ∧ (5 ≤ v ∨ 10 - d < 5) then 2 else 3
def bump (ks : List Int) (j : Nat) : List Int := ks.set j (ks.getD j 0 + 1)
def goM : Nat → List Int → List (Int × Int) → List Mv
  | _, [], _ => []
  | i, d :: ds, rs => chM (i + 1) d rs ++ goM (i + 1) ds (chR (i + 1) d rs)
def goR : Nat → List Int → List (Int × Int) → List (Int × Int)
  | _, [], rs => rs
  | i, d :: ds, rs => goR (i + 1) ds (chR (i + 1) d rs)
def goC : Nat → List Int → List (Int × Int) → Nat
  | _, [], _ => 0
  | i, d :: ds, rs => chC (i + 1) d rs + goC (i + 1) ds (chR (i + 1) d rs)
def goK : Nat → List Int → List (Int × Int) → List Int → List Int
  | _, [], _, ks => ks
  | i, d :: ds, rs, ks => goK (i + 1) ds (chR (i + 1) d rs) (if 0 < d then bump ks (kindA (vAt rs i) d) else ks)
/-- The digits of a number for r rods. -/
def digs (r : Nat) (n : Int) : List Int := (List.range r).map fun i => n / 10 ^ (r - 1 - i) % 10
theorem digs_len (r : Nat) (n : Int) : (digs r n).length = r := by simp [digs]
theorem digs_at (r : Nat) (n : Int) (i : Nat) (h : i < (digs r n).length) : (digs r n)[i] = n / 10 ^ (r - 1 - i) % 10 := by simp [digs]
theorem digs_bd (r : Nat) (n : Int) : ∀ d ∈ digs r n, 0 ≤ d ∧ d ≤ 9 := by
  intro d hd
  obtain ⟨i, _, rfl⟩ := List.mem_map.1 hd
  omega
theorem forR_digs (r : Nat) (n : Int) : forR r n = (digs r n).map digR := by simp [forR, digs]

/-- Rods that are standard. -/
def stdF (rs : List (Int × Int)) : Prop := ∀ (i : Nat) (h : i < rs.length), (0 ≤ rs[i].1 ∧ rs[i].1 ≤ 1) ∧ (0 ≤ rs[i].2 ∧ rs[i].2 ≤ 4)
theorem stdF_of {up lo : Int} {rs : List (Int × Int)} (hg : goodF up lo rs) (hs : ∀ i (h : i < rs.length), stdR rs[i]) : stdF rs :=
  fun i h => ⟨⟨(hg.1 i h).1.1, (hs i h).1⟩, (hg.1 i h).2.1, (hs i h).2⟩
theorem stdF_std {rs : List (Int × Int)} (h : stdF rs) : ∀ i (h : i < rs.length), stdR rs[i] := fun i hi => ⟨(h i hi).1.2, (h i hi).2.2⟩
theorem stdF_good {up lo : Int} {rs : List (Int × Int)} (h : stdF rs) (hu : 1 ≤ up ∧ up ≤ 2) (hl : 4 ≤ lo ∧ lo ≤ 5) (hn : 1 ≤ rs.length ∧ rs.length ≤ 8) : goodF up lo rs :=
  ⟨fun i hi => ⟨⟨(h i hi).1.1, by have := (h i hi).1.2; omega⟩, (h i hi).2.1, by have := (h i hi).2.2; omega⟩, hu, hl, hn⟩
theorem vAt_in {rs : List (Int × Int)} {r : Nat} (h : r < rs.length) : vAt rs r = valF rs[r] := by
  unfold vAt; rw [List.getD_eq_getElem?_getD, List.getElem?_eq_getElem h]; rfl
theorem vAt_bd {rs : List (Int × Int)} (h : stdF rs) (r : Nat) : 0 ≤ vAt rs r ∧ vAt rs r ≤ 9 := by
  by_cases hr : r < rs.length
  · rw [vAt_in hr]; have := h r hr; unfold valF; omega
  · unfold vAt; rw [List.getD_eq_getElem?_getD, List.getElem?_eq_none (by omega)]; unfold valF; simp
theorem vAt_set_ne {rs : List (Int × Int)} {q r : Nat} (h : q ≠ r) (x : Int × Int) : vAt (rs.set q x) r = vAt rs r := by
  unfold vAt; rw [List.getD_eq_getElem?_getD, List.getElem?_set_ne h, ← List.getD_eq_getElem?_getD]
theorem rod_std {r : Int × Int} (h : (0 ≤ r.1 ∧ r.1 ≤ 1) ∧ (0 ≤ r.2 ∧ r.2 ≤ 4)) : digR (valF r) = r := by
  obtain ⟨a, b⟩ := r
  simp only [digR, valF] at h ⊢
  have e1 : (5 * a + b) / 5 = a := by omega
  have e2 : (5 * a + b) % 5 = b := by omega
  rw [e1, e2]
theorem stdF_set {rs : List (Int × Int)} (h : stdF rs) (q : Nat) (x : Int) (h0 : 0 ≤ x) (h1 : x ≤ 9) : stdF (rs.set q (digR x)) := by
  intro i hi
  rw [List.length_set] at hi
  by_cases e : q = i
  · subst e; rw [List.getElem_set_self]; exact digR_bd x h0 h1
  · rw [List.getElem_set_ne e]; exact h i hi

theorem chR_len : ∀ (r : Nat) (d : Int) (rs : List (Int × Int)), (chR r d rs).length = rs.length
  | 0, _, _ => rfl
  | r + 1, d, rs => by
    unfold chR; split
    · rfl
    · rw [chR_len r, List.length_set]
theorem chR_std : ∀ (r : Nat) (d : Int) (rs : List (Int × Int)), stdF rs → stdF (chR r d rs)
  | 0, _, _, h => h
  | r + 1, d, rs, h => by
    unfold chR; split
    · exact h
    · exact chR_std r _ _ (stdF_set h _ _ (by omega) (by omega))
theorem chM_zero (r : Nat) (rs : List (Int × Int)) : chM r 0 rs = [] := by cases r <;> simp [chM]
theorem chR_zero (r : Nat) (rs : List (Int × Int)) : chR r 0 rs = rs := by cases r <;> simp [chR]
theorem chC_zero (r : Nat) (rs : List (Int × Int)) : chC r 0 rs = 0 := by cases r <;> simp [chC]
theorem chC_set : ∀ (r : Nat) (d : Int) (rs : List (Int × Int)) (q : Nat) (x : Int × Int), r ≤ q → chC r d (rs.set q x) = chC r d rs
  | 0, _, _, _, _, _ => rfl
  | r + 1, d, rs, q, x, h => by
    unfold chC; rw [vAt_set_ne (by omega), chC_set r 1 rs q x (by omega)]
theorem turnM_len (r : Nat) (v x : Int) : (turnM r v x).length ≤ 2 := by
  unfold turnM; rw [List.length_append]
  have := btw1_len r 0 (digR v) (digR x); have := btw1_len r 1 (digR v) (digR x); omega
theorem chM_len : ∀ (r : Nat) (d : Int) (rs : List (Int × Int)), (chM r d rs).length ≤ 2 * r
  | 0, _, _ => by simp [chM]
  | r + 1, d, rs => by
    unfold chM; split
    · simp
    · rw [List.length_append]
      have := turnM_len r (vAt rs r) ((vAt rs r + d) % 10)
      have := chM_len r ((vAt rs r + d) / 10) (rs.set r (digR ((vAt rs r + d) % 10)))
      omega
theorem chC_le : ∀ (r : Nat) (d : Int) (rs : List (Int × Int)), chC r d rs ≤ r
  | 0, _, _ => by simp [chC]
  | r + 1, d, rs => by
    unfold chC; have := chC_le r 1 rs; split
    · omega
    · split <;> omega
theorem goR_len : ∀ (ds : List Int) (i : Nat) (rs : List (Int × Int)), (goR i ds rs).length = rs.length
  | [], _, _ => rfl
  | d :: ds, i, rs => by unfold goR; rw [goR_len ds, chR_len]
theorem goR_std : ∀ (ds : List Int) (i : Nat) (rs : List (Int × Int)), stdF rs → stdF (goR i ds rs)
  | [], _, _, h => h
  | d :: ds, i, rs, h => by unfold goR; exact goR_std ds _ _ (chR_std _ _ _ h)

/-- What a rod shows at least. -/
theorem numF_ge {rs : List (Int × Int)} (h : stdF rs) (h0 : 0 < rs.length) : vAt rs 0 * 10 ^ (rs.length - 1) ≤ numF rs := by
  have e := numF_set rs 0 h0 (digR 0)
  have hp : 0 ≤ numF (rs.set 0 (digR 0)) := by
    have hs := stdF_set h 0 0 (by omega) (by omega)
    have := numF_bd 1 4 (rs.set 0 (digR 0)) (by omega) (by omega) (fun i hi => hs i hi) _ (Nat.le_refl _)
    rw [List.take_of_length_le (Nat.le_refl _)] at this
    exact this.1
  rw [valF_digR, ← vAt_in h0, show rs.length - 1 - 0 = rs.length - 1 by omega] at e
  have : (0 - vAt rs 0) * 10 ^ (rs.length - 1) = - (vAt rs 0 * 10 ^ (rs.length - 1)) := by rw [Int.zero_sub, Int.neg_mul]
  omega
theorem pow_next (n r : Nat) (h : r + 1 < n) : (10 : Int) ^ (n - 1 - r) = 10 ^ (n - 1 - (r + 1)) * 10 := by
  rw [show n - 1 - r = (n - 1 - (r + 1)) + 1 by omega, Int.pow_succ]
theorem digit_split (s z : Int) : (s % 10 + s / 10 * 10) * z = s * z := by rw [show s % 10 + s / 10 * 10 = s by omega]
/-- One step of a carry keeps the sum. -/
theorem step_num (rs : List (Int × Int)) (r : Nat) (d : Int) (hr : r + 1 < rs.length) :
    numF (rs.set (r + 1) (digR ((vAt rs (r + 1) + d) % 10))) + (vAt rs (r + 1) + d) / 10 * 10 ^ (rs.length - 1 - r) = numF rs + d * 10 ^ (rs.length - 1 - (r + 1)) := by
  rw [numF_set rs (r + 1) hr, valF_digR, ← vAt_in hr, pow_next rs.length r hr]
  generalize vAt rs (r + 1) = v
  generalize (10 : Int) ^ (rs.length - 1 - (r + 1)) = z
  have h1 := digit_split (v + d) z
  have h2 : (v + d) / 10 * (z * 10) = (v + d) / 10 * 10 * z := by rw [Int.mul_comm z 10, Int.mul_assoc]
  rw [h2]
  rw [Int.add_mul, Int.add_mul v d] at h1
  rw [Int.sub_mul]
  omega
theorem last_num (rs : List (Int × Int)) (r : Nat) (d : Int) (hr : r < rs.length) (hv : 0 ≤ vAt rs r + d ∧ vAt rs r + d ≤ 9) :
    numF (rs.set r (digR ((vAt rs r + d) % 10))) = numF rs + d * 10 ^ (rs.length - 1 - r) := by
  rw [numF_set rs r hr, valF_digR, ← vAt_in hr, show (vAt rs r + d) % 10 = vAt rs r + d by omega, show vAt rs r + d - vAt rs r = d by omega]
/-- A carry at the first rod is too great. -/
theorem top_num (rs : List (Int × Int)) (d : Int) (h : stdF rs) (h0 : 0 < rs.length) (hx : 9 < vAt rs 0 + d) (hT : numF rs + d * 10 ^ (rs.length - 1 - 0) < 10 ^ rs.length) : False := by
  have h1 := numF_ge h h0
  have e : (10 : Int) ^ rs.length = 10 ^ (rs.length - 1) * 10 := by
    rw [← Int.pow_succ]; congr 1; omega
  rw [e, show rs.length - 1 - 0 = rs.length - 1 by omega] at hT
  have hp : (0 : Int) < 10 ^ (rs.length - 1) := Int.pow_pos (by decide)
  generalize (10 : Int) ^ (rs.length - 1) = z at *
  have h2 : 10 * z ≤ (vAt rs 0 + d) * z := Int.mul_le_mul_of_nonneg_right (by omega) (by omega)
  rw [Int.add_mul] at h2
  omega
theorem chR_num : ∀ (r : Nat) (d : Int) (rs : List (Int × Int)), stdF rs → r < rs.length → 0 ≤ d → d ≤ 9 → numF rs + d * 10 ^ (rs.length - 1 - r) < 10 ^ rs.length →
    numF (chR (r + 1) d rs) = numF rs + d * 10 ^ (rs.length - 1 - r)
  | 0, d, rs, h, hr, h0, h9, hT => by
    unfold chR; split
    · have : d = 0 := by omega
      subst this; simp
    · have hv := vAt_bd h 0
      have : ¬ 9 < vAt rs 0 + d := fun hx => top_num rs d h hr hx hT
      show numF (rs.set 0 _) = _
      exact last_num rs 0 d hr (by omega)
  | r + 1, d, rs, h, hr, h0, h9, hT => by
    rw [chR]; split
    · have : d = 0 := by omega
      subst this; simp
    · have hv := vAt_bd h (r + 1)
      have hs := step_num rs r d hr
      have hl : (rs.set (r + 1) (digR ((vAt rs (r + 1) + d) % 10))).length = rs.length := List.length_set
      have := chR_num r ((vAt rs (r + 1) + d) / 10) (rs.set (r + 1) (digR ((vAt rs (r + 1) + d) % 10))) (stdF_set h _ _ (by omega) (by omega)) (by omega) (by omega) (by omega) (by rw [hl]; omega)
      rw [this, hl]; omega
theorem mod_next (m : Int) (k : Nat) : m % 10 ^ (k + 1) = m / 10 ^ k % 10 * 10 ^ k + m % 10 ^ k := by
  have hp : (0 : Int) < 10 ^ k := Int.pow_pos (by decide)
  have h1 := Int.mul_ediv_add_emod m (10 ^ k)
  have h2 := Int.mul_ediv_add_emod (m / 10 ^ k) 10
  have b1 := Int.emod_nonneg m (Int.ne_of_gt hp)
  have b2 := Int.emod_lt_of_pos m hp
  have b3 : 0 ≤ m / 10 ^ k % 10 := by omega
  have b4 : m / 10 ^ k % 10 ≤ 9 := by omega
  have e : m = (m / 10 ^ k % 10 * 10 ^ k + m % 10 ^ k) + 10 ^ (k + 1) * (m / 10 ^ k / 10) := by
    have : (10 : Int) ^ k * (m / 10 ^ k) = 10 ^ (k + 1) * (m / 10 ^ k / 10) + m / 10 ^ k % 10 * 10 ^ k := by
      conv => lhs; rw [← h2]
      rw [Int.mul_add, Int.pow_succ, Int.mul_assoc, Int.mul_comm (m / 10 ^ k % 10)]
    omega
  conv => lhs; rw [e]
  rw [Int.add_mul_emod_self_left]
  apply Int.emod_eq_of_lt
  · have := Int.mul_nonneg b3 (Int.le_of_lt hp); omega
  · have : m / 10 ^ k % 10 * 10 ^ k ≤ 9 * 10 ^ k := Int.mul_le_mul_of_nonneg_right b4 (Int.le_of_lt hp)
    rw [Int.pow_succ]; omega
theorem digs_drop (n : Nat) (m : Int) (i : Nat) (h : i < n) : (digs n m).drop i = m / 10 ^ (n - 1 - i) % 10 :: (digs n m).drop (i + 1) := by
  rw [List.drop_eq_getElem_cons (by rw [digs_len]; exact h), digs_at]
theorem goR_num (n : Nat) (m : Int) : ∀ (k i : Nat) (rs : List (Int × Int)), i + k = n → rs.length = n → stdF rs → numF rs + m % 10 ^ k < 10 ^ n → numF (goR i ((digs n m).drop i) rs) = numF rs + m % 10 ^ k
  | 0, i, rs, hi, hl, hs, hT => by
    rw [List.drop_eq_nil_of_le (by rw [digs_len]; omega)]
    show numF rs = _
    simp
  | k + 1, i, rs, hi, hl, hs, hT => by
    rw [digs_drop n m i (by omega), goR]
    rw [mod_next] at hT ⊢
    have hk : rs.length - 1 - i = k := by omega
    have hk2 : n - 1 - i = k := by omega
    rw [hk2]
    have hp : (0 : Int) < 10 ^ k := Int.pow_pos (by decide)
    have b1 := Int.emod_nonneg m (Int.ne_of_gt hp)
    have h1 := chR_num i (m / 10 ^ k % 10) rs hs (by omega) (by omega) (by omega) (by rw [hk, hl]; omega)
    rw [hk] at h1
    have := goR_num n m k (i + 1) (chR (i + 1) (m / 10 ^ k % 10) rs) (by omega) (by rw [chR_len]; exact hl) (chR_std _ _ _ hs) (by omega)
    omega
/-- That a number can be added. -/
def canA (rs : List (Int × Int)) (n : Int) : Prop := 0 ≤ n ∧ n < 10 ^ rs.length ∧ numF rs + n < 10 ^ rs.length
/-- While a number is added: the number that stands with what is still to be added. -/
theorem go_safe (n : Nat) (m : Int) : ∀ (i : Nat) (rs : List (Int × Int)), i < n → rs.length = n → stdF rs → numF rs + m % 10 ^ (n - i) < 10 ^ n → numF rs + m / 10 ^ (n - 1 - i) % 10 * 10 ^ (n - 1 - i) < 10 ^ n ∧ numF (chR (i + 1) (m / 10 ^ (n - 1 - i) % 10) rs) + m % 10 ^ (n - (i + 1)) < 10 ^ n := by
  intro i rs hi hl hs hT
  obtain ⟨k, hk⟩ : ∃ k, k = n - 1 - i := ⟨_, rfl⟩
  rw [show n - i = k + 1 by omega, mod_next] at hT
  rw [← hk, show n - (i + 1) = k by omega]
  have hp : (0 : Int) < 10 ^ k := Int.pow_pos (by decide)
  have b1 := Int.emod_nonneg m (Int.ne_of_gt hp)
  have hk' : rs.length - 1 - i = k := by omega
  have h1 := chR_num i (m / 10 ^ k % 10) rs hs (by omega) (by omega) (by omega) (by rw [hk', hl]; omega)
  rw [hk'] at h1
  exact ⟨by omega, by omega⟩
end Go.Proofs.Ytjkjaadcdolbhaa
