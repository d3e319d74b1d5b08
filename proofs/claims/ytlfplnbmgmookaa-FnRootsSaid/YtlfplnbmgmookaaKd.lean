/- Parts laid as one: Adm, Adg, Adz. -/
import Derived.Test.YtlfplnbmgmookaaKz
import Derived.Test.YtlfplnbmgmookaaQchange
import Derived.Test.YtlfplnbmgmookaaKm
/-! Adm -/
namespace Go.Proofs.Ytlfplnbmgmookaa
set_option linter.unusedVariables false
open Go.RowKit

/-- The value of a rod; 0 for a rod that there is not. -/
def vAt (rs : List (Int × Int)) (r : Nat) : Int := valF (rs.getD r (0, 0))
/-- The moves that give a standard rod another value. -/
def turnM (r : Nat) (v x : Int) : List Mv := btw1 r 0 (digR v) (digR x) ++ btw1 r 1 (digR v) (digR x)
def chM : Nat → Int → List (Int × Int) → List Mv
  | 0, _, _ => []
  | r + 1, d, rs => if d ≤ 0 then [] else turnM r (vAt rs r) ((vAt rs r + d) % 10) ++ chM r ((vAt rs r + d) / 10) (rs.set r (digR ((vAt rs r + d) % 10)))
def chR : Nat → Int → List (Int × Int) → List (Int × Int)
  | 0, _, rs => rs
  | r + 1, d, rs => if d ≤ 0 then rs else chR r ((vAt rs r + d) / 10) (rs.set r (digR ((vAt rs r + d) % 10)))
def chC : Nat → Int → List (Int × Int) → Nat
  | 0, _, _ => 0
  | r + 1, d, rs => if d ≤ 0 then 0 else if 9 < vAt rs r + d then 1 + chC r 1 rs else 0
/-- A kind of the rule for adding, by its number. -/
def kindA (v d : Int) : Nat := if v % 5 + d ≤ 4 ∨ (5 ≤ d ∧ v ≤ 4 ∧ v + d - 5 ≤ 4) then 0 else if v + d ≤ 9 then 1 else if 10 - d ≤ v ∧ (10 - d) % 5 ≤ v % 5 ∧ (5 ≤ v ∨ 10 - d < 5) then 2 else 3
def bump (ks : List Int) (j : Nat) : List Int := ks.set j (ks.getD j 0 + 1)
def goM : Nat → List Int → List (Int × Int) → List Mv
  | _, [], _ => []
  | i, d :: ds, rs => chM (i + 1) d rs ++ goM (i + 1) ds (chR (i + 1) d rs)
def goR : Nat → List Int → List (Int × Int) → List (Int × Int)
  | _, [], rs => rs
  | i, d :: ds, rs => goR (i + 1) ds (chR (i + 1) d rs)
def goC : Nat → List Int → List (Int × Int) → Nat
  | _, [], _ => 0
  | i, d :: ds, rs => chC (i + 1) d rs + goC (i + 1) ds (chR (i + 1) d rs)
def goK : Nat → List Int → List (Int × Int) → List Int → List Int
  | _, [], _, ks => ks
  | i, d :: ds, rs, ks => goK (i + 1) ds (chR (i + 1) d rs) (if 0 < d then bump ks (kindA (vAt rs i) d) else ks)
/-- The digits of a number for r rods. -/
def digs (r : Nat) (n : Int) : List Int := (List.range r).map fun i => n / 10 ^ (r - 1 - i) % 10
theorem digs_len (r : Nat) (n : Int) : (digs r n).length = r := by simp [digs]
theorem digs_at (r : Nat) (n : Int) (i : Nat) (h : i < (digs r n).length) : (digs r n)[i] = n / 10 ^ (r - 1 - i) % 10 := by simp [digs]
theorem digs_bd (r : Nat) (n : Int) : ∀ d ∈ digs r n, 0 ≤ d ∧ d ≤ 9 := by
  intro d hd
  obtain ⟨i, _, rfl⟩ := List.mem_map.1 hd
  omega
theorem forR_digs (r : Nat) (n : Int) : forR r n = (digs r n).map digR := by simp [forR, digs]

/-- Rods that are standard. -/
def stdF (rs : List (Int × Int)) : Prop := ∀ (i : Nat) (h : i < rs.length), (0 ≤ rs[i].1 ∧ rs[i].1 ≤ 1) ∧ (0 ≤ rs[i].2 ∧ rs[i].2 ≤ 4)
theorem stdF_of {up lo : Int} {rs : List (Int × Int)} (hg : goodF up lo rs) (hs : ∀ i (h : i < rs.length), stdR rs[i]) : stdF rs :=
  fun i h => ⟨⟨(hg.1 i h).1.1, (hs i h).1⟩, (hg.1 i h).2.1, (hs i h).2⟩
theorem stdF_std {rs : List (Int × Int)} (h : stdF rs) : ∀ i (h : i < rs.length), stdR rs[i] := fun i hi => ⟨(h i hi).1.2, (h i hi).2.2⟩
theorem stdF_good {up lo : Int} {rs : List (Int × Int)} (h : stdF rs) (hu : 1 ≤ up ∧ up ≤ 2) (hl : 4 ≤ lo ∧ lo ≤ 5) (hn : 1 ≤ rs.length ∧ rs.length ≤ 8) : goodF up lo rs :=
  ⟨fun i hi => ⟨⟨(h i hi).1.1, by have := (h i hi).1.2; omega⟩, (h i hi).2.1, by have := (h i hi).2.2; omega⟩, hu, hl, hn⟩
theorem vAt_in {rs : List (Int × Int)} {r : Nat} (h : r < rs.length) : vAt rs r = valF rs[r] := by
  unfold vAt; rw [List.getD_eq_getElem?_getD, List.getElem?_eq_getElem h]; rfl
theorem vAt_bd {rs : List (Int × Int)} (h : stdF rs) (r : Nat) : 0 ≤ vAt rs r ∧ vAt rs r ≤ 9 := by
  by_cases hr : r < rs.length
  · rw [vAt_in hr]; have := h r hr; unfold valF; omega
  · unfold vAt; rw [List.getD_eq_getElem?_getD, List.getElem?_eq_none (by omega)]; unfold valF; simp
theorem vAt_set_ne {rs : List (Int × Int)} {q r : Nat} (h : q ≠ r) (x : Int × Int) : vAt (rs.set q x) r = vAt rs r := by
  unfold vAt; rw [List.getD_eq_getElem?_getD, List.getElem?_set_ne h, ← List.getD_eq_getElem?_getD]
theorem rod_std {r : Int × Int} (h : (0 ≤ r.1 ∧ r.1 ≤ 1) ∧ (0 ≤ r.2 ∧ r.2 ≤ 4)) : digR (valF r) = r := by
  obtain ⟨a, b⟩ := r
  simp only [digR, valF] at h ⊢
  have e1 : (5 * a + b) / 5 = a := by omega
  have e2 : (5 * a + b) % 5 = b := by omega
  rw [e1, e2]
theorem stdF_set {rs : List (Int × Int)} (h : stdF rs) (q : Nat) (x : Int) (h0 : 0 ≤ x) (h1 : x ≤ 9) : stdF (rs.set q (digR x)) := by
  intro i hi
  rw [List.length_set] at hi
  by_cases e : q = i
  · subst e; rw [List.getElem_set_self]; exact digR_bd x h0 h1
  · rw [List.getElem_set_ne e]; exact h i hi

theorem chR_len : ∀ (r : Nat) (d : Int) (rs : List (Int × Int)), (chR r d rs).length = rs.length
  | 0, _, _ => rfl
  | r + 1, d, rs => by
    unfold chR; split
    · rfl
    · rw [chR_len r, List.length_set]
theorem chR_std : ∀ (r : Nat) (d : Int) (rs : List (Int × Int)), stdF rs → stdF (chR r d rs)
  | 0, _, _, h => h
  | r + 1, d, rs, h => by
    unfold chR; split
    · exact h
    · exact chR_std r _ _ (stdF_set h _ _ (by omega) (by omega))
theorem chM_zero (r : Nat) (rs : List (Int × Int)) : chM r 0 rs = [] := by cases r <;> simp [chM]
theorem chR_zero (r : Nat) (rs : List (Int × Int)) : chR r 0 rs = rs := by cases r <;> simp [chR]
theorem chC_zero (r : Nat) (rs : List (Int × Int)) : chC r 0 rs = 0 := by cases r <;> simp [chC]
theorem chC_set : ∀ (r : Nat) (d : Int) (rs : List (Int × Int)) (q : Nat) (x : Int × Int), r ≤ q → chC r d (rs.set q x) = chC r d rs
  | 0, _, _, _, _, _ => rfl
  | r + 1, d, rs, q, x, h => by
    unfold chC; rw [vAt_set_ne (by omega), chC_set r 1 rs q x (by omega)]
theorem turnM_len (r : Nat) (v x : Int) : (turnM r v x).length ≤ 2 := by
  unfold turnM; rw [List.length_append]
  have := btw1_len r 0 (digR v) (digR x); have := btw1_len r 1 (digR v) (digR x); omega
theorem chM_len : ∀ (r : Nat) (d : Int) (rs : List (Int × Int)), (chM r d rs).length ≤ 2 * r
  | 0, _, _ => by simp [chM]
  | r + 1, d, rs => by
    unfold chM; split
    · simp
    · rw [List.length_append]
      have := turnM_len r (vAt rs r) ((vAt rs r + d) % 10)
      have := chM_len r ((vAt rs r + d) / 10) (rs.set r (digR ((vAt rs r + d) % 10)))
      omega
theorem chC_le : ∀ (r : Nat) (d : Int) (rs : List (Int × Int)), chC r d rs ≤ r
  | 0, _, _ => by simp [chC]
  | r + 1, d, rs => by
    unfold chC; have := chC_le r 1 rs; split
    · omega
    · split <;> omega
theorem goR_len : ∀ (ds : List Int) (i : Nat) (rs : List (Int × Int)), (goR i ds rs).length = rs.length
  | [], _, _ => rfl
  | d :: ds, i, rs => by unfold goR; rw [goR_len ds, chR_len]
theorem goR_std : ∀ (ds : List Int) (i : Nat) (rs : List (Int × Int)), stdF rs → stdF (goR i ds rs)
  | [], _, _, h => h
  | d :: ds, i, rs, h => by unfold goR; exact goR_std ds _ _ (chR_std _ _ _ h)

/-- What a rod shows at least. -/
theorem numF_ge {rs : List (Int × Int)} (h : stdF rs) (h0 : 0 < rs.length) : vAt rs 0 * 10 ^ (rs.length - 1) ≤ numF rs := by
  have e := numF_set rs 0 h0 (digR 0)
  have hp : 0 ≤ numF (rs.set 0 (digR 0)) := by
    have hs := stdF_set h 0 0 (by omega) (by omega)
    have := numF_bd 1 4 (rs.set 0 (digR 0)) (by omega) (by omega) (fun i hi => hs i hi) _ (Nat.le_refl _)
    rw [List.take_of_length_le (Nat.le_refl _)] at this
    exact this.1
  rw [valF_digR, ← vAt_in h0, show rs.length - 1 - 0 = rs.length - 1 by omega] at e
  have : (0 - vAt rs 0) * 10 ^ (rs.length - 1) = - (vAt rs 0 * 10 ^ (rs.length - 1)) := by rw [Int.zero_sub, Int.neg_mul]
  omega
theorem pow_next (n r : Nat) (h : r + 1 < n) : (10 : Int) ^ (n - 1 - r) = 10 ^ (n - 1 - (r + 1)) * 10 := by
  rw [show n - 1 - r = (n - 1 - (r + 1)) + 1 by omega, Int.pow_succ]
theorem digit_split (s z : Int) : (s % 10 + s / 10 * 10) * z = s * z := by rw [show s % 10 + s / 10 * 10 = s by omega]
/-- One step of a carry keeps the sum. -/
theorem step_num (rs : List (Int × Int)) (r : Nat) (d : Int) (hr : r + 1 < rs.length) :
    numF (rs.set (r + 1) (digR ((vAt rs (r + 1) + d) % 10))) + (vAt rs (r + 1) + d) / 10 * 10 ^ (rs.length - 1 - r) = numF rs + d * 10 ^ (rs.length - 1 - (r + 1)) := by
  rw [numF_set rs (r + 1) hr, valF_digR, ← vAt_in hr, pow_next rs.length r hr]
  generalize vAt rs (r + 1) = v
  generalize (10 : Int) ^ (rs.length - 1 - (r + 1)) = z
  have h1 := digit_split (v + d) z
  have h2 : (v + d) / 10 * (z * 10) = (v + d) / 10 * 10 * z := by rw [Int.mul_comm z 10, Int.mul_assoc]
  rw [h2]
  rw [Int.add_mul, Int.add_mul v d] at h1
  rw [Int.sub_mul]
  omega
theorem last_num (rs : List (Int × Int)) (r : Nat) (d : Int) (hr : r < rs.length) (hv : 0 ≤ vAt rs r + d ∧ vAt rs r + d ≤ 9) :
    numF (rs.set r (digR ((vAt rs r + d) % 10))) = numF rs + d * 10 ^ (rs.length - 1 - r) := by
  rw [numF_set rs r hr, valF_digR, ← vAt_in hr, show (vAt rs r + d) % 10 = vAt rs r + d by omega, show vAt rs r + d - vAt rs r = d by omega]
/-- A carry at the first rod is too great. -/
theorem top_num (rs : List (Int × Int)) (d : Int) (h : stdF rs) (h0 : 0 < rs.length) (hx : 9 < vAt rs 0 + d) (hT : numF rs + d * 10 ^ (rs.length - 1 - 0) < 10 ^ rs.length) : False := by
  have h1 := numF_ge h h0
  have e : (10 : Int) ^ rs.length = 10 ^ (rs.length - 1) * 10 := by
    rw [← Int.pow_succ]; congr 1; omega
  rw [e, show rs.length - 1 - 0 = rs.length - 1 by omega] at hT
  have hp : (0 : Int) < 10 ^ (rs.length - 1) := Int.pow_pos (by decide)
  generalize (10 : Int) ^ (rs.length - 1) = z at *
  have h2 : 10 * z ≤ (vAt rs 0 + d) * z := Int.mul_le_mul_of_nonneg_right (by omega) (by omega)
  rw [Int.add_mul] at h2
  omega
theorem chR_num : ∀ (r : Nat) (d : Int) (rs : List (Int × Int)), stdF rs → r < rs.length → 0 ≤ d → d ≤ 9 → numF rs + d * 10 ^ (rs.length - 1 - r) < 10 ^ rs.length →
    numF (chR (r + 1) d rs) = numF rs + d * 10 ^ (rs.length - 1 - r)
  | 0, d, rs, h, hr, h0, h9, hT => by
    unfold chR; split
    · have : d = 0 := by omega
      subst this; simp
    · have hv := vAt_bd h 0
      have : ¬ 9 < vAt rs 0 + d := fun hx => top_num rs d h hr hx hT
      show numF (rs.set 0 _) = _
      exact last_num rs 0 d hr (by omega)
  | r + 1, d, rs, h, hr, h0, h9, hT => by
    rw [chR]; split
    · have : d = 0 := by omega
      subst this; simp
    · have hv := vAt_bd h (r + 1)
      have hs := step_num rs r d hr
      have hl : (rs.set (r + 1) (digR ((vAt rs (r + 1) + d) % 10))).length = rs.length := List.length_set
      have := chR_num r ((vAt rs (r + 1) + d) / 10) (rs.set (r + 1) (digR ((vAt rs (r + 1) + d) % 10))) (stdF_set h _ _ (by omega) (by omega)) (by omega) (by omega) (by omega) (by rw [hl]; omega)
      rw [this, hl]; omega
theorem mod_next (m : Int) (k : Nat) : m % 10 ^ (k + 1) = m / 10 ^ k % 10 * 10 ^ k + m % 10 ^ k := by
  have hp : (0 : Int) < 10 ^ k := Int.pow_pos (by decide)
  have h1 := Int.mul_ediv_add_emod m (10 ^ k)
  have h2 := Int.mul_ediv_add_emod (m / 10 ^ k) 10
  have b1 := Int.emod_nonneg m (Int.ne_of_gt hp)
  have b2 := Int.emod_lt_of_pos m hp
  have b3 : 0 ≤ m / 10 ^ k % 10 := by omega
  have b4 : m / 10 ^ k % 10 ≤ 9 := by omega
  have e : m = (m / 10 ^ k % 10 * 10 ^ k + m % 10 ^ k) + 10 ^ (k + 1) * (m / 10 ^ k / 10) := by
    have : (10 : Int) ^ k * (m / 10 ^ k) = 10 ^ (k + 1) * (m / 10 ^ k / 10) + m / 10 ^ k % 10 * 10 ^ k := by
      conv => lhs; rw [← h2]
      rw [Int.mul_add, Int.pow_succ, Int.mul_assoc, Int.mul_comm (m / 10 ^ k % 10)]
    omega
  conv => lhs; rw [e]
  rw [Int.add_mul_emod_self_left]
  apply Int.emod_eq_of_lt
  · have := Int.mul_nonneg b3 (Int.le_of_lt hp); omega
  · have : m / 10 ^ k % 10 * 10 ^ k ≤ 9 * 10 ^ k := Int.mul_le_mul_of_nonneg_right b4 (Int.le_of_lt hp)
    rw [Int.pow_succ]; omega
theorem digs_drop (n : Nat) (m : Int) (i : Nat) (h : i < n) : (digs n m).drop i = m / 10 ^ (n - 1 - i) % 10 :: (digs n m).drop (i + 1) := by
  rw [List.drop_eq_getElem_cons (by rw [digs_len]; exact h), digs_at]
theorem goR_num (n : Nat) (m : Int) : ∀ (k i : Nat) (rs : List (Int × Int)), i + k = n → rs.length = n → stdF rs → numF rs + m % 10 ^ k < 10 ^ n → numF (goR i ((digs n m).drop i) rs) = numF rs + m % 10 ^ k
  | 0, i, rs, hi, hl, hs, hT => by
    rw [List.drop_eq_nil_of_le (by rw [digs_len]; omega)]
    show numF rs = _
    simp
  | k + 1, i, rs, hi, hl, hs, hT => by
    rw [digs_drop n m i (by omega), goR]
    rw [mod_next] at hT ⊢
    have hk : rs.length - 1 - i = k := by omega
    have hk2 : n - 1 - i = k := by omega
    rw [hk2]
    have hp : (0 : Int) < 10 ^ k := Int.pow_pos (by decide)
    have b1 := Int.emod_nonneg m (Int.ne_of_gt hp)
    have h1 := chR_num i (m / 10 ^ k % 10) rs hs (by omega) (by omega) (by omega) (by rw [hk, hl]; omega)
    rw [hk] at h1
    have := goR_num n m k (i + 1) (chR (i + 1) (m / 10 ^ k % 10) rs) (by omega) (by rw [chR_len]; exact hl) (chR_std _ _ _ hs) (by omega)
    omega
/-- That a number can be added. -/
def canA (rs : List (Int × Int)) (n : Int) : Prop := 0 ≤ n ∧ n < 10 ^ rs.length ∧ numF rs + n < 10 ^ rs.length
/-- While a number is added: the number that stands with what is still to be added. -/
theorem go_safe (n : Nat) (m : Int) : ∀ (i : Nat) (rs : List (Int × Int)), i < n → rs.length = n → stdF rs → numF rs + m % 10 ^ (n - i) < 10 ^ n → numF rs + m / 10 ^ (n - 1 - i) % 10 * 10 ^ (n - 1 - i) < 10 ^ n ∧ numF (chR (i + 1) (m / 10 ^ (n - 1 - i) % 10) rs) + m % 10 ^ (n - (i + 1)) < 10 ^ n := by
  intro i rs hi hl hs hT
  obtain ⟨k, hk⟩ : ∃ k, k = n - 1 - i := ⟨_, rfl⟩
  rw [show n - i = k + 1 by omega, mod_next] at hT
  rw [← hk, show n - (i + 1) = k by omega]
  have hp : (0 : Int) < 10 ^ k := Int.pow_pos (by decide)
  have b1 := Int.emod_nonneg m (Int.ne_of_gt hp)
  have hk' : rs.length - 1 - i = k := by omega
  have h1 := chR_num i (m / 10 ^ k % 10) rs hs (by omega) (by omega) (by omega) (by rw [hk', hl]; omega)
  rw [hk'] at h1
  exact ⟨by omega, by omega⟩
end Go.Proofs.Ytlfplnbmgmookaa

/-! Adg -/
namespace Go.Proofs.Ytlfplnbmgmookaa
set_option linter.unusedVariables false
open Go.RowKit

/-- That a number can be added to a frame. -/
def canF (up lo : Int) (rs : List (Int × Int)) (m : Int) : Prop := goodF up lo rs ∧ stdF rs ∧ 0 ≤ m ∧ m < 10 ^ rs.length ∧ numF rs + m < 10 ^ rs.length
structure GoAt (n : Nat) (m : Int) (RT : List (Int × Int)) (MT : List Mv) (CT : Int) (KT : List Int) (k : Nat) (rs : List (Int × Int)) (ms : List Mv) (c : Int) (ks : List Int) : Prop where
  std : stdF rs
  len : rs.length = n
  le : k ≤ n
  c0 : 0 ≤ c
  kb : ∀ x ∈ ks, 0 ≤ x ∧ x ≤ (k : Int)
  safe : numF rs + m % 10 ^ (n - k) < 10 ^ n
  mT : ms ++ goM k ((digs n m).drop k) rs = MT
  rT : goR k ((digs n m).drop k) rs = RT
  cT : c + goC k ((digs n m).drop k) rs = CT
  kT : goK k ((digs n m).drop k) rs ks = KT
theorem set_bd (ks : List Int) (j : Nat) (x : Int) (b : Int) (h : ∀ y ∈ ks, 0 ≤ y ∧ y ≤ b) (hx : 0 ≤ x ∧ x ≤ b) : ∀ y ∈ ks.set j x, 0 ≤ y ∧ y ≤ b := by
  intro y hy
  rcases List.mem_or_eq_of_mem_set hy with h1 | h1
  · exact h y h1
  · rw [h1]; exact hx
theorem bump_bd (ks : List Int) (j : Nat) (b : Int) (hb : 0 ≤ b) (h : ∀ y ∈ ks, 0 ≤ y ∧ y ≤ b) : ∀ y ∈ bump ks j, 0 ≤ y ∧ y ≤ b + 1 := by
  refine set_bd ks j _ _ (fun y hy => ?_) ?_
  · have := h y hy; omega
  · by_cases hj : j < ks.length
    · rw [List.getD_eq_getElem?_getD, List.getElem?_eq_getElem hj]
      have := h _ (List.getElem_mem hj)
      show 0 ≤ ks[j] + 1 ∧ ks[j] + 1 ≤ b + 1
      omega
    · rw [List.getD_eq_getElem?_getD, List.getElem?_eq_none (by omega)]
      show (0 : Int) ≤ 0 + 1 ∧ (0 : Int) + 1 ≤ b + 1
      omega
theorem goM_len : ∀ (ds : List Int) (i : Nat) (rs : List (Int × Int)), (goM i ds rs).length ≤ 2 * (i + ds.length) * ds.length
  | [], _, _ => by simp [goM]
  | d :: ds, i, rs => by
    unfold goM
    rw [List.length_append, List.length_cons]
    have h1 := chM_len (i + 1) d rs
    have h2 := goM_len ds (i + 1) (chR (i + 1) d rs)
    have e : 2 * (i + 1 + ds.length) * ds.length = 2 * (i + (ds.length + 1)) * ds.length := by rw [show i + 1 + ds.length = i + (ds.length + 1) by omega]
    rw [e] at h2
    rw [Nat.mul_succ]
    omega
theorem goC_le : ∀ (ds : List Int) (i : Nat) (rs : List (Int × Int)), goC i ds rs ≤ (i + ds.length) * ds.length
  | [], _, _ => by simp [goC]
  | d :: ds, i, rs => by
    unfold goC
    rw [List.length_cons]
    have h1 := chC_le (i + 1) d rs
    have h2 := goC_le ds (i + 1) (chR (i + 1) d rs)
    have e : (i + 1 + ds.length) * ds.length = (i + (ds.length + 1)) * ds.length := by rw [show i + 1 + ds.length = i + (ds.length + 1) by omega]
    rw [e] at h2
    rw [Nat.mul_succ]
    omega
theorem goM_small (n : Nat) (m : Int) (rs : List (Int × Int)) (h : n ≤ 8) : (goM 0 (digs n m) rs).length ≤ 128 := by
  have h1 := goM_len (digs n m) 0 rs
  rw [digs_len, Nat.zero_add] at h1
  have h2 : 2 * n * n ≤ 2 * 8 * 8 := Nat.mul_le_mul (by omega) h
  omega
theorem goC_small (n : Nat) (m : Int) (rs : List (Int × Int)) (h : n ≤ 8) : goC 0 (digs n m) rs ≤ 64 := by
  have h1 := goC_le (digs n m) 0 rs
  rw [digs_len, Nat.zero_add] at h1
  have h2 : n * n ≤ 8 * 8 := Nat.mul_le_mul h h
  omega
section
variable {n : Nat} {m : Int} {RT : List (Int × Int)} {MT : List Mv} {CT : Int} {KT : List Int} {k : Nat} {rs : List (Int × Int)} {ms : List Mv} {c : Int} {ks : List Int}
theorem GoAt.start {up lo : Int} {rs : List (Int × Int)} {m : Int} (h : canF up lo rs m) : GoAt rs.length m (goR 0 (digs rs.length m) rs) (goM 0 (digs rs.length m) rs) ((goC 0 (digs rs.length m) rs : Nat) : Int) (goK 0 (digs rs.length m) rs [0, 0, 0, 0]) 0 rs [] 0 [0, 0, 0, 0] := by
  obtain ⟨h1, h2, h3, h4, h5⟩ := h
  refine ⟨h2, rfl, Nat.zero_le _, Int.le_refl _, fun x hx => by simp at hx; subst hx; simp, ?_, rfl, rfl, by simp, rfl⟩
  rw [Nat.sub_zero, Int.emod_eq_of_lt h3 h4]
  exact h5
theorem GoAt.digit (h : GoAt n m RT MT CT KT k rs ms c ks) (hk : k < n) : numF rs + m / 10 ^ (n - 1 - k) % 10 * 10 ^ (n - 1 - k) < 10 ^ n := (go_safe n m k rs hk h.len h.std h.safe).1
theorem GoAt.zero (h : GoAt n m RT MT CT KT k rs ms c ks) (hk : k < n) (hd : m / 10 ^ (n - 1 - k) % 10 = 0) : GoAt n m RT MT CT KT (k + 1) rs ms c ks := by
  have hs := (go_safe n m k rs hk h.len h.std h.safe).2
  have hm := h.mT
  have hr := h.rT
  have hc := h.cT
  have hkk := h.kT
  rw [digs_drop n m k hk, hd] at hm hr hc hkk
  rw [hd, chR_zero] at hs
  simp only [goM, chM_zero, chR_zero, List.nil_append] at hm
  simp only [goR, chR_zero] at hr
  simp only [goC, chC_zero, chR_zero, Nat.zero_add] at hc
  simp only [goK, chR_zero, Int.lt_irrefl, if_false] at hkk
  exact ⟨h.std, h.len, hk, h.c0, fun x hx => by have := h.kb x hx; omega, hs, hm, hr, hc, hkk⟩
theorem GoAt.some (h : GoAt n m RT MT CT KT k rs ms c ks) (hk : k < n) (d : Int) (hd : m / 10 ^ (n - 1 - k) % 10 = d) (h0 : 0 < d) :
    GoAt n m RT MT CT KT (k + 1) (chR (k + 1) d rs) (ms ++ chM (k + 1) d rs) (c + (chC (k + 1) d rs : Nat)) (bump ks (kindA (vAt rs k) d)) := by
  have hs := (go_safe n m k rs hk h.len h.std h.safe).2
  have hm := h.mT
  have hr := h.rT
  have hc := h.cT
  have hkk := h.kT
  rw [digs_drop n m k hk, hd] at hm hr hc hkk
  rw [hd] at hs
  simp only [goM] at hm
  simp only [goR] at hr
  simp only [goC] at hc
  simp only [goK, h0, if_true] at hkk
  exact ⟨chR_std _ _ _ h.std, by rw [chR_len]; exact h.len, hk, by have := h.c0; omega, bump_bd ks _ _ (by omega) h.kb, hs, by rw [List.append_assoc]; exact hm, hr, by omega, hkk⟩
theorem GoAt.done (h : GoAt n m RT MT CT KT n rs ms c ks) : rs = RT ∧ ms = MT ∧ c = CT ∧ ks = KT := by
  have hm := h.mT
  have hr := h.rT
  have hc := h.cT
  have hkk := h.kT
  rw [List.drop_eq_nil_of_le (by rw [digs_len]; exact Nat.le_refl _)] at hm hr hc hkk
  simp only [goM, List.append_nil] at hm
  simp only [goR] at hr
  simp only [goC] at hc
  simp only [goK] at hkk
  exact ⟨hr, hm, by omega, hkk⟩
theorem GoAt.short (h : GoAt n m RT MT CT KT k rs ms c ks) : ms.length ≤ MT.length := by rw [← h.mT, List.length_append]; omega
theorem GoAt.cle (h : GoAt n m RT MT CT KT k rs ms c ks) : c ≤ CT := by have := h.cT; omega
end
end Go.Proofs.Ytlfplnbmgmookaa

/-! Adz -/
namespace Go.Proofs.Ytlfplnbmgmookaa
set_option linter.unusedVariables false
open Go.RowKit

theorem dig_one (n q i : Nat) (d : Int) (hq : q < n) (hi : i < n) (h0 : 0 ≤ d) (h9 : d ≤ 9) : d * 10 ^ (n - 1 - q) / 10 ^ (n - 1 - i) % 10 = if i = q then d else 0 := by
  by_cases e : i = q
  · subst e
    rw [if_pos rfl, Int.mul_ediv_cancel _ (Int.ne_of_gt (Int.pow_pos (by decide)))]
    omega
  · rw [if_neg e]
    by_cases hl : i < q
    · have hp : (0 : Int) < 10 ^ (n - 1 - q) := Int.pow_pos (by decide)
      have h1 : d * 10 ^ (n - 1 - q) ≤ 9 * 10 ^ (n - 1 - q) := Int.mul_le_mul_of_nonneg_right h9 (Int.le_of_lt hp)
      have h2 : (10 : Int) ^ (n - 1 - q + 1) ≤ 10 ^ (n - 1 - i) := by
        have : (10 : Nat) ^ (n - 1 - q + 1) ≤ 10 ^ (n - 1 - i) := Nat.pow_le_pow_right (by decide) (by omega)
        exact_mod_cast this
      rw [Int.pow_succ] at h2
      have h3 : 0 ≤ d * 10 ^ (n - 1 - q) := Int.mul_nonneg h0 (Int.le_of_lt hp)
      rw [Int.ediv_eq_zero_of_lt h3 (by omega)]
      rfl
    · obtain ⟨j, hj⟩ : ∃ j, n - 1 - q = (n - 1 - i) + (j + 1) := ⟨i - q - 1, by omega⟩
      have hp : (10 : Int) ^ (n - 1 - i) ≠ 0 := Int.ne_of_gt (Int.pow_pos (by decide))
      rw [hj, Int.pow_add, Int.mul_comm ((10 : Int) ^ (n - 1 - i)), ← Int.mul_assoc, Int.mul_ediv_cancel _ hp, Int.pow_succ, ← Int.mul_assoc]
      omega
theorem go_none (n : Nat) (m : Int) : ∀ (k i : Nat) (rs : List (Int × Int)) (ks : List Int), i + k = n → (∀ j, i ≤ j → j < n → m / 10 ^ (n - 1 - j) % 10 = 0) →
    goM i ((digs n m).drop i) rs = [] ∧ goR i ((digs n m).drop i) rs = rs ∧ goC i ((digs n m).drop i) rs = 0 ∧ goK i ((digs n m).drop i) rs ks = ks
  | 0, i, rs, ks, hi, _ => by
    rw [List.drop_eq_nil_of_le (by rw [digs_len]; omega)]
    exact ⟨rfl, rfl, rfl, rfl⟩
  | k + 1, i, rs, ks, hi, h => by
    have hd := h i (Nat.le_refl _) (by omega)
    have ih := go_none n m k (i + 1) rs ks (by omega) (fun j h1 h2 => h j (by omega) h2)
    rw [digs_drop n m i (by omega), hd]
    simp only [goM, goR, goC, goK, chM_zero, chR_zero, chC_zero, Int.lt_irrefl, if_false, List.nil_append, Nat.zero_add]
    exact ih
theorem go_from (n : Nat) (m : Int) (q : Nat) (hq : q < n) : ∀ (k i : Nat) (rs : List (Int × Int)) (ks : List Int), i + k = q → (∀ j, j < n → j ≠ q → m / 10 ^ (n - 1 - j) % 10 = 0) →
    goM i ((digs n m).drop i) rs = chM (q + 1) (m / 10 ^ (n - 1 - q) % 10) rs ∧ goR i ((digs n m).drop i) rs = chR (q + 1) (m / 10 ^ (n - 1 - q) % 10) rs ∧ goC i ((digs n m).drop i) rs = chC (q + 1) (m / 10 ^ (n - 1 - q) % 10) rs
  | 0, i, rs, ks, hi, h => by
    have hi' : i = q := by omega
    subst hi'
    obtain ⟨k, hk⟩ : ∃ k, (i + 1) + k = n := ⟨n - (i + 1), by omega⟩
    rw [digs_drop n m i hq]
    have := go_none n m k (i + 1) (chR (i + 1) (m / 10 ^ (n - 1 - i) % 10) rs) [] hk (fun j h1 h2 => h j h2 (by omega))
    simp only [goM, goR, goC]
    rw [this.1, this.2.1, this.2.2.1, List.append_nil, Nat.add_zero]
    exact ⟨rfl, rfl, rfl⟩
  | k + 1, i, rs, ks, hi, h => by
    have hd := h i (by omega) (by omega)
    have ih := go_from n m q hq k (i + 1) rs ks (by omega) h
    rw [digs_drop n m i (by omega), hd]
    simp only [goM, goR, goC, chM_zero, chR_zero, chC_zero, List.nil_append, Nat.zero_add]
    exact ih
theorem go_digit (n q : Nat) (d : Int) (rs : List (Int × Int)) (hq : q < n) (h0 : 0 ≤ d) (h9 : d ≤ 9) :
    goM 0 (digs n (d * 10 ^ (n - 1 - q))) rs = chM (q + 1) d rs ∧ goR 0 (digs n (d * 10 ^ (n - 1 - q))) rs = chR (q + 1) d rs ∧ goC 0 (digs n (d * 10 ^ (n - 1 - q))) rs = chC (q + 1) d rs := by
  have := go_from n (d * 10 ^ (n - 1 - q)) q hq q 0 rs [] (by omega) (fun j hj hne => by rw [dig_one n q j d hq hj h0 h9, if_neg hne])
  rw [dig_one n q q d hq hq h0 h9, if_pos rfl] at this
  exact this
/-- That a digit can be added to a rod. -/
def canD (up lo : Int) (rs : List (Int × Int)) (q d : Int) : Prop := goodF up lo rs ∧ stdF rs ∧ (0 ≤ q ∧ q ≤ (rs.length : Int) - 1) ∧ (0 ≤ d ∧ d ≤ 9) ∧ numF rs + d * 10 ^ (rs.length - 1 - q.toNat) < 10 ^ rs.length
theorem canD_F {up lo : Int} {rs : List (Int × Int)} {q : Nat} {d : Int} (hq : q < rs.length) (h0 : 0 ≤ d) (h9 : d ≤ 9) : canF up lo rs (d * 10 ^ (rs.length - 1 - q)) ↔ canD up lo rs q d := by
  have hp : (0 : Int) < 10 ^ (rs.length - 1 - q) := Int.pow_pos (by decide)
  have h1 : d * 10 ^ (rs.length - 1 - q) ≤ 9 * 10 ^ (rs.length - 1 - q) := Int.mul_le_mul_of_nonneg_right h9 (Int.le_of_lt hp)
  have h2 : 0 ≤ d * 10 ^ (rs.length - 1 - q) := Int.mul_nonneg h0 (Int.le_of_lt hp)
  have h3 : (10 : Int) ^ (rs.length - 1 - q + 1) ≤ 10 ^ rs.length := by
    have : (10 : Nat) ^ (rs.length - 1 - q + 1) ≤ 10 ^ rs.length := Nat.pow_le_pow_right (by decide) (by omega)
    exact_mod_cast this
  rw [Int.pow_succ] at h3
  constructor
  · rintro ⟨a, b, c, e, f⟩
    exact ⟨a, b, by omega, ⟨h0, h9⟩, by rw [Int.toNat_natCast]; exact f⟩
  · rintro ⟨a, b, c, e, f⟩
    rw [Int.toNat_natCast] at f
    exact ⟨a, b, h2, by omega, f⟩
theorem numF_one (r q : Nat) (d : Int) (hq : q < r) : numF ((forR r 0).set q (digR d)) = d * 10 ^ (r - 1 - q) := by
  have e := numF_set (forR r 0) q (by rw [forR_len]; exact hq) (digR d)
  have hp : (0 : Int) < 10 ^ r := Int.pow_pos (by decide)
  rw [numF_forR r 0 (Int.le_refl _) hp, valF_digR, forR_at, valF_digR, forR_len] at e
  rw [e]
  simp
end Go.Proofs.Ytlfplnbmgmookaa
