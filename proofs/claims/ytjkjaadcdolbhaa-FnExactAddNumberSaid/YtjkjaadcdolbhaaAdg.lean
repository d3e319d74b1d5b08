/- Adding a number digit by digit: where it stands. -/
import Derived.Test.YtjkjaadcdolbhaaAdm
namespace Go.Proofs.Ytjkjaadcdolbhaa
set_option linter.unusedVariables false
open Go.RowKit

/-- That a number can be added to a frame. -/
def canF (up lo : Int) (rs : List (Int × Int)) (m : Int) : Prop := goodF up lo rs ∧ stdF rs ∧ 0 ≤ m ∧ m < 10 ^ rs.length ∧ numF rs + m < 10 ^ rs.length
structure GoAt (n : Nat) (m : Int) (RT : List (Int × Int)) (MT : List Mv) (CT : Int) (KT : List Int) (k : Nat) (rs : List (Int × Int)) (ms : List Mv) (c : Int) (ks : List Int) : Prop where
  std : stdF rs
  len : rs.length = n
  le : k ≤ n
  c0 : 0 ≤ c
  kb : ∀ x ∈ ks, 0 ≤ x ∧ x ≤ (k : Int)
  safe : numF rs + m % 10 ^ (n - k) < 10 ^ n
  mT : ms ++ goM k ((digs n m).drop k) rs = MT
  rT : goR k ((digs n m).drop k) rs = RT
  cT : c + goC k ((digs n m).drop k) rs = CT
  kT : goK k ((digs n m).drop k) rs ks = KT
theorem set_bd (ks : List Int) (j : Nat) (x : Int) (b : Int) (h : ∀ y ∈ ks, 0 ≤ y ∧ y ≤ b) (hx : 0 ≤ x ∧ x ≤ b) : ∀ y ∈ ks.set j x, 0 ≤ y ∧ y ≤ b := by
  intro y hy
  rcases List.mem_or_eq_of_mem_set hy with h1 | h1
  · exact h y h1
  · rw [h1]; exact hx
theorem bump_bd (ks : List Int) (j : Nat) (b : Int) (hb : 0 ≤ b) (h : ∀ y ∈ ks, 0 ≤ y ∧ y ≤ b) : ∀ y ∈ bump ks j, 0 ≤ y ∧ y ≤ b + 1 := by
  refine set_bd ks j _ _ (fun y hy => ?_) ?_
  · have := h y hy; omega
  · by_cases hj : j < ks.length
    · rw [List.getD_eq_getElem?_getD, List.getElem?_eq_getElem hj]
      have := h _ (List.getElem_mem hj)
      show 0 ≤ ks[j] + 1 ∧ ks[j] + 1 ≤ b + 1
      omega
    · rw [List.getD_eq_getElem?_getD, List.getElem?_eq_none (by omega)]
      show (0 : Int) ≤ 0 + 1 ∧ (0 : Int) + 1 ≤ b + 1
      omega
theorem goM_len : ∀ (ds : List Int) (i : Nat) (rs : List (Int × Int)), (goM i ds rs).length ≤ 2 * (i + ds.length) * ds.length
  | [], _, _ => by simp [goM]
  | d :: ds, i, rs => by
    unfold goM
    rw [List.length_append, List.length_cons]
    have h1 := chM_len (i + 1) d rs
    have h2 := goM_len ds (i + 1) (chR (i + 1) d rs)
    have e : 2 * (i + 1 + ds.length) * ds.length = 2 * (i + (ds.length + 1)) * ds.length := by rw [show i + 1 + ds.length = i + (ds.length + 1) by omega]
    rw [e] at h2
    rw [Nat.mul_succ]
    omega
theorem goC_le : ∀ (ds : List Int) (i : Nat) (rs : List (Int × Int)), goC i ds rs ≤ (i + ds.length) * ds.length
  | [], _, _ => by simp [goC]
  | d :: ds, i, rs => by
    unfold goC
    rw [List.length_cons]
    have h1 := chC_le (i + 1) d rs
    have h2 := goC_le ds (i + 1) (chR (i + 1) d rs)
    have e : (i + 1 + ds.length) * ds.length = (i + (ds.length + 1)) * ds.length := by rw [show i + 1 + ds.length = i + (ds.length + 1) by omega]
    rw [e] at h2
    rw [Nat.mul_succ]
    omega
theorem goM_small (n : Nat) (m : Int) (rs : List (Int × Int)) (h : n ≤ 8) : (goM 0 (digs n m) rs).length ≤ 128 := by
  have h1 := goM_len (digs n m) 0 rs
  rw [digs_len, Nat.zero_add] at h1
  have h2 : 2 * n * n ≤ 2 * 8 * 8 := Nat.mul_le_mul (by omega) h
  omega
theorem goC_small (n : Nat) (m : Int) (rs : List (Int × Int)) (h : n ≤ 8) : goC 0 (digs n m) rs ≤ 64 := by
  have h1 := goC_le (digs n m) 0 rs
  rw [digs_len, Nat.zero_add] at h1
  have h2 : n * n ≤ 8 * 8 := Nat.mul_le_mul h h
  omega
section
variable {n : Nat} {m : Int} {RT : List (Int × Int)} {MT : List Mv} {CT : Int} {KT : List Int} {k : Nat} {rs : List (Int × Int)} {ms : List Mv} {c : Int} {ks : List Int}
theorem GoAt.start {up lo : Int} {rs : List (Int × Int)} {m : Int} (h : canF up lo rs m) : GoAt rs.length m (goR 0 (digs rs.length m) rs) (goM 0 (digs rs.length m) rs) ((goC 0 (digs rs.length m) rs : Nat) : Int) (goK 0 (digs rs.length m) rs [0, 0, 0, 0]) 0 rs [] 0 [0, 0, 0, 0] := by
  obtain ⟨h1, h2, h3, h4, h5⟩ := h
  refine ⟨h2, rfl, Nat.zero_le _, Int.le_refl _, fun x hx => by simp at hx; subst hx; simp, ?_, rfl, rfl, by simp, rfl⟩
  rw [Nat.sub_zero, Int.emod_eq_of_lt h3 h4]
  exact h5
theorem GoAt.digit (h : GoAt n m RT MT CT KT k rs ms c ks) (hk : k < n) : numF rs + m / 10 ^ (n - 1 - k) % 10 * 10 ^ (n - 1 - k) < 10 ^ n := (go_safe n m k rs hk h.len h.std h.safe).1
theorem GoAt.zero (h : GoAt n m RT MT CT KT k rs ms c ks) (hk : k < n) (hd : m / 10 ^ (n - 1 - k) % 10 = 0) : GoAt n m RT MT CT KT (k + 1) rs ms c ks := by
  have hs := (go_safe n m k rs hk h.len h.std h.safe).2
  have hm := h.mT
  have hr := h.rT
  have hc := h.cT
  have hkk := h.kT
  rw [digs_drop n m k hk, hd] at hm hr hc hkk
  rw [hd, chR_zero] at hs
  simp only [goM, chM_zero, chR_zero, List.nil_append] at hm
  simp only [goR, chR_zero] at hr
  simp only [goC, chC_zero, chR_zero, Nat.zero_add] at hc
  simp only [goK, chR_zero, Int.lt_irrefl, if_false] at hkk
  exact ⟨h.std, h.len, hk, h.c0, fun x hx => by have := h.kb x hx; omega, hs, hm, hr, hc, hkk⟩
theorem GoAt.some (h : GoAt n m RT MT CT KT k rs ms c ks) (hk : k < n) (d : Int) (hd : m / 10 ^ (n - 1 - k) % 10 = d) (h0 : 0 < d) :
    GoAt n m RT MT CT KT (k + 1) (chR (k + 1) d rs) (ms ++ chM (k + 1) d rs) (c + (chC (k + 1) d rs : Nat)) (bump ks (kindA (vAt rs k) d)) := by
  have hs := (go_safe n m k rs hk h.len h.std h.safe).2
  have hm := h.mT
  have hr := h.rT
  have hc := h.cT
  have hkk := h.kT
  rw [digs_drop n m k hk, hd] at hm hr hc hkk
  rw [hd] at hs
  simp only [goM] at hm
  simp only [goR] at hr
  simp only [goC] at hc
  simp only [goK, h0, if_true] at hkk
  exact ⟨chR_std _ _ _ h.std, by rw [chR_len]; exact h.len, hk, by have := h.c0; omega, bump_bd ks _ _ (by omega) h.kb, hs, by rw [List.append_assoc]; exact hm, hr, by omega, hkk⟩
theorem GoAt.done (h : GoAt n m RT MT CT KT n rs ms c ks) : rs = RT ∧ ms = MT ∧ c = CT ∧ ks = KT := by
  have hm := h.mT
  have hr := h.rT
  have hc := h.cT
  have hkk := h.kT
  rw [List.drop_eq_nil_of_le (by rw [digs_len]; exact Nat.le_refl _)] at hm hr hc hkk
  simp only [goM, List.append_nil] at hm
  simp only [goR] at hr
  simp only [goC] at hc
  simp only [goK] at hkk
  exact ⟨hr, hm, by omega, hkk⟩
theorem GoAt.short (h : GoAt n m RT MT CT KT k rs ms c ks) : ms.length ≤ MT.length := by rw [← h.mT, List.length_append]; omega
theorem GoAt.cle (h : GoAt n m RT MT CT KT k rs ms c ks) : c ≤ CT := by have := h.cT; omega
end
end Go.Proofs.Ytjkjaadcdolbhaa
