/- Values of boards: carries keep them, digits and plain boards belong to one another, joined boards add up. -/
import Derived.Test.YtbdddpchlmddbaaDoorIlvp
import Derived.Test.YtbdddpchlmddbaaDoorBval
import Derived.Test.YtbdddpchlmddbaaDoorBset
namespace Go.Proofs.YtbdddpchlmddbaaDoor
set_option linter.unusedVariables false
open Go.RowKit

theorem val_setL : ∀ (k : Nat) (ls ss : List Int) (x : Int) (h1 : k < ls.length) (_ : k < ss.length), valB (ls.set k x) ss = valB ls ss + 10 ^ k * (x - ls[k]) := by
  intro k
  induction k with
  | zero =>
    intro ls ss x h1 h2
    match ls, ss, h1, h2 with
    | a :: l, b :: s, _, _ => show x + 5 * b + 10 * valB l s = a + 5 * b + 10 * valB l s + 10 ^ 0 * (x - a); rw [Int.pow_zero]; omega
  | succ k ih =>
    intro ls ss x h1 h2
    match ls, ss, h1, h2 with
    | a :: l, b :: s, h1, h2 =>
      have e := ih l s x (by simpa using h1) (by simpa using h2)
      show a + 5 * b + 10 * valB (l.set k x) s = a + 5 * b + 10 * valB l s + 10 ^ (k + 1) * (x - (a :: l)[k + 1])
      rw [e, Int.pow_succ, Int.mul_comm (10 ^ k) 10, Int.mul_assoc, List.getElem_cons_succ]
      generalize 10 ^ k * (x - l[k]'(by simpa using h1)) = P
      omega
theorem val_setS : ∀ (k : Nat) (ls ss : List Int) (y : Int) (_ : k < ls.length) (h2 : k < ss.length), valB ls (ss.set k y) = valB ls ss + 10 ^ k * (5 * (y - ss[k])) := by
  intro k
  induction k with
  | zero =>
    intro ls ss y h1 h2
    match ls, ss, h1, h2 with
    | a :: l, b :: s, _, _ => show a + 5 * y + 10 * valB l s = a + 5 * b + 10 * valB l s + 10 ^ 0 * (5 * (y - b)); rw [Int.pow_zero]; omega
  | succ k ih =>
    intro ls ss y h1 h2
    match ls, ss, h1, h2 with
    | a :: l, b :: s, h1, h2 =>
      have e := ih l s y (by simpa using h1) (by simpa using h2)
      show a + 5 * b + 10 * valB l (s.set k y) = a + 5 * b + 10 * valB l s + 10 ^ (k + 1) * (5 * (y - (b :: s)[k + 1]))
      rw [e, Int.pow_succ, Int.mul_comm (10 ^ k) 10, Int.mul_assoc, List.getElem_cons_succ]
      generalize 10 ^ k * (5 * (y - s[k]'(by simpa using h2))) = P
      omega
/-- Carries and borrows keep the value. -/
theorem mv_val (line : Bool) (k : Nat) (t : Int) (ls ss : List Int) (hs : ss.length = ls.length) (hk : k + (if line then 0 else 1) < ls.length) : valB (mvL line k t ls) (mvS line k t ss) = valB ls ss := by
  cases line with
  | true =>
    have h1 : k < ls.length := by simpa using hk
    unfold mvL mvS
    rw [if_pos rfl, if_pos rfl, val_setS k _ ss _ (by rw [List.length_set]; exact h1) (by omega), val_setL k ls ss _ h1 (by omega), getDi_at ls k h1, getDi_at ss k (by omega)]
    rw [Int.add_assoc, ← Int.mul_add, show ls[k] - 5 * t - ls[k] + 5 * (ss[k] + t - ss[k]) = 0 by omega, Int.mul_zero, Int.add_zero]
  | false =>
    have h1 : k + 1 < ls.length := by simpa using hk
    unfold mvL mvS
    rw [if_neg (by simp), if_neg (by simp), val_setS k _ ss _ (by rw [List.length_set]; omega) (by omega), val_setL (k + 1) ls ss _ h1 (by omega), getDi_at ls (k + 1) h1, getDi_at ss k (by omega)]
    rw [Int.pow_succ, Int.mul_assoc, Int.add_assoc, ← Int.mul_add, show 10 * (ls[k + 1] + t - ls[k + 1]) + 5 * (ss[k] - 2 * t - ss[k]) = 0 by omega, Int.mul_zero, Int.add_zero]
theorem plR_val (ls ss : List Int) (hs : ss.length = ls.length) : ∀ k, k < ls.length → valB (plR ls ss k).os (plR ls ss k).ot = valB ls ss := by
  intro k
  induction k with
  | zero => intro _; rfl
  | succ k ih =>
    intro hk
    have hl := plR_len ls ss k
    show valB (plC k (plA k (plR ls ss k))).os (plC k (plA k (plR ls ss k))).ot = _
    unfold plC
    rw [mv_val false k _ _ _ (by unfold plA; rw [mvS_len, mvL_len]; omega) (by unfold plA; rw [mvL_len]; simp; omega)]
    unfold plA
    rw [mv_val true k _ _ _ (by omega) (by simp; omega)]
    exact ih (by omega)
theorem plF_val (ls ss : List Int) (hs : ss.length = ls.length) (hn : 1 ≤ ls.length) : valB (plF ls ss).os (plF ls ss).ot = valB ls ss := by
  have hl := plR_len ls ss (ls.length - 1)
  unfold plF plA
  rw [mv_val true _ _ _ _ (by omega) (by simp; omega)]
  exact plR_val ls ss hs _ (by omega)
theorem dgL_cons (L : Nat) (n : Int) : dgL (L + 1) n = n % 5 :: dgL L (n / 10) := by
  unfold dgL
  rw [List.range_succ_eq_map, List.map_cons, List.map_map]
  congr 1
  · simp
  · refine List.map_congr_left fun j _ => ?_
    show n / 10 ^ (j + 1) % 5 = n / 10 / 10 ^ j % 5
    rw [Int.pow_succ, Int.mul_comm, Int.ediv_ediv_of_nonneg (by omega)]
theorem dgS_cons (L : Nat) (n : Int) : dgS (L + 1) n = n / 5 % 2 :: dgS L (n / 10) := by
  unfold dgS
  rw [List.range_succ_eq_map, List.map_cons, List.map_map]
  congr 1
  · simp
  · refine List.map_congr_left fun j _ => ?_
    show n / 10 ^ (j + 1) / 5 % 2 = n / 10 / 10 ^ j / 5 % 2
    have e : n / 10 ^ (j + 1) = n / 10 / 10 ^ j := by rw [Int.pow_succ, Int.mul_comm, Int.ediv_ediv_of_nonneg (by omega)]
    rw [e]
theorem pow_next (L : Nat) (n : Int) : n / 10 / 10 ^ L = n / 10 ^ (L + 1) := by
  rw [Int.pow_succ, Int.mul_comm, Int.ediv_ediv_of_nonneg (by omega)]
/-- The digits of a number have it as their value. -/
theorem val_digits : ∀ (L : Nat) (n : Int), 0 ≤ n → n / 10 ^ L ≤ 0 → valB (dgL L n) (dgS L n) = n := by
  intro L
  induction L with
  | zero => intro n h0 h1; simp at h1; have : n = 0 := by omega
            subst this; rfl
  | succ L ih =>
    intro n h0 h1
    rw [dgL_cons, dgS_cons]
    have e := ih (n / 10) (by omega) (by rw [pow_next]; exact h1)
    show n % 5 + 5 * (n / 5 % 2) + 10 * valB (dgL L (n / 10)) (dgS L (n / 10)) = n
    rw [e]; omega
def plD (ls ss : List Int) : Prop := ∀ k (h1 : k < ls.length) (h2 : k < ss.length), (0 ≤ ls[k] ∧ ls[k] ≤ 4) ∧ (0 ≤ ss[k] ∧ ss[k] ≤ 1)
/-- A plain board has the digits of its value. -/
theorem plain_digits : ∀ (L : Nat) (ls ss : List Int), ls.length = L → ss.length = L → plD ls ss → (0 ≤ valB ls ss ∧ valB ls ss / 10 ^ L = 0) ∧ dgL L (valB ls ss) = ls ∧ dgS L (valB ls ss) = ss := by
  intro L
  induction L with
  | zero =>
    intro ls ss h1 h2 _
    rw [List.length_eq_zero_iff.1 h1, List.length_eq_zero_iff.1 h2]
    exact ⟨⟨by show (0 : Int) ≤ 0; omega, rfl⟩, rfl, rfl⟩
  | succ L ih =>
    intro ls ss h1 h2 hd
    match ls, ss, h1, h2 with
    | a :: l, b :: s, h1, h2 =>
      obtain ⟨⟨v0, v1⟩, e1, e2⟩ := ih l s (by simpa using h1) (by simpa using h2) (fun k p q => hd (k + 1) (by simpa using p) (by simpa using q))
      obtain ⟨⟨a0, a1⟩, b0, b1⟩ := hd 0 (by simp) (by simp)
      rw [List.getElem_cons_zero] at a0 a1 b0 b1
      have ev : valB (a :: l) (b :: s) = a + 5 * b + 10 * valB l s := rfl
      have e10 : valB (a :: l) (b :: s) / 10 = valB l s := by rw [ev]; omega
      refine ⟨⟨by rw [ev]; omega, by rw [← pow_next, e10, v1]⟩, ?_, ?_⟩
      · rw [dgL_cons, e10, e1, ev]; congr 1; omega
      · rw [dgS_cons, e10, e2, ev]; congr 1; omega
theorem okB_digits (L : Nat) (n : Int) (hL : 1 ≤ L ∧ L ≤ 6) : okB (dgL L n) (dgS L n) := by
  refine ⟨by rw [dgL_len]; exact hL, by rw [dgL_len, dgS_len], fun k h1 h2 => ?_⟩
  have e1 : (dgL L n)[k] = n / 10 ^ k % 5 := by simp [dgL]
  have e2 : (dgS L n)[k] = n / 10 ^ k / 5 % 2 := by simp [dgS]
  rw [e1, e2]
  exact ⟨by omega, by omega⟩
theorem okB.plD {ls ss : List Int} (h : okB ls ss) (hp : plB ls ss) : plD ls ss := fun k h1 h2 => ⟨⟨(h.2.2 k h1 h2).1.1, (hp k h1 h2).1⟩, (h.2.2 k h1 h2).2.1, (hp k h1 h2).2⟩
/-- What is told of a plain form: a valid board, its value, its digits, how many carries. -/
theorem plF_all (ls ss : List Int) (hg : okB ls ss) (ho : (plF ls ss).ok) (hp : plB (plF ls ss).os (plF ls ss).ot) :
    okB (plF ls ss).os (plF ls ss).ot ∧ valB (plF ls ss).os (plF ls ss).ot = valB ls ss ∧ SetF ls.length (valB ls ss) (plF ls ss).os (plF ls ss).ot true ∧ 0 ≤ (plF ls ss).n := by
  have h1 : okB (plF ls ss).os (plF ls ss).ot := by
    unfold plF plA at ho ⊢
    exact ho.2
  have h2 := plF_val ls ss hg.2.1 hg.1.1
  have hl := plF_len ls ss
  obtain ⟨⟨v0, v1⟩, e1, e2⟩ := plain_digits ls.length _ _ hl.1 (by rw [hl.2, hg.2.1]) (h1.plD hp)
  rw [h2] at v0 v1 e1 e2
  obtain ⟨f1, f2⟩ := pb_F ls ss hg
  have f3 := f1.1 ⟨ho, hp⟩
  have hb := (pbS_ctr (ilv ls ss) ((okB_ilv ls ss).1 hg).2 (2 * ls.length) f3).2.1
  rw [(f2 f3).2.2] at hb
  exact ⟨h1, h2, .inl ⟨⟨v0, by omega⟩, e1.symm, e2.symm, rfl⟩, hb⟩
/-- Joined boards have the sum of both values. -/
theorem val_add : ∀ (p q a b c d : List Int), p.length = a.length → q.length = a.length → b.length = a.length → c.length = a.length → d.length = a.length →
    (∀ k (h1 : k < p.length) (h2 : k < a.length) (h3 : k < c.length), p[k] = a[k] + c[k]) → (∀ k (h1 : k < q.length) (h2 : k < b.length) (h3 : k < d.length), q[k] = b[k] + d[k]) → valB p q = valB a b + valB c d := by
  intro p
  induction p with
  | nil =>
    intro q a b c d h1 h2 h3 h4 h5 _ _
    have ha : a = [] := List.length_eq_zero_iff.1 h1.symm
    subst ha
    rw [List.length_eq_zero_iff.1 h2, List.length_eq_zero_iff.1 h3, List.length_eq_zero_iff.1 h4, List.length_eq_zero_iff.1 h5]; rfl
  | cons x p ih =>
    intro q a b c d h1 h2 h3 h4 h5 hp hq
    cases a with
    | nil => simp at h1
    | cons s a =>
    cases q with
    | nil => simp at h2
    | cons y q =>
    cases b with
    | nil => simp at h3
    | cons t b =>
    cases c with
    | nil => simp at h4
    | cons u c =>
    cases d with
    | nil => simp at h5
    | cons v d =>
      have e := ih q a b c d (by simpa using h1) (by simpa using h2) (by simpa using h3) (by simpa using h4) (by simpa using h5) (fun k k1 k2 k3 => hp (k + 1) (by simpa using k1) (by simpa using k2) (by simpa using k3)) (fun k k1 k2 k3 => hq (k + 1) (by simpa using k1) (by simpa using k2) (by simpa using k3))
      have ex := hp 0 (by simp) (by simp) (by simp)
      have ey := hq 0 (by simp) (by simp) (by simp)
      simp only [List.getElem_cons_zero] at ex ey
      show x + 5 * y + 10 * valB p q = s + 5 * t + 10 * valB a b + (u + 5 * v + 10 * valB c d)
      rw [e]; omega
theorem mv_back (line : Bool) (k : Nat) (t : Int) (ls : List Int) (hk : k + (if line then 0 else 1) < ls.length) : mvL line k (-t) (mvL line k t ls) = ls := by
  cases line with
  | true =>
    have h1 : k < ls.length := by simpa using hk
    unfold mvL
    rw [if_pos rfl, if_pos rfl, getDi_at ls k h1, getDi_at _ k (by rw [List.length_set]; exact h1), List.getElem_set_self, List.set_set, show ls[k] - 5 * t - 5 * -t = ls[k] by omega, List.set_getElem_self]
  | false =>
    have h1 : k + 1 < ls.length := by simpa using hk
    unfold mvL
    rw [if_neg (by simp), if_neg (by simp), getDi_at ls (k + 1) h1, getDi_at _ (k + 1) (by rw [List.length_set]; exact h1), List.getElem_set_self, List.set_set, show ls[k + 1] + t + -t = ls[k + 1] by omega, List.set_getElem_self]
theorem mv_backS (line : Bool) (k : Nat) (t : Int) (ss : List Int) (hk : k < ss.length) : mvS line k (-t) (mvS line k t ss) = ss := by
  cases line with
  | true =>
    unfold mvS
    rw [if_pos rfl, if_pos rfl, getDi_at ss k hk, getDi_at _ k (by rw [List.length_set]; exact hk), List.getElem_set_self, List.set_set, show ss[k] + t + -t = ss[k] by omega, List.set_getElem_self]
  | false =>
    unfold mvS
    rw [if_neg (by simp), if_neg (by simp), getDi_at ss k hk, getDi_at _ k (by rw [List.length_set]; exact hk), List.getElem_set_self, List.set_set, show ss[k] - 2 * t - 2 * -t = ss[k] by omega, List.set_getElem_self]
end Go.Proofs.YtbdddpchlmddbaaDoor
