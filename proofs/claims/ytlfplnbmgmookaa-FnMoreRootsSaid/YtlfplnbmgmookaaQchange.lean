/- The program's ChangeOf. -/
import Derived.Test.YtlfplnbmgmookaaKi
import Derived.Test.YtlfplnbmgmookaaKj
import Derived.Test.YtlfplnbmgmookaaIScal
namespace Go.Proofs.Ytlfplnbmgmookaa
set_option linter.unusedVariables false
open Go.RowKit

theorem numF_from (rs : List (Int × Int)) : ∀ a : Int, rs.foldl (fun n r => 10 * n + valF r) a = a * 10 ^ rs.length + numF rs := by
  induction rs with
  | nil => intro a; simp [numF]
  | cons r t ih =>
    intro a
    show t.foldl _ (10 * a + valF r) = _
    rw [ih]
    have h0 : numF (r :: t) = t.foldl (fun n r => 10 * n + valF r) (10 * 0 + valF r) := rfl
    rw [h0, ih, List.length_cons, Int.pow_succ, Int.add_mul, Int.add_mul]
    have e1 : 10 * a * 10 ^ t.length = a * (10 ^ t.length * 10) := by rw [Int.mul_comm 10 a, Int.mul_assoc, Int.mul_comm 10]
    rw [e1]; simp; omega
theorem numF_mid (a b : List (Int × Int)) (r : Int × Int) : numF (a ++ r :: b) = (10 * numF a + valF r) * 10 ^ b.length + numF b := by
  have : numF (a ++ r :: b) = b.foldl (fun n r => 10 * n + valF r) (10 * numF a + valF r) := by unfold numF; rw [List.foldl_append]; rfl
  rw [this, numF_from]
theorem numF_set (rs : List (Int × Int)) (q : Nat) (hq : q < rs.length) (r : Int × Int) : numF (rs.set q r) = numF rs + (valF r - valF rs[q]) * 10 ^ (rs.length - 1 - q) := by
  have e1 : rs = rs.take q ++ rs[q] :: rs.drop (q + 1) := by rw [← List.drop_eq_getElem_cons hq, List.take_append_drop]
  have e2 : rs.set q r = rs.take q ++ r :: rs.drop (q + 1) := by rw [List.set_eq_take_append_cons_drop, if_pos hq]
  have h1 : numF rs = (10 * numF (rs.take q) + valF rs[q]) * 10 ^ (rs.drop (q + 1)).length + numF (rs.drop (q + 1)) := by
    conv => lhs; rw [e1]
    rw [numF_mid]
  rw [e2, numF_mid, h1, List.length_drop, show rs.length - (q + 1) = rs.length - 1 - q by omega, Int.add_mul, Int.add_mul, Int.sub_mul]
  omega
theorem numF_mov (rs : List (Int × Int)) (q p : Nat) (amt : Int) (hq : q < rs.length) (hp : p < 2) : numF (movF rs ⟨(q : Int), (p : Int), amt⟩) = numF rs + amt * worthN rs.length ⟨(q : Int), (p : Int), amt⟩ := by
  have hm : movF rs ⟨(q : Int), (p : Int), amt⟩ = rs.set q (movR rs[q] ⟨(q : Int), (p : Int), amt⟩) := by
    unfold movF
    show rs.set (q : Int).toNat (movR (rs.getD (q : Int).toNat (0, 0)) _) = _
    rw [Int.toNat_natCast, List.getD_eq_getElem?_getD, List.getElem?_eq_getElem hq]; rfl
  rw [hm, numF_set rs q hq]
  have hw : worthN rs.length ⟨(q : Int), (p : Int), amt⟩ = (if (p : Int) = 0 then 5 else 1) * 10 ^ (rs.length - 1 - q) := rfl
  rw [hw]
  have hv : valF (movR rs[q] ⟨(q : Int), (p : Int), amt⟩) - valF rs[q] = amt * (if (p : Int) = 0 then 5 else 1) := by
    unfold movR valF
    dsimp only
    split <;> dsimp only <;> omega
  rw [hv, Int.mul_assoc]
theorem movF_bd (rs : List (Int × Int)) (q p : Nat) (amt : Int) (hq : q < rs.length) (b : Int) (hb : ∀ i (h : i < rs.length), (-b ≤ rs[i].1 ∧ rs[i].1 ≤ b) ∧ (-b ≤ rs[i].2 ∧ rs[i].2 ≤ b)) (ha : -5 ≤ amt ∧ amt ≤ 5) :
    ∀ i (h : i < (movF rs ⟨(q : Int), (p : Int), amt⟩).length), (-(b + 5) ≤ (movF rs ⟨(q : Int), (p : Int), amt⟩)[i].1 ∧ (movF rs ⟨(q : Int), (p : Int), amt⟩)[i].1 ≤ b + 5) ∧ (-(b + 5) ≤ (movF rs ⟨(q : Int), (p : Int), amt⟩)[i].2 ∧ (movF rs ⟨(q : Int), (p : Int), amt⟩)[i].2 ≤ b + 5) := by
  have hm : movF rs ⟨(q : Int), (p : Int), amt⟩ = rs.set q (movR rs[q] ⟨(q : Int), (p : Int), amt⟩) := by
    unfold movF
    show rs.set (q : Int).toNat (movR (rs.getD (q : Int).toNat (0, 0)) _) = _
    rw [Int.toNat_natCast, List.getD_eq_getElem?_getD, List.getElem?_eq_getElem hq]; rfl
  rw [hm]
  intro i h
  rw [List.length_set] at h
  have h1 := hb i h
  by_cases e : i = q
  · subst e
    rw [List.getElem_set_self]
    unfold movR
    dsimp only
    split <;> dsimp only <;> omega
  · rw [List.getElem_set_ne (fun h => e h.symm)]
    omega
theorem numF_wide (rs : List (Int × Int)) (hl : rs.length ≤ 8) (hb : ∀ i (h : i < rs.length), (-300 ≤ rs[i].1 ∧ rs[i].1 ≤ 300) ∧ (-300 ≤ rs[i].2 ∧ rs[i].2 ≤ 300)) (k : Nat) (hk : k ≤ rs.length) : -1000000000000 ≤ numF (rs.take k) ∧ numF (rs.take k) ≤ 1000000000000 := by
  have key : ∀ k, k ≤ rs.length → -(200 * 10 ^ k) ≤ numF (rs.take k) - 200 ∧ numF (rs.take k) + 200 ≤ 200 * 10 ^ k := by
    intro k
    induction k with
    | zero => intro _; simp [numF]
    | succ k ih =>
      intro hk
      obtain ⟨i1, i2⟩ := ih (by omega)
      have h := hb k (by omega)
      rw [numF_snoc rs k (by omega), Int.pow_succ]
      unfold valF
      omega
  obtain ⟨h1, h2⟩ := key k hk
  have h3 := (pow_bd k (by omega)).2
  omega
theorem made_rods (n : Nat) : (madeCells #[.int .i64 0, .int .i64 0] (n * 2)).toList = flat (List.replicate n ((0 : Int), (0 : Int))) := by
  refine flat_of _ _ (by simp [madeCells]) fun j h => ?_
  rw [List.length_replicate] at h
  have e0 : j * 2 < n * 2 := by omega
  have e1 : j * 2 + 1 < n * 2 := by omega
  have m0 : j * 2 % 2 = 0 := by omega
  have m1 : (j * 2 + 1) % 2 = 1 := by omega
  exact ⟨by simp [madeCells, e0, m0], by simp [madeCells, e1, m1]⟩

end Go.Proofs.Ytlfplnbmgmookaa
