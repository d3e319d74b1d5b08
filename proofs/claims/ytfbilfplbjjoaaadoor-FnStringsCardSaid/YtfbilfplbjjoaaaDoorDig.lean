/- Decimal digits: reading back what the numeral of a number spells. No program in this text. -/
import Derived.Test.YtfbilfplbjjoaaaDoorNum
import Derived.Lib.AtoiAll
namespace Go.Proofs.YtfbilfplbjjoaaaDoor
set_option linter.unusedVariables false
open Go.RowKit

def isD (c : UInt8) : Prop := 48 ≤ c.toNat ∧ c.toNat ≤ 57
instance (c : UInt8) : Decidable (isD c) := by unfold isD; infer_instance
/-- What digits spell behind acc. -/
def valD (acc : Nat) (l : List UInt8) : Nat := l.foldl (fun a c => 10 * a + (c.toNat - 48)) acc
theorem valD_snoc (acc : Nat) (l : List UInt8) (c : UInt8) : valD acc (l ++ [c]) = 10 * valD acc l + (c.toNat - 48) := by simp [valD]
theorem valD_ge : ∀ (l : List UInt8) (acc : Nat), acc ≤ valD acc l
  | [], _ => Nat.le_refl _
  | c :: r, acc => by
    have := valD_ge r (10 * acc + (c.toNat - 48))
    show acc ≤ valD (10 * acc + (c.toNat - 48)) r
    omega
theorem valD_lt (l : List UInt8) (h : ∀ c ∈ l, isD c) : valD 0 l < 10 ^ l.length := by
  have key : ∀ (l : List UInt8) (acc m : Nat), (∀ c ∈ l, isD c) → acc < 10 ^ m → valD acc l < 10 ^ (m + l.length) := by
    intro l
    induction l with
    | nil => intro acc m _ h; simpa [valD] using h
    | cons c r ih =>
      intro acc m hd hm
      have hc := hd c (by simp)
      have := ih (10 * acc + (c.toNat - 48)) (m + 1) (fun x hx => hd x (by simp [hx])) (by unfold isD at hc; rw [Nat.pow_succ]; omega)
      show valD (10 * acc + (c.toNat - 48)) r < _
      rw [List.length_cons, show m + (r.length + 1) = m + 1 + r.length by omega]
      exact this
  have := key l 0 0 h (by simp)
  simpa using this
theorem parse_digits : ∀ (l : List UInt8) (acc : Nat), (∀ c ∈ l, isD c) → valD acc l < 1000000000000000000 → Lib.parseUint10 acc l = .ok (valD acc l)
  | [], acc, _, _ => by simp [Lib.parseUint10, valD]
  | c :: r, acc, hd, hv => by
    have hc := hd c (by simp)
    unfold isD at hc
    have e : valD acc (c :: r) = valD (10 * acc + (c.toNat - 48)) r := rfl
    have hg := valD_ge r (10 * acc + (c.toNat - 48))
    rw [e] at hv ⊢
    rw [Lib.parseUint10, if_pos hc, if_neg (by omega), if_neg (by omega), show acc * 10 = 10 * acc by omega]
    exact parse_digits r _ (fun x hx => hd x (by simp [hx])) hv
theorem dec_spec (u : Nat) : (∀ c ∈ Lib.decDigits u, isD c) ∧ valD 0 (Lib.decDigits u) = u ∧ Lib.decDigits u ≠ [] := by
  induction u using Nat.strongRecOn with
  | _ u ih =>
    by_cases h : u < 10
    · rw [dec_small u h]
      have e : (UInt8.ofNat (48 + u)).toNat = 48 + u := by simp; omega
      refine ⟨?_, ?_, by simp⟩
      · intro c hc
        rw [List.mem_singleton.1 hc]; unfold isD; rw [e]; omega
      · show 10 * 0 + ((UInt8.ofNat (48 + u)).toNat - 48) = u
        rw [e]; omega
    · rw [Lib.decDigits, dif_neg h]
      obtain ⟨i1, i2, i3⟩ := ih (u / 10) (by omega)
      have e : (UInt8.ofNat (48 + u % 10)).toNat = 48 + u % 10 := by simp; omega
      refine ⟨?_, ?_, by simp⟩
      · intro c hc
        rcases List.mem_append.1 hc with hc | hc
        · exact i1 c hc
        · rw [List.mem_singleton.1 hc]; unfold isD; rw [e]; omega
      · rw [valD_snoc, i2, e]; omega
theorem dec_head (u : Nat) : ∃ c r, Lib.decDigits u = c :: r ∧ isD c := by
  obtain ⟨h1, _, h3⟩ := dec_spec u
  cases h : Lib.decDigits u with
  | nil => exact absurd h h3
  | cons c r => exact ⟨c, r, rfl, h1 c (by rw [h]; simp)⟩
theorem atoi_itoa (v : Int) (h0 : -999999 ≤ v) (h1 : v ≤ 999999) : Lib.atoiAll (Lib.itoa v) = .ok v := by
  by_cases hv : v < 0
  · obtain ⟨d1, d2, d3⟩ := dec_spec v.natAbs
    have hp : Lib.parseMag (Lib.decDigits v.natAbs) = .ok v.natAbs := by
      rw [Lib.parseMag, if_neg d3, parse_digits _ 0 d1 (by rw [d2]; omega), d2]
    rw [Lib.itoa, if_pos hv, Lib.atoiAll]
    simp [hp]
    rw [if_neg (by omega)]
    congr 1
    omega
  · obtain ⟨d1, d2, d3⟩ := dec_spec v.toNat
    obtain ⟨c, r, e, hc⟩ := dec_head v.toNat
    have hp : Lib.parseMag (Lib.decDigits v.toNat) = .ok v.toNat := by
      rw [Lib.parseMag, if_neg d3, parse_digits _ 0 d1 (by rw [d2]; omega), d2]
    rw [Lib.itoa, if_neg hv]
    rw [e] at hp ⊢
    unfold isD at hc
    have c1 : ¬ c.toNat = 43 := by omega
    have c2 : ¬ c.toNat = 45 := by omega
    rw [Lib.atoiAll]
    simp [hp, c1, c2]
    rw [if_neg (by omega)]
    congr 1
    omega
theorem itoa_inj {a b : Int} (a0 : -999999 ≤ a) (a1 : a ≤ 999999) (b0 : -999999 ≤ b) (b1 : b ≤ 999999) (h : Lib.itoa a = Lib.itoa b) : a = b := by
  have e1 := atoi_itoa a a0 a1
  have e2 := atoi_itoa b b0 b1
  rw [h, e2] at e1
  injection e1 with e1
  exact e1.symm
end Go.Proofs.YtfbilfplbjjoaaaDoor
