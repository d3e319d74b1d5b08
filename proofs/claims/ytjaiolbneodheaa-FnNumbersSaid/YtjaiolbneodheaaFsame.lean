/- The program's and the model's answers on one frame, as letters. -/
import Derived.Test.YtjaiolbneodheaaIFor
import Derived.Test.YtjaiolbneodheaaSet
import Derived.Test.YtjaiolbneodheaaMade
import Derived.Test.YtjaiolbneodheaaIScal
import Derived.Test.YtjaiolbneodheaaVfr
namespace Go.Proofs.Ytjaiolbneodheaa
set_option linter.unusedVariables false
open Go.RowKit

def FrB (f : Nat) (av : Array Value) (w : World) (fu fl : Int) (qs : List (Int × Int)) (b : Bool) : Prop :=
  Calls Try.prog f av w fun e w' => (∃ v, e = .returned (.tuple #[.agg #[.int .i64 fu, .int .i64 fl, v], .bool b]) ∧ RodsR w' v qs) ∧ Below w.heap.size w w'
def InB (f : Nat) (av : Array Value) (w : World) (n : Int) (b : Bool) : Prop :=
  Calls Try.prog f av w fun e w' => e = .returned (.tuple #[.int .i64 n, .bool b]) ∧ Below w.heap.size w w'
theorem ofOwn {f : Nat} {av : Array Value} {w : World} {fu fl : Int} {qs : List (Int × Int)} {b : Bool} (h : Calls Try.prog f av w fun e w' => (∃ v, e = .returned (.tuple #[.agg #[.int .i64 fu, .int .i64 fl, v], .bool b]) ∧ w'.ownsRow w.heap.size 105 2 v qs.length (flat qs)) ∧ Below w.heap.size w w') : FrB f av w fu fl qs b :=
  h.mono fun _ _ ⟨⟨v, he, ho⟩, hb⟩ => ⟨⟨v, he, RodsR.of_own ho⟩, hb⟩
theorem valF_digR (d : Int) : valF (digR d) = d := by unfold valF digR; show 5 * (d / 5) + d % 5 = d; omega
theorem numF_take (r : Nat) (n : Int) (h0 : 0 ≤ n) (h1 : n < 10 ^ r) : ∀ m, m ≤ r → numF ((forR r n).take m) = n / 10 ^ (r - m)
  | 0, _ => by
    rw [List.take_zero, Nat.sub_zero, Int.ediv_eq_zero_of_lt h0 h1]; rfl
  | m + 1, h => by
    have ih := numF_take r n h0 h1 m (by omega)
    rw [numF_snoc _ m (by rw [forR_len]; omega), ih, forR_at, valF_digR]
    have e : r - m = (r - 1 - m) + 1 := by omega
    have e2 : r - (m + 1) = r - 1 - m := by omega
    have e3 : n / (10 ^ (r - 1 - m) * 10) = n / 10 ^ (r - 1 - m) / 10 := by
      have hp : (0 : Int) ≤ 10 ^ (r - 1 - m) := Int.le_of_lt (Int.pow_pos (by decide))
      first
        | exact (Int.ediv_ediv_of_nonneg hp).symm
        | exact (Int.ediv_ediv_eq_ediv_mul _ hp).symm
        | (rw [Int.ediv_ediv, if_neg (by omega)]; omega)
    rw [e, e2, Int.pow_succ, e3]
    generalize n / 10 ^ (r - 1 - m) = z
    omega
theorem numF_forR (r : Nat) (n : Int) (h0 : 0 ≤ n) (h1 : n < 10 ^ r) : numF (forR r n) = n := by
  have := numF_take r n h0 h1 r (Nat.le_refl _)
  rw [List.take_of_length_le (by rw [forR_len]; exact Nat.le_refl _), Nat.sub_self, Int.pow_zero, Int.ediv_one] at this
  exact this
theorem for_same (u l r n : Int) (hn : n ≤ 9223372036854775807) : ∃ (fu fl : Int) (qs : List (Int × Int)) (b : Bool),
    (∀ w, FrB 11 #[.int .i64 u, .int .i64 l, .int .i64 r, .int .i64 n] w fu fl qs b) ∧ (∀ w, FrB 10 #[.int .i64 u, .int .i64 l, .int .i64 r, .int .i64 n] w fu fl qs b) ∧ (b = true → goodF fu fl qs ∧ numF qs = n) := by
  by_cases h : okFor u l r n
  · obtain ⟨q, rfl⟩ : ∃ q : Nat, r = (q : Int) := ⟨r.toNat, by have := h.2.2.1; omega⟩
    refine ⟨u, l, forR q n, true, fun w => specFrameFor_ok u l q n w h, fun w => ofOwn (implFrameFor_ok u l q n w h), fun _ => ⟨forR_good u l q n h.1 h.2.1 (by have := h.2.2.1; omega), numF_forR q n h.2.2.2.1 ?_⟩⟩
    have := h.2.2.2.2
    rw [Int.toNat_natCast] at this
    omega
  · exact ⟨0, 0, [], false, fun w => (specFrameFor_bad u l r n w h).mono fun _ _ ⟨he, hb⟩ => ⟨⟨_, he, rods_nil _⟩, hb⟩, fun w => ofOwn (implFrameFor_bad u l r n w hn h), fun hb => by cases hb⟩
theorem number_same (up lo : Int) (rs : List (Int × Int)) : ∃ (n : Int) (b : Bool),
    (∀ w sv, RodsR w sv rs → InB 21 #[.agg #[.int .i64 up, .int .i64 lo, sv]] w n b) ∧ (∀ w sv, RodsR w sv rs → InB 13 #[.agg #[.int .i64 up, .int .i64 lo, sv]] w n b) ∧ (goodF up lo rs → n = numF rs ∧ b = true) ∧ (¬ goodF up lo rs → b = false) := by
  by_cases hg : goodF up lo rs
  · exact ⟨numF rs, true, fun w sv h => specNumberOn_yes up lo sv rs w h hg, fun w sv h => implNumberOn_yes up lo sv rs w h hg, fun _ => ⟨rfl, rfl⟩, fun h => absurd hg h⟩
  · exact ⟨0, false, fun w sv h => specNumberOn_no up lo sv rs w h hg, fun w sv h => implNumberOn_no up lo sv rs w h hg, fun h => absurd h hg, fun _ => rfl⟩
theorem value_same (up lo : Int) (rs : List (Int × Int)) (q : Int) : ∃ (n : Int) (b : Bool),
    (∀ w sv, RodsR w sv rs → InB 19 #[.agg #[.int .i64 up, .int .i64 lo, sv], .int .i64 q] w n b) ∧ (∀ w sv, RodsR w sv rs → InB 17 #[.agg #[.int .i64 up, .int .i64 lo, sv], .int .i64 q] w n b) ∧ (goodF up lo rs → ∀ (k : Nat) (hk : k < rs.length), q = k → n = valF rs[k] ∧ b = true) := by
  by_cases hg : goodF up lo rs
  · by_cases hq : 0 ≤ q ∧ q ≤ (rs.length : Int) - 1
    · obtain ⟨k, rfl⟩ : ∃ k : Nat, q = (k : Int) := ⟨q.toNat, by omega⟩
      have hl : k < rs.length := by omega
      refine ⟨valF rs[k], true, fun w sv h => specRodValue_in up lo sv rs w h k hl hg, fun w sv h => implRodValue_in up lo sv rs w h k hl hg, fun _ j hj e => ?_⟩
      obtain rfl : k = j := by omega
      exact ⟨rfl, rfl⟩
    · exact ⟨0, false, fun w sv h => specRodValue_out up lo sv rs w h q hg hq, fun w sv h => implRodValue_out up lo sv rs w h q hg hq, fun _ j hj e => absurd ⟨by omega, by omega⟩ hq⟩
  · exact ⟨0, false, fun w sv h => specRodValue_bad up lo sv rs w h q hg, fun w sv h => implRodValue_bad up lo sv rs w h q hg, fun h => absurd h hg⟩
theorem set_same (up lo : Int) (rs : List (Int × Int)) (q d : Int) : ∃ (fu fl : Int) (qs : List (Int × Int)) (b : Bool),
    (∀ w sv, RodsR w sv rs → FrB 16 #[.agg #[.int .i64 up, .int .i64 lo, sv], .int .i64 q, .int .i64 d] w fu fl qs b) ∧ (∀ w sv, RodsR w sv rs → FrB 15 #[.agg #[.int .i64 up, .int .i64 lo, sv], .int .i64 q, .int .i64 d] w fu fl qs b) ∧ (b = true → goodF fu fl qs ∧ ∃ (k : Nat) (hk : k < qs.length), q = k ∧ valF qs[k] = d) := by
  by_cases hg : goodF up lo rs
  · by_cases hq : 0 ≤ q ∧ q ≤ (rs.length : Int) - 1
    · by_cases hd : 0 ≤ d ∧ d ≤ 9
      · obtain ⟨k, rfl⟩ : ∃ k : Nat, q = (k : Int) := ⟨q.toNat, by omega⟩
        have hl : k < rs.length := by omega
        refine ⟨up, lo, rs.set k (digR d), true, fun w sv h => specSetRod_ok up lo sv rs w h k d hg hl hd.1 hd.2, fun w sv h => ofOwn (implSetRod_ok up lo sv rs w h k d hg hl hd.1 hd.2), fun _ => ⟨⟨fun i hi => ?_, hg.2.1, hg.2.2.1, by rw [List.length_set]; exact hg.2.2.2⟩, k, by rw [List.length_set]; exact hl, rfl, by rw [List.getElem_set_self]; exact valF_digR d⟩⟩
        have hi2 : i < rs.length := by rw [List.length_set] at hi; exact hi
        by_cases e : i = k
        · subst e
          rw [List.getElem_set_self]
          have := digR_bd d hd.1 hd.2
          have h1 := hg.2.1
          have h2 := hg.2.2.1
          exact ⟨⟨this.1.1, by omega⟩, this.2.1, by omega⟩
        · rw [List.getElem_set_ne (fun e' => e e'.symm)]
          exact hg.1 i hi2
      · exact ⟨0, 0, [], false, fun w sv h => specSetRod_dig up lo sv rs w h q d hg hq hd, fun w sv h => ofOwn (implSetRod_dig up lo sv rs w h q d hg hq hd), fun h => by cases h⟩
    · exact ⟨0, 0, [], false, fun w sv h => specSetRod_out up lo sv rs w h q d hg hq, fun w sv h => ofOwn (implSetRod_out up lo sv rs w h q d hg hq), fun h => by cases h⟩
  · exact ⟨0, 0, [], false, fun w sv h => specSetRod_bad up lo sv rs w h q d hg, fun w sv h => ofOwn (implSetRod_bad up lo sv rs w h q d hg), fun h => by cases h⟩
theorem cleared_same (up lo : Int) (rs : List (Int × Int)) : ∃ (fu fl : Int) (qs : List (Int × Int)) (b : Bool),
    (∀ w sv, RodsR w sv rs → FrB 23 #[.agg #[.int .i64 up, .int .i64 lo, sv]] w fu fl qs b) ∧ (∀ w sv, RodsR w sv rs → FrB 22 #[.agg #[.int .i64 up, .int .i64 lo, sv]] w fu fl qs b) ∧ (goodF up lo rs → b = true ∧ goodF fu fl qs ∧ numF qs = 0) ∧ (¬ goodF up lo rs → b = false) := by
  by_cases hg : goodF up lo rs
  · exact ⟨up, lo, forR rs.length 0, true, fun w sv h => specCleared_yes up lo sv rs w h hg, fun w sv h => ofOwn (implCleared_yes up lo sv rs w h hg), fun _ => ⟨rfl, forR_good up lo rs.length 0 hg.2.1 hg.2.2.1 hg.2.2.2, numF_forR rs.length 0 (by omega) (Int.pow_pos (by decide))⟩, fun h => absurd hg h⟩
  · exact ⟨0, 0, [], false, fun w sv h => specCleared_no up lo sv rs w h hg, fun w sv h => ofOwn (implCleared_no up lo sv rs w h hg), fun h => absurd h hg, fun _ => rfl⟩
end Go.Proofs.Ytjaiolbneodheaa
