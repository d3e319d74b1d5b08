/- Parts laid as one: Vfr, Fsame. -/
import Derived.Test.YtmkocinknhaniaaKb
import Derived.BigRegion
import Derived.Tactics
import Derived.Tactics2
import Derived.StillTactics
import Derived.Laws.Pointers
import Derived.Laws.Small
import Derived.Laws.StructEq
import Derived.Laws.Tables
import Derived.Laws.Cover2
import Derived.Test.YtmkocinknhaniaaKl
import Derived.Test.YtmkocinknhaniaaSet
import Derived.Test.YtmkocinknhaniaaMade
import Derived.Test.YtmkocinknhaniaaIScal
/-! Vfr -/
namespace Go.Proofs.Ytmkocinknhaniaa
set_option linter.unusedVariables false
open Go.RowKit

/-- A pair is equal to itself. -/
theorem eqPair (x y : Int) (w : World) : (Op.equalIn 10000 62 (.agg #[.int .i64 x, .int .i64 y]) (.agg #[.int .i64 x, .int .i64 y])).run Try.prog w = .ok true w := by
  have hi := Try.underlying3
  have ha := Try.isAgg3
  have hz := Try.sizeOf3
  show (Op.equalIn (9999 + 1) _ _ _).run _ _ = _
  unfold Op.equalIn
  simp only [Sem.run_bind, run_underlying Try.underlying62, Result.andThen_ok, Std.Legacy.Range.forIn_eq_forIn_range', Std.Legacy.Range.size, Nat.sub_zero, Nat.add_sub_cancel, Nat.div_one, List.range'_succ, List.range'_zero, List.forIn_cons, List.forIn_nil]
  go_simp
end Go.Proofs.Ytmkocinknhaniaa

/-! Fsame -/
namespace Go.Proofs.Ytmkocinknhaniaa
set_option linter.unusedVariables false
open Go.RowKit

def FrB (f : Nat) (av : Array Value) (w : World) (fu fl : Int) (qs : List (Int × Int)) (b : Bool) : Prop :=
  Calls Try.prog f av w fun e w' => (∃ v, e = .returned (.tuple #[.agg #[.int .i64 fu, .int .i64 fl, v], .bool b]) ∧ RodsR w' v qs) ∧ Below w.heap.size w w'
def InB (f : Nat) (av : Array Value) (w : World) (n : Int) (b : Bool) : Prop :=
  Calls Try.prog f av w fun e w' => e = .returned (.tuple #[.int .i64 n, .bool b]) ∧ Below w.heap.size w w'
theorem ofOwn {f : Nat} {av : Array Value} {w : World} {fu fl : Int} {qs : List (Int × Int)} {b : Bool} (h : Calls Try.prog f av w fun e w' => (∃ v, e = .returned (.tuple #[.agg #[.int .i64 fu, .int .i64 fl, v], .bool b]) ∧ w'.ownsRow w.heap.size 62 2 v qs.length (flat qs)) ∧ Below w.heap.size w w') : FrB f av w fu fl qs b :=
  h.mono fun _ _ ⟨⟨v, he, ho⟩, hb⟩ => ⟨⟨v, he, RodsR.of_own ho⟩, hb⟩
theorem valF_digR (d : Int) : valF (digR d) = d := by unfold valF digR; show 5 * (d / 5) + d % 5 = d; omega
theorem numF_take (r : Nat) (n : Int) (h0 : 0 ≤ n) (h1 : n < 10 ^ r) : ∀ m, m ≤ r → numF ((forR r n).take m) = n / 10 ^ (r - m)
  | 0, _ => by
    rw [List.take_zero, Nat.sub_zero, Int.ediv_eq_zero_of_lt h0 h1]; rfl
  | m + 1, h => by
    have ih := numF_take r n h0 h1 m (by omega)
    rw [numF_snoc _ m (by rw [forR_len]; omega), ih, forR_at, valF_digR]
    have e : r - m = (r - 1 - m) + 1 := by omega
    have e2 : r - (m + 1) = r - 1 - m := by omega
    have e3 : n / (10 ^ (r - 1 - m) * 10) = n / 10 ^ (r - 1 - m) / 10 := by
      have hp : (0 : Int) ≤ 10 ^ (r - 1 - m) := Int.le_of_lt (Int.pow_pos (by decide))
      first
        | exact (Int.ediv_ediv_of_nonneg hp).symm
        | exact (Int.ediv_ediv_eq_ediv_mul _ hp).symm
        | (rw [Int.ediv_ediv, if_neg (by omega)]; omega)
    rw [e, e2, Int.pow_succ, e3]
    generalize n / 10 ^ (r - 1 - m) = z
    omega
theorem numF_forR (r : Nat) (n : Int) (h0 : 0 ≤ n) (h1 : n < 10 ^ r) : numF (forR r n) = n := by
  have := numF_take r n h0 h1 r (Nat.le_refl _)
  rw [List.take_of_length_le (by rw [forR_len]; exact Nat.le_refl _), Nat.sub_self, Int.pow_zero, Int.ediv_one] at this
  exact this
end Go.Proofs.Ytmkocinknhaniaa
