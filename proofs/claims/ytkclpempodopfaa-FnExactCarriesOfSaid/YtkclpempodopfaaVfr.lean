/- Equal frames are told equal by the laws with draws. -/
import Derived.Test.YtkclpempodopfaaKb
import Derived.BigRegion
import Derived.Tactics
import Derived.Tactics2
import Derived.StillTactics
import Derived.Laws.Pointers
import Derived.Laws.Small
import Derived.Laws.StructEq
import Derived.Laws.Tables
import Derived.Laws.Cover2
namespace Go.Proofs.Ytkclpempodopfaa
set_option linter.unusedVariables false
open Go.RowKit

/-- A pair is equal to itself. -/
theorem eqPair (x y : Int) (w : World) : (Op.equalIn 10000 84 (.agg #[.int .i64 x, .int .i64 y]) (.agg #[.int .i64 x, .int .i64 y])).run Try.prog w = .ok true w := by
  have hi := Try.underlying3
  have ha := Try.isAgg3
  have hz := Try.sizeOf3
  show (Op.equalIn (9999 + 1) _ _ _).run _ _ = _
  unfold Op.equalIn
  simp only [Sem.run_bind, run_underlying Try.underlying84, Result.andThen_ok, Std.Legacy.Range.forIn_eq_forIn_range', Std.Legacy.Range.size, Nat.sub_zero, Nat.add_sub_cancel, Nat.div_one, List.range'_succ, List.range'_zero, List.forIn_cons, List.forIn_nil]
  go_simp
end Go.Proofs.Ytkclpempodopfaa
