/- Parts laid as one: Vfr, Fsame. -/
import Derived.Test.YtlfplnbmgmookaaKb
import Derived.BigRegion
import Derived.Tactics
import Derived.Tactics2
import Derived.StillTactics
import Derived.Laws.Pointers
import Derived.Laws.Small
import Derived.Laws.StructEq
import Derived.Laws.Tables
import Derived.Laws.Cover2
import Derived.Test.YtlfplnbmgmookaaKl
import Derived.Test.YtlfplnbmgmookaaSet
import Derived.Test.YtlfplnbmgmookaaMade
import Derived.Test.YtlfplnbmgmookaaIScal
/-! Vfr -/
namespace Go.Proofs.Ytlfplnbmgmookaa
set_option linter.unusedVariables false
open Go.RowKit

/-- A pair is equal to itself. -/
theorem eqPair (x y : Int) (w : World) : (Op.equalIn 10000 47 (.agg #[.int .i64 x, .int .i64 y]) (.agg #[.int .i64 x, .int .i64 y])).run Try.prog w = .ok true w := by
  have hi := Try.underlying3
  have ha := Try.isAgg3
  have hz := Try.sizeOf3
  show (Op.equalIn (9999 + 1) _ _ _).run _ _ = _
  unfold Op.equalIn
  simp only [Sem.run_bind, run_underlying Try.underlying47, Result.andThen_ok, Std.Legacy.Range.forIn_eq_forIn_range', Std.Legacy.Range.size, Nat.sub_zero, Nat.add_sub_cancel, Nat.div_one, List.range'_succ, List.range'_zero, List.forIn_cons, List.forIn_nil]
  go_simp
set_option maxRecDepth 100000 in
set_option maxHeartbeats 800000 in
theorem vPairs_yes (v1 v2 : Value) (rs : List (Int × Int)) (w : World) (h1 : RodsR w v1 rs) (h2 : RodsR w v2 rs) :
    Calls Try.prog 36 #[v1, v2] w fun e w' => e = .returned (.bool true) ∧ Below w.heap.size w w' := by
  obtain ⟨a1, c1, rfl, ⟨m1, _⟩, r1⟩ := h1
  obtain ⟨a2, c2, rfl, _, r2⟩ := h2
  have R1 := Lib.hid r1
  have R2 := Lib.hid r2
  unfold maxLen at m1
  clear r1 r2
  go_enter Try.func36, Try.ntmps36
  go_wp2_with fail
  go_loopw [5] (fun i wr => ∃ k : Nat, k ≤ rs.length ∧ i = .int .i64 k ∧ Below w.heap.size w wr) (fun i _ => rs.length - (intOf i).toNat)
  case atStart => exact ⟨0, Nat.zero_le _, rfl, Below.refl _ _⟩
  case round =>
    obtain ⟨k, hk, rfl, hb⟩ := hrel
    by_cases hlt : k < rs.length
    · obtain ⟨b1, o1, rfl, l1, k1⟩ := R1.out (by intro e; subst e; simp at hlt)
      obtain ⟨b2, o2, rfl, l2, k2⟩ := R2.out (by intro e; subst e; simp at hlt)
      have p1 := (hb.cell (p := ⟨b1, o1 + k * 2, none⟩) l1).trans (k1 k hlt).1
      have p2 := (hb.cell (p := ⟨b1, o1 + k * 2 + 1, none⟩) l1).trans (k1 k hlt).2
      have q1 := (hb.cell (p := ⟨b2, o2 + k * 2, none⟩) l2).trans (k2 k hlt).1
      have q2 := (hb.cell (p := ⟨b2, o2 + k * 2 + 1, none⟩) l2).trans (k2 k hlt).2
      clear k1 k2
      have z1 : (0 : Int) ≤ (k : Int) := by omega
      have z2 : (k : Int) < (rs.length : Int) := by omega
      generalize rs[k].1 = x at p1 q1
      generalize rs[k].2 = y at p2 q2
      have heq := eqPair x y
      go_wp2_with fail
      go_region
      have hb2 := hb.drew
      clear p1 p2 q1 q2
      go_wp2_with fail
      go_roundw
      case rel => exact ⟨k + 1, by omega, by go_num, hb2⟩
      case measure => simp [intOf]; omega
    · go_wp2_with fail
      go_ret
      exact ⟨rfl, hb⟩
end Go.Proofs.Ytlfplnbmgmookaa

/-! Fsame -/
namespace Go.Proofs.Ytlfplnbmgmookaa
set_option linter.unusedVariables false
open Go.RowKit

def FrB (f : Nat) (av : Array Value) (w : World) (fu fl : Int) (qs : List (Int × Int)) (b : Bool) : Prop :=
  Calls Try.prog f av w fun e w' => (∃ v, e = .returned (.tuple #[.agg #[.int .i64 fu, .int .i64 fl, v], .bool b]) ∧ RodsR w' v qs) ∧ Below w.heap.size w w'
def InB (f : Nat) (av : Array Value) (w : World) (n : Int) (b : Bool) : Prop :=
  Calls Try.prog f av w fun e w' => e = .returned (.tuple #[.int .i64 n, .bool b]) ∧ Below w.heap.size w w'
theorem ofOwn {f : Nat} {av : Array Value} {w : World} {fu fl : Int} {qs : List (Int × Int)} {b : Bool} (h : Calls Try.prog f av w fun e w' => (∃ v, e = .returned (.tuple #[.agg #[.int .i64 fu, .int .i64 fl, v], .bool b]) ∧ w'.ownsRow w.heap.size 47 2 v qs.length (flat qs)) ∧ Below w.heap.size w w') : FrB f av w fu fl qs b :=
  h.mono fun _ _ ⟨⟨v, he, ho⟩, hb⟩ => ⟨⟨v, he, RodsR.of_own ho⟩, hb⟩
theorem valF_digR (d : Int) : valF (digR d) = d := by unfold valF digR; show 5 * (d / 5) + d % 5 = d; omega
theorem numF_take (r : Nat) (n : Int) (h0 : 0 ≤ n) (h1 : n < 10 ^ r) : ∀ m, m ≤ r → numF ((forR r n).take m) = n / 10 ^ (r - m)
  | 0, _ => by
    rw [List.take_zero, Nat.sub_zero, Int.ediv_eq_zero_of_lt h0 h1]; rfl
  | m + 1, h => by
    have ih := numF_take r n h0 h1 m (by omega)
    rw [numF_snoc _ m (by rw [forR_len]; omega), ih, forR_at, valF_digR]
    have e : r - m = (r - 1 - m) + 1 := by omega
    have e2 : r - (m + 1) = r - 1 - m := by omega
    have e3 : n / (10 ^ (r - 1 - m) * 10) = n / 10 ^ (r - 1 - m) / 10 := by
      have hp : (0 : Int) ≤ 10 ^ (r - 1 - m) := Int.le_of_lt (Int.pow_pos (by decide))
      first
        | exact (Int.ediv_ediv_of_nonneg hp).symm
        | exact (Int.ediv_ediv_eq_ediv_mul _ hp).symm
        | (rw [Int.ediv_ediv, if_neg (by omega)]; omega)
    rw [e, e2, Int.pow_succ, e3]
    generalize n / 10 ^ (r - 1 - m) = z
    omega
theorem numF_forR (r : Nat) (n : Int) (h0 : 0 ≤ n) (h1 : n < 10 ^ r) : numF (forR r n) = n := by
  have := numF_take r n h0 h1 r (Nat.le_refl _)
  rw [List.take_of_length_le (by rw [forR_len]; exact Nat.le_refl _), Nat.sub_self, Int.pow_zero, Int.ediv_one] at this
  exact this
end Go.Proofs.Ytlfplnbmgmookaa
