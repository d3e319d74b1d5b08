/- The program's PlayMoves. -/
import Derived.Test.YtkclpempodopfaaMplay
import Derived.Test.YtkclpempodopfaaQone
import Derived.Test.YtkclpempodopfaaCopyn
import Derived.Test.YtkclpempodopfaaIFrame
import Derived.StillTailTactics
namespace Go.Proofs.Ytkclpempodopfaa
set_option linter.unusedVariables false
open Go.RowKit

def pt2 (r : Int × Int) (p : Nat) : Int := if p = 0 then r.1 else r.2
theorem flat_pt (rs : List (Int × Int)) (q p : Nat) (hq : q < rs.length) (hp : p < 2) : (flat rs)[q * 2 + p]? = some (.int .i64 (pt2 rs[q] p)) := by
  obtain ⟨h1, h2⟩ := flat_at rs q hq
  have : p = 0 ∨ p = 1 := by omega
  rcases this with rfl | rfl
  · exact h1
  · exact h2
theorem movF_flat (rs : List (Int × Int)) (q p : Nat) (amt : Int) (hq : q < rs.length) (hp : p < 2) : (flat rs).set (q * 2 + p) (.int .i64 (pt2 rs[q] p + amt)) = flat (movF rs ⟨(q : Int), (p : Int), amt⟩) := by
  have hm : movF rs ⟨(q : Int), (p : Int), amt⟩ = rs.set q (movR rs[q] ⟨(q : Int), (p : Int), amt⟩) := by
    unfold movF
    show rs.set (q : Int).toNat (movR (rs.getD (q : Int).toNat (0, 0)) _) = _
    rw [Int.toNat_natCast, List.getD_eq_getElem?_getD, List.getElem?_eq_getElem hq]; rfl
  rw [hm]
  have hp2 : p = 0 ∨ p = 1 := by omega
  refine flat_of _ _ (by rw [List.length_set, List.length_set, flat_len]) fun j hj => ?_
  rw [List.length_set] at hj
  obtain ⟨f1, f2⟩ := flat_at rs j hj
  have hfl := flat_len rs
  by_cases e : j = q
  · subst e
    rw [List.getElem_set_self]
    rcases hp2 with rfl | rfl
    · exact ⟨by rw [Nat.add_zero, List.getElem?_set_self (by omega)]; rfl, by rw [Nat.add_zero, List.getElem?_set_ne (by omega)]; exact f2⟩
    · exact ⟨by rw [List.getElem?_set_ne (by omega)]; exact f1, by rw [List.getElem?_set_self (by omega)]; rfl⟩
  · rw [List.getElem_set_ne (fun h => e h.symm)]
    exact ⟨by rw [List.getElem?_set_ne (by omega)]; exact f1, by rw [List.getElem?_set_ne (by omega)]; exact f2⟩

end Go.Proofs.Ytkclpempodopfaa
