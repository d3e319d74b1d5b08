/- How often is carried, read off the rods as they stood. -/
import Derived.Test.YthmbehknacjodaaAdd
import Derived.Test.YthmbehknacjodaaKd
namespace Go.Proofs.Ythmbehknacjodaa
set_option linter.unusedVariables false
open Go.RowKit

def ChV (rs : List (Int × Int)) (CT : Int) (j : Nat) (d c : Int) : Prop := ∃ RT MT rs2 ms2, ChAt rs.length RT MT CT j d rs2 ms2 c ∧ ∀ i, i ≤ j → vAt rs2 i = vAt rs i
theorem ChV.start {rs : List (Int × Int)} {q : Nat} {d c : Int} (hs : stdF rs) (hq : q < rs.length) (h1 : 1 ≤ d) (h9 : d ≤ 9) (hc : 0 ≤ c) (hT : numF rs + d * 10 ^ (rs.length - 1 - q) < 10 ^ rs.length) : ChV rs (c + (chC (q + 1) d rs : Nat)) q d c :=
  ⟨_, [] ++ chM (q + 1) d rs, rs, [], ⟨hs, rfl, hq, h1, h9, hc, hT, rfl, rfl, rfl⟩, fun _ _ => rfl⟩
theorem ChV.step {rs : List (Int × Int)} {CT : Int} {j : Nat} {d c : Int} (h : ChV rs CT j d c) (hx : 9 < vAt rs j + d) : ∃ i, j = i + 1 ∧ ChV rs CT i 1 (c + 1) := by
  obtain ⟨RT, MT, rs2, ms2, h1, h2⟩ := h
  obtain ⟨i, rfl, h3⟩ := h1.carry (by rw [h2 j (Nat.le_refl _)]; exact hx)
  refine ⟨i, rfl, RT, MT, _, _, h3, fun k hk => ?_⟩
  rw [vAt_set_ne (by omega)]
  exact h2 k (by omega)
theorem ChV.last {rs : List (Int × Int)} {CT : Int} {j : Nat} {d c : Int} (h : ChV rs CT j d c) (hx : vAt rs j + d ≤ 9) : c = CT := by
  obtain ⟨RT, MT, rs2, ms2, h1, h2⟩ := h
  exact (h1.last (by rw [h2 j (Nat.le_refl _)]; exact hx)).2.2
theorem ChV.lt {rs : List (Int × Int)} {CT : Int} {j : Nat} {d c : Int} (h : ChV rs CT j d c) : j < rs.length := by
  obtain ⟨RT, MT, rs2, ms2, h1, h2⟩ := h
  exact h1.lt
theorem ChV.bd {rs : List (Int × Int)} {CT : Int} {j : Nat} {d c : Int} (h : ChV rs CT j d c) : (1 ≤ d ∧ d ≤ 9) ∧ 0 ≤ c ∧ c ≤ CT := by
  obtain ⟨RT, MT, rs2, ms2, h1, h2⟩ := h
  exact ⟨⟨h1.dlo, h1.dhi⟩, h1.c0, by have := h1.cT; omega⟩
end Go.Proofs.Ythmbehknacjodaa
