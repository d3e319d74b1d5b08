/- A board that comes in, opened: two slices of ints. -/
import Derived.Test.YtlmnbecfaaeohaaBoards
import Derived.ProofKit
import Derived.OpenShut
import Derived.Lib.SmallJoins
namespace Go.Proofs.Ytlmnbecfaaeohaa
set_option linter.unusedVariables false
open Go.RowKit Go.ChangeShapes Go.WideShapes Go.ChangeAt

theorem intS_open {H : Type} {enc : TypeId × Value → H} {W : World} {sp : Nat → Bool} {held : Bool} {fuel : Nat} {v : Value} {x : DataW H × List MemPlace}
    (h : DataW.trod enc Try.prog W 0 sp held fuel 29 [v] = some x) : ∃ ps, RowsR 1 inC W v ps := by
  rcases open_ints Try.underlying29 Try.underlying3 (by kernel_rfl) h with ⟨hcs, _⟩ | ⟨a, l, c, zs, hcs, _, hl, hm, hz, _, hcell, hwz⟩
  · simp at hcs
    subst hcs
    exact ⟨[], none, 0, rfl, ⟨Nat.zero_le _, Nat.le_refl _⟩, fun h => absurd h (by simp)⟩
  · simp at hcs
    subst hcs
    have hzl : l ≤ zs.length := by rw [hz]; split <;> omega
    by_cases h0 : l = 0
    · subst h0
      exact ⟨[], some a, c, rfl, ⟨Nat.zero_le _, Nat.zero_le _⟩, fun h => absurd h (by simp)⟩
    have hlen : (zs.take l).length = l := by rw [List.length_take]; omega
    obtain ⟨b, off, spot⟩ := a
    have c0 := hcell 0 (by omega)
    have hspot : spot = none := by simpa [Addr.add] using World.cell?_spot c0
    subst hspot
    have hadd : ∀ i, ((⟨b, off, none⟩ : Addr).add i) = ⟨b, off + i, none⟩ := fun i => by cases i <;> simp [Addr.add]
    have hlt := cell_lt c0
    rw [hadd] at hlt
    refine ⟨zs.take l, some ⟨b, off, none⟩, c, by rw [hlen], by rw [hlen]; exact ⟨Nat.le_trans hl hm, hl⟩, fun _ => ⟨b, off, rfl, hlt, fun i hi j hj => ?_⟩⟩
    have hj0 : j = 0 := by omega
    subst hj0
    rw [hlen] at hi
    have hc := hcell i (by omega)
    rw [hadd] at hc
    rw [Nat.mul_one, Nat.add_zero, hc, List.getElem_take, List.getD_eq_getElem?_getD, List.getElem?_eq_getElem (by omega)]
    rfl
end Go.Proofs.Ytlmnbecfaaeohaa
