/- An amount that comes in, opened: a slice of ints. -/
import Derived.Test.YtlmnbecfaaeohaaBoardo
namespace Go.Proofs.Ytlmnbecfaaeohaa
set_option linter.unusedVariables false
open Go.RowKit Go.ChangeShapes Go.WideShapes Go.ChangeAt

theorem amount_open {H : Type} {enc : TypeId × Value → H} {W : World} {b0 : Nat} {rc : Reach} {v : Value} {d : DataW H} {p : List MemPlace}
    (hv : Value.okWide Try.prog W rc b0 31 v) (h : DataW.Trod enc Try.prog W 0 (fun _ => true) true 31 v d p) :
    ∃ sv cs, v = .agg #[sv] ∧ RowsR 1 inC W sv cs := by
  obtain ⟨cs, rfl, hsz⟩ := okWide_struct Try.underlying31 hv
  obtain ⟨fuel, h0⟩ := h
  obtain ⟨xs, n, _, _, hl, hlen, hf⟩ := DataW.trod_struct Try.underlying31 h0
  rw [show Try.prog.cellsOf 31 = 1 by kernel_rfl] at hl
  obtain ⟨c0, hc⟩ : ∃ c0, (Value.agg cs).cells.toList = [c0] := by
    match (Value.agg cs).cells.toList, hl with
    | [y0], _ => exact ⟨y0, rfl⟩
  have hl1 : xs.length = 1 := hlen
  have g0 := hf 0 _ rfl
  rw [List.getElem?_eq_getElem (by omega)] at g0
  have n3 : Try.prog.cellsOf 29 = 1 := by kernel_rfl
  have k0 : DataW.trod enc Try.prog W 0 (fun _ => true) true n 29 [c0] = some xs[0] := by simpa [n3, hc] using g0
  obtain ⟨ls, e0⟩ := intS_open k0
  refine ⟨c0, ls, ?_, e0⟩
  have h5 : cs.toList = [c0] := by simpa [Value.cells] using hc
  congr 1
  exact Array.ext' h5
end Go.Proofs.Ytlmnbecfaaeohaa
