/- An amount that comes in, opened: a slice of ints. -/
import Derived.Test.YtlmnbecfaaeohaaDoorBoardo
namespace Go.Proofs.YtlmnbecfaaeohaaDoor
set_option linter.unusedVariables false
open Go.RowKit Go.ChangeShapes Go.WideShapes Go.ChangeAt

theorem amount_open {H : Type} {enc : TypeId × Value → H} {W : World} {b0 : Nat} {rc : Reach} {v : Value} {d : DataW H} {p : List MemPlace}
    (hv : Value.okWide Tryd.prog W rc b0 25 v) (h : DataW.Trod enc Tryd.prog W 0 (fun _ => true) true 25 v d p) :
    ∃ sv cs, v = .agg #[sv] ∧ RowsR 1 inC W sv cs := by
  obtain ⟨cs, rfl, hsz⟩ := okWide_struct Tryd.underlying25 hv
  obtain ⟨fuel, h0⟩ := h
  obtain ⟨xs, n, _, _, hl, hlen, hf⟩ := DataW.trod_struct Tryd.underlying25 h0
  rw [show Tryd.prog.cellsOf 25 = 1 by kernel_rfl] at hl
  obtain ⟨c0, hc⟩ : ∃ c0, (Value.agg cs).cells.toList = [c0] := by
    match (Value.agg cs).cells.toList, hl with
    | [y0], _ => exact ⟨y0, rfl⟩
  have hl1 : xs.length = 1 := hlen
  have g0 := hf 0 _ rfl
  rw [List.getElem?_eq_getElem (by omega)] at g0
  have n3 : Tryd.prog.cellsOf 23 = 1 := by kernel_rfl
  have k0 : DataW.trod enc Tryd.prog W 0 (fun _ => true) true n 23 [c0] = some xs[0] := by simpa [n3, hc] using g0
  obtain ⟨ls, e0⟩ := intS_open k0
  refine ⟨c0, ls, ?_, e0⟩
  have h5 : cs.toList = [c0] := by simpa [Value.cells] using hc
  congr 1
  exact Array.ext' h5
end Go.Proofs.YtlmnbecfaaeohaaDoor
