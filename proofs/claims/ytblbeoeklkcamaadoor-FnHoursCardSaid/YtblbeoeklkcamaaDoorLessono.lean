/- Lesson as an argument, and slices of it, opened. -/
import Derived.Test.YtblbeoeklkcamaaDoorLessons
import Derived.ProofKit
import Derived.OpenShut
import Derived.Lib.SmallJoins
import Derived.Deep.Slices
namespace Go.Proofs.YtblbeoeklkcamaaDoor
set_option linter.unusedVariables false
open Go.RowKit Go.ChangeShapes Go.WideShapes Go.ChangeAt

def lesOk (p : Les) : Prop := (Lit.int .i64 p.id).wf = true ∧ (Lit.int .i64 p.cls).wf = true ∧ (Lit.int .i64 p.tch).wf = true ∧ (Lit.int .i64 p.room).wf = true ∧ (Lit.int .i64 p.day).wf = true ∧ (Lit.int .i64 p.bgn).wf = true ∧ (Lit.int .i64 p.mins).wf = true
theorem les_cells {H : Type} {enc : TypeId × Value → H} {W : World} {sp : Nat → Bool} {held : Bool} {fuel : Nat} {cs : List Value} {x : DataW H × List MemPlace}
    (h : DataW.trod enc Tryd.prog W 0 sp held fuel 47 cs = some x) : ∃ p : Les, cs = lesC p ∧ lesOk p := by
  obtain ⟨xs, n, _, _, hl, hlen, hf⟩ := DataW.trod_struct Tryd.underlying47 h
  rw [show Tryd.prog.cellsOf 47 = 7 by kernel_rfl] at hl
  obtain ⟨c0, c1, c2, c3, c4, c5, c6, rfl⟩ : ∃ c0 c1 c2 c3 c4 c5 c6, cs = [c0, c1, c2, c3, c4, c5, c6] := by
    match cs, hl with
    | [y0, y1, y2, y3, y4, y5, y6], _ => exact ⟨y0, y1, y2, y3, y4, y5, y6, rfl⟩
  have hl5 : xs.length = 7 := hlen
  have n3 : Tryd.prog.cellsOf 3 = 1 := by kernel_rfl
  have g0 := hf 0 _ rfl
  rw [List.getElem?_eq_getElem (by omega)] at g0
  have k0 : DataW.trod enc Tryd.prog W 0 sp held n 3 [c0] = some xs[0] := by simpa [n3] using g0
  obtain ⟨id, e0, _, v0⟩ := DataW.trod_int Tryd.underlying3 k0
  have g1 := hf 1 _ rfl
  rw [List.getElem?_eq_getElem (by omega)] at g1
  have k1 : DataW.trod enc Tryd.prog W 0 sp held n 3 [c1] = some xs[1] := by simpa [n3] using g1
  obtain ⟨cls, e1, _, v1⟩ := DataW.trod_int Tryd.underlying3 k1
  have g2 := hf 2 _ rfl
  rw [List.getElem?_eq_getElem (by omega)] at g2
  have k2 : DataW.trod enc Tryd.prog W 0 sp held n 3 [c2] = some xs[2] := by simpa [n3] using g2
  obtain ⟨tch, e2, _, v2⟩ := DataW.trod_int Tryd.underlying3 k2
  have g3 := hf 3 _ rfl
  rw [List.getElem?_eq_getElem (by omega)] at g3
  have k3 : DataW.trod enc Tryd.prog W 0 sp held n 3 [c3] = some xs[3] := by simpa [n3] using g3
  obtain ⟨room, e3, _, v3⟩ := DataW.trod_int Tryd.underlying3 k3
  have g4 := hf 4 _ rfl
  rw [List.getElem?_eq_getElem (by omega)] at g4
  have k4 : DataW.trod enc Tryd.prog W 0 sp held n 3 [c4] = some xs[4] := by simpa [n3] using g4
  obtain ⟨day, e4, _, v4⟩ := DataW.trod_int Tryd.underlying3 k4
  have g5 := hf 5 _ rfl
  rw [List.getElem?_eq_getElem (by omega)] at g5
  have k5 : DataW.trod enc Tryd.prog W 0 sp held n 3 [c5] = some xs[5] := by simpa [n3] using g5
  obtain ⟨bgn, e5, _, v5⟩ := DataW.trod_int Tryd.underlying3 k5
  have g6 := hf 6 _ rfl
  rw [List.getElem?_eq_getElem (by omega)] at g6
  have k6 : DataW.trod enc Tryd.prog W 0 sp held n 3 [c6] = some xs[6] := by simpa [n3] using g6
  obtain ⟨mins, e6, _, v6⟩ := DataW.trod_int Tryd.underlying3 k6
  simp at e0 e1 e2 e3 e4 e5 e6
  subst e0 e1 e2 e3 e4 e5 e6
  exact ⟨⟨id, cls, tch, room, day, bgn, mins⟩, rfl, v0, v1, v2, v3, v4, v5, v6⟩

/-- By value. -/
theorem les_open {H : Type} {enc : TypeId × Value → H} {W : World} {b0 : Nat} {rc : Reach} {v : Value} {d : DataW H} {p : List MemPlace}
    (hv : Value.okWide Tryd.prog W rc b0 47 v) (h : DataW.Trod enc Tryd.prog W 0 (fun _ => true) true 47 v d p) : ∃ q : Les, v = lesV q ∧ lesOk q := by
  obtain ⟨cs, rfl, hsz⟩ := okWide_struct Tryd.underlying47 hv
  obtain ⟨fuel, hf⟩ := h
  obtain ⟨q, hq, ho⟩ := les_cells hf
  refine ⟨q, ?_, ho⟩
  have : cs.toList = lesC q := by simpa [Value.cells] using hq
  unfold lesV
  congr 1
  exact Array.ext' this
end Go.Proofs.YtblbeoeklkcamaaDoor
