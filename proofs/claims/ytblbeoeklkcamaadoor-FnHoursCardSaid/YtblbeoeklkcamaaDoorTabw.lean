/- The names of the weekdays, read off the program's table. -/
import Derived.Test.YtblbeoeklkcamaaDoorTlt
import Derived.OpenShut
import Derived.ChangeArms
import Derived.Lib.LaidU8
import Derived.Lib.SmallJoins
namespace Go.Proofs.YtblbeoeklkcamaaDoor
set_option linter.unusedVariables false
open Go.RowKit

theorem tabnG : Tryd.prog.globalNamed "loop.example/g01006/impl.weekdayNames" = some 0 := by kernel_rfl
theorem tabnT : (Tryd.prog.globals[0]?).map (·.type) = some 70 := by kernel_rfl
def TabW (w : World) : Prop := w.var? Tryd.prog "loop.example/g01006/impl.weekdayNames" = some (dayBL.map Value.string).toArray
theorem bytes_eqw {s : ByteArray} {l : List UInt8} (h : s.data.toList = l) : s = ⟨l.toArray⟩ := by
  cases s with
  | mk d => simp only at h; subst h; simp
theorem tabw_of {w : World} {l : List (String × DataW Unit)} (hL : laidMet Tryd.prog l w) (hm : ("loop.example/g01006/impl.weekdayNames", (Rows.laid_loop_example_g01006_impl_weekdayNames : DataW Unit)) ∈ l) : TabW w := by
  obtain ⟨g, t, cs, fuel, p, h1, h2, h3, h4⟩ := Lib.laidMet.reads hL hm
  obtain rfl := Option.some.inj (tabnG.symm.trans h1)
  obtain rfl := Option.some.inj (tabnT.symm.trans h2)
  unfold TabW
  rw [h3]
  obtain ⟨xs, m, rfl, hx, hlen, hxl, hel⟩ := DataW.trod_array Tryd.underlying70 h4
  have hc1 : Tryd.prog.cellsOf 9 = 1 := by kernel_rfl
  have hc4 : Tryd.prog.cellsOf 70 = 7 := by kernel_rfl
  rw [hc4] at hlen
  rw [hc1] at hel
  obtain ⟨c0, c1, c2, c3, c4, c5, c6, hcs⟩ : ∃ c0 c1 c2 c3 c4 c5 c6, cs.toList = [c0, c1, c2, c3, c4, c5, c6] := by
    match hl : cs.toList, hlen with
    | [a, b, c, d, e, f, g], _ => exact ⟨a, b, c, d, e, f, g, rfl⟩
  obtain ⟨x0, x1, x2, x3, x4, x5, x6, rfl⟩ : ∃ x0 x1 x2 x3 x4 x5 x6, xs = [x0, x1, x2, x3, x4, x5, x6] := by
    match xs, hxl with
    | [a, b, c, d, e, f, g], _ => exact ⟨a, b, c, d, e, f, g, rfl⟩
  rw [hcs] at hel
  have e := congrArg Prod.fst hx
  have k0 := hel 0 (by decide)
  have k1 := hel 1 (by decide)
  have k2 := hel 2 (by decide)
  have k3 := hel 3 (by decide)
  have k4 := hel 4 (by decide)
  have k5 := hel 5 (by decide)
  have k6 := hel 6 (by decide)
  simp only [List.drop_zero, List.drop_succ_cons, List.take_succ_cons, List.take_zero, List.getElem?_cons_zero, List.getElem?_cons_succ, Nat.mul_one] at k0 k1 k2 k3 k4 k5 k6
  obtain ⟨s0, f0, g0, -⟩ := DataW.trod_string Tryd.underlying9 k0
  obtain ⟨s1, f1, g1, -⟩ := DataW.trod_string Tryd.underlying9 k1
  obtain ⟨s2, f2, g2, -⟩ := DataW.trod_string Tryd.underlying9 k2
  obtain ⟨s3, f3, g3, -⟩ := DataW.trod_string Tryd.underlying9 k3
  obtain ⟨s4, f4, g4, -⟩ := DataW.trod_string Tryd.underlying9 k4
  obtain ⟨s5, f5, g5, -⟩ := DataW.trod_string Tryd.underlying9 k5
  obtain ⟨s6, f6, g6, -⟩ := DataW.trod_string Tryd.underlying9 k6
  subst g0 g1 g2 g3 g4 g5 g6
  simp only [List.map_cons, List.map_nil, Rows.laid_loop_example_g01006_impl_weekdayNames, DataW.agg.injEq, List.cons.injEq, DataW.lit.injEq, Lit.string.injEq, and_true] at e
  obtain ⟨e0, e1, e2, e3, e4, e5, e6⟩ := e
  have b0 := bytes_eqw e0.symm
  have b1 := bytes_eqw e1.symm
  have b2 := bytes_eqw e2.symm
  have b3 := bytes_eqw e3.symm
  have b4 := bytes_eqw e4.symm
  have b5 := bytes_eqw e5.symm
  have b6 := bytes_eqw e6.symm
  simp only [List.cons.injEq, and_true] at f0 f1 f2 f3 f4 f5 f6
  congr 1
  apply Array.ext'
  rw [hcs, f0, f1, f2, f3, f4, f5, f6, b0, b1, b2, b3, b4, b5, b6]
  rfl
theorem tabw_below {w w' : World} (h : TabW w) (hb : Below w.heap.size w w') : TabW w' := Go.Joins.var_stays tabnG h hb (Nat.le_refl _)
theorem TabW.cell {w : World} (h : TabW w) (j : Nat) (hj : j < 7) : w.cell? ⟨0, j, none⟩ = some (.string (dayB j)) := by
  have := World.var?_cell tabnG h j
  rw [this]
  rcases (by omega : j = 0 ∨ j = 1 ∨ j = 2 ∨ j = 3 ∨ j = 4 ∨ j = 5 ∨ j = 6) with rfl | rfl | rfl | rfl | rfl | rfl | rfl <;> rfl
end Go.Proofs.YtblbeoeklkcamaaDoor
