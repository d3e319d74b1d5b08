/- The names of the kinds, read off the program's table. -/
import Derived.Test.YtjkjaadcdolbhaaDoorKa
import Derived.OpenShut
import Derived.ChangeArms
import Derived.Lib.LaidU8
import Derived.Lib.SmallJoins
namespace Go.Proofs.YtjkjaadcdolbhaaDoor
set_option linter.unusedVariables false
open Go.RowKit

def namL : List ByteArray := [⟨#[100, 105, 114, 101, 99, 116]⟩, ⟨#[102, 105, 118, 101]⟩, ⟨#[116, 101, 110]⟩, ⟨#[98, 111, 116, 104]⟩]
def nameA (j : Nat) : ByteArray := namL.getD j ⟨#[]⟩
theorem tabnG : Tryd.prog.globalNamed "loop.example/g01006/impl.namesOfKinds" = some 0 := by kernel_rfl
theorem tabnT : (Tryd.prog.globals[0]?).map (·.type) = some 71 := by kernel_rfl
def TabN (w : World) : Prop := w.var? Tryd.prog "loop.example/g01006/impl.namesOfKinds" = some (namL.map Value.string).toArray
theorem bytes_eq {s : ByteArray} {l : List UInt8} (h : s.data.toList = l) : s = ⟨l.toArray⟩ := by
  cases s with
  | mk d => simp only at h; subst h; simp
theorem tabn_of {w : World} {l : List (String × DataW Unit)} (hL : laidMet Tryd.prog l w) (hm : ("loop.example/g01006/impl.namesOfKinds", (Rows.laid_loop_example_g01006_impl_namesOfKinds : DataW Unit)) ∈ l) : TabN w := by
  obtain ⟨g, t, cs, fuel, p, h1, h2, h3, h4⟩ := Lib.laidMet.reads hL hm
  obtain rfl := Option.some.inj (tabnG.symm.trans h1)
  obtain rfl := Option.some.inj (tabnT.symm.trans h2)
  unfold TabN
  rw [h3]
  obtain ⟨xs, m, rfl, hx, hlen, hxl, hel⟩ := DataW.trod_array Tryd.underlying71 h4
  have hc1 : Tryd.prog.cellsOf 9 = 1 := by kernel_rfl
  have hc4 : Tryd.prog.cellsOf 71 = 4 := by kernel_rfl
  rw [hc4] at hlen
  rw [hc1] at hel
  obtain ⟨c0, c1, c2, c3, hcs⟩ : ∃ c0 c1 c2 c3, cs.toList = [c0, c1, c2, c3] := by
    match hl : cs.toList, hlen with
    | [a, b, c, d], _ => exact ⟨a, b, c, d, rfl⟩
  obtain ⟨x0, x1, x2, x3, rfl⟩ : ∃ x0 x1 x2 x3, xs = [x0, x1, x2, x3] := by
    match xs, hxl with
    | [a, b, c, d], _ => exact ⟨a, b, c, d, rfl⟩
  rw [hcs] at hel
  have e := congrArg Prod.fst hx
  have k0 := hel 0 (by decide)
  have k1 := hel 1 (by decide)
  have k2 := hel 2 (by decide)
  have k3 := hel 3 (by decide)
  simp only [List.drop_zero, List.drop_succ_cons, List.take_succ_cons, List.take_zero, List.getElem?_cons_zero, List.getElem?_cons_succ, Nat.mul_one] at k0 k1 k2 k3
  obtain ⟨s0, f0, g0, -⟩ := DataW.trod_string Tryd.underlying9 k0
  obtain ⟨s1, f1, g1, -⟩ := DataW.trod_string Tryd.underlying9 k1
  obtain ⟨s2, f2, g2, -⟩ := DataW.trod_string Tryd.underlying9 k2
  obtain ⟨s3, f3, g3, -⟩ := DataW.trod_string Tryd.underlying9 k3
  subst g0 g1 g2 g3
  simp only [List.map_cons, List.map_nil, Rows.laid_loop_example_g01006_impl_namesOfKinds, DataW.agg.injEq, List.cons.injEq, DataW.lit.injEq, Lit.string.injEq, and_true] at e
  obtain ⟨e0, e1, e2, e3⟩ := e
  have b0 := bytes_eq e0.symm
  have b1 := bytes_eq e1.symm
  have b2 := bytes_eq e2.symm
  have b3 := bytes_eq e3.symm
  simp only [List.cons.injEq, and_true] at f0 f1 f2 f3
  congr 1
  apply Array.ext'
  rw [hcs, f0, f1, f2, f3, b0, b1, b2, b3]
  rfl
theorem tabn_below {w w' : World} (h : TabN w) (hb : Below w.heap.size w w') : TabN w' := Go.Joins.var_stays tabnG h hb (Nat.le_refl _)
theorem TabN.cell {w : World} (h : TabN w) (j : Nat) (hj : j < 4) : w.cell? ⟨0, j, none⟩ = some (.string (nameA j)) := by
  have := World.var?_cell tabnG h j
  rw [this]
  rcases (by omega : j = 0 ∨ j = 1 ∨ j = 2 ∨ j = 3) with rfl | rfl | rfl | rfl <;> rfl
end Go.Proofs.YtjkjaadcdolbhaaDoor
