/- Lesson as an argument, and slices of it, opened. -/
import Derived.Test.YtblbeoeklkcamaaLessons
import Derived.ProofKit
import Derived.OpenShut
import Derived.Lib.SmallJoins
import Derived.Deep.Slices
namespace Go.Proofs.Ytblbeoeklkcamaa
set_option linter.unusedVariables false
open Go.RowKit Go.ChangeShapes Go.WideShapes Go.ChangeAt

def lesOk (p : Les) : Prop := (Lit.int .i64 p.id).wf = true ∧ (Lit.int .i64 p.cls).wf = true ∧ (Lit.int .i64 p.tch).wf = true ∧ (Lit.int .i64 p.room).wf = true ∧ (Lit.int .i64 p.day).wf = true ∧ (Lit.int .i64 p.bgn).wf = true ∧ (Lit.int .i64 p.mins).wf = true
theorem les_cells {H : Type} {enc : TypeId × Value → H} {W : World} {sp : Nat → Bool} {held : Bool} {fuel : Nat} {cs : List Value} {x : DataW H × List MemPlace}
    (h : DataW.trod enc Try.prog W 0 sp held fuel 48 cs = some x) : ∃ p : Les, cs = lesC p ∧ lesOk p := by
  obtain ⟨xs, n, _, _, hl, hlen, hf⟩ := DataW.trod_struct Try.underlying48 h
  rw [show Try.prog.cellsOf 48 = 7 by kernel_rfl] at hl
  obtain ⟨c0, c1, c2, c3, c4, c5, c6, rfl⟩ : ∃ c0 c1 c2 c3 c4 c5 c6, cs = [c0, c1, c2, c3, c4, c5, c6] := by
    match cs, hl with
    | [y0, y1, y2, y3, y4, y5, y6], _ => exact ⟨y0, y1, y2, y3, y4, y5, y6, rfl⟩
  have hl5 : xs.length = 7 := hlen
  have n3 : Try.prog.cellsOf 3 = 1 := by kernel_rfl
  have g0 := hf 0 _ rfl
  rw [List.getElem?_eq_getElem (by omega)] at g0
  have k0 : DataW.trod enc Try.prog W 0 sp held n 3 [c0] = some xs[0] := by simpa [n3] using g0
  obtain ⟨id, e0, _, v0⟩ := DataW.trod_int Try.underlying3 k0
  have g1 := hf 1 _ rfl
  rw [List.getElem?_eq_getElem (by omega)] at g1
  have k1 : DataW.trod enc Try.prog W 0 sp held n 3 [c1] = some xs[1] := by simpa [n3] using g1
  obtain ⟨cls, e1, _, v1⟩ := DataW.trod_int Try.underlying3 k1
  have g2 := hf 2 _ rfl
  rw [List.getElem?_eq_getElem (by omega)] at g2
  have k2 : DataW.trod enc Try.prog W 0 sp held n 3 [c2] = some xs[2] := by simpa [n3] using g2
  obtain ⟨tch, e2, _, v2⟩ := DataW.trod_int Try.underlying3 k2
  have g3 := hf 3 _ rfl
  rw [List.getElem?_eq_getElem (by omega)] at g3
  have k3 : DataW.trod enc Try.prog W 0 sp held n 3 [c3] = some xs[3] := by simpa [n3] using g3
  obtain ⟨room, e3, _, v3⟩ := DataW.trod_int Try.underlying3 k3
  have g4 := hf 4 _ rfl
  rw [List.getElem?_eq_getElem (by omega)] at g4
  have k4 : DataW.trod enc Try.prog W 0 sp held n 3 [c4] = some xs[4] := by simpa [n3] using g4
  obtain ⟨day, e4, _, v4⟩ := DataW.trod_int Try.underlying3 k4
  have g5 := hf 5 _ rfl
  rw [List.getElem?_eq_getElem (by omega)] at g5
  have k5 : DataW.trod enc Try.prog W 0 sp held n 3 [c5] = some xs[5] := by simpa [n3] using g5
  obtain ⟨bgn, e5, _, v5⟩ := DataW.trod_int Try.underlying3 k5
  have g6 := hf 6 _ rfl
  rw [List.getElem?_eq_getElem (by omega)] at g6
  have k6 : DataW.trod enc Try.prog W 0 sp held n 3 [c6] = some xs[6] := by simpa [n3] using g6
  obtain ⟨mins, e6, _, v6⟩ := DataW.trod_int Try.underlying3 k6
  simp at e0 e1 e2 e3 e4 e5 e6
  subst e0 e1 e2 e3 e4 e5 e6
  exact ⟨⟨id, cls, tch, room, day, bgn, mins⟩, rfl, v0, v1, v2, v3, v4, v5, v6⟩

theorem less_open {H : Type} {enc : TypeId × Value → H} {W : World} {sp : Nat → Bool} {held : Bool} {fuel : Nat} {v : Value} {x : DataW H × List MemPlace}
    (h : DataW.trod enc Try.prog W 0 sp held fuel 53 [v] = some x) : ∃ ps, RowsR 7 lesC W v ps ∧ ∀ p ∈ ps, lesOk p := by
  rcases Go.Deep.open_slice Try.underlying53 h with ⟨hcs, _⟩ | ⟨a, len, cap, m, n, D, Pl, hcs, _, hl, hm, hmm, _, hel⟩
  · simp at hcs
    subst hcs
    exact ⟨[], ⟨none, 0, rfl, ⟨Nat.zero_le _, Nat.le_refl _⟩, fun h => absurd h (by simp)⟩, fun p h => by cases h⟩
  · simp at hcs
    subst hcs
    have hlm : len ≤ m := by rw [hmm]; split <;> omega
    by_cases h0 : len = 0
    · subst h0
      exact ⟨[], ⟨some a, cap, rfl, ⟨Nat.zero_le _, Nat.zero_le _⟩, fun h => absurd h (by simp)⟩, fun p h => by cases h⟩
    have each : ∀ i, i < len → ∃ p : Les, lesOk p ∧ ∀ j, j < 7 → W.cell? ((a.add (i * 7)).add j) = (lesC p)[j]? := by
      intro i hi
      obtain ⟨cs', h1, h2⟩ := hel i (by omega)
      rw [show Try.prog.cellsOf 48 = 7 by kernel_rfl] at h1
      obtain ⟨_, hlen, hc⟩ := World.cells?_some h1
      obtain ⟨p, rfl, hp⟩ := les_cells h2
      exact ⟨p, hp, fun j hj => hc j hj⟩
    obtain ⟨b, off, spot⟩ := a
    obtain ⟨p0, _, hr0⟩ := each 0 (by omega)
    have hr00 := hr0 0 (by omega)
    have hspot : spot = none := by simpa [Addr.add] using World.cell?_spot hr00
    subst hspot
    have hadd : ∀ i j, ((⟨b, off, none⟩ : Addr).add i).add j = ⟨b, off + i + j, none⟩ := fun i j => by cases i <;> cases j <;> simp [Addr.add]
    have hlt := cell_lt hr00
    rw [hadd] at hlt
    obtain ⟨f, hf⟩ := Classical.axiomOfChoice (r := fun (i : Nat) (p : Les) => i < len → lesOk p ∧ ∀ j, j < 7 → W.cell? (((⟨b, off, none⟩ : Addr).add (i * 7)).add j) = (lesC p)[j]?) (fun i => by
      by_cases hi : i < len
      · obtain ⟨p, hp⟩ := each i hi; exact ⟨p, fun _ => hp⟩
      · exact ⟨p0, fun h => absurd h hi⟩)
    refine ⟨(List.range len).map f, ⟨some ⟨b, off, none⟩, cap, by simp, by simp; exact ⟨Nat.le_trans hl hm, hl⟩, fun _ => ⟨b, off, rfl, hlt, fun i hi j hj => ?_⟩⟩, fun p hp => ?_⟩
    · have hi' : i < len := by simpa using hi
      have hq := (hf i hi').2 j hj
      rw [hadd] at hq
      simpa using hq
    · obtain ⟨i, hi, rfl⟩ := List.mem_map.1 hp
      exact (hf i (by simpa using hi)).1

/-- By value. -/
theorem les_open {H : Type} {enc : TypeId × Value → H} {W : World} {b0 : Nat} {rc : Reach} {v : Value} {d : DataW H} {p : List MemPlace}
    (hv : Value.okWide Try.prog W rc b0 48 v) (h : DataW.Trod enc Try.prog W 0 (fun _ => true) true 48 v d p) : ∃ q : Les, v = lesV q ∧ lesOk q := by
  obtain ⟨cs, rfl, hsz⟩ := okWide_struct Try.underlying48 hv
  obtain ⟨fuel, hf⟩ := h
  obtain ⟨q, hq, ho⟩ := les_cells hf
  refine ⟨q, ?_, ho⟩
  have : cs.toList = lesC q := by simpa [Value.cells] using hq
  unfold lesV
  congr 1
  exact Array.ext' this
end Go.Proofs.Ytblbeoeklkcamaa
