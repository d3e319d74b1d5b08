/- A frame that comes in, opened: two ints and a slice of rods. -/
import Derived.Test.YtpdckmhhmgkaaaaFrm
import Derived.ProofKit
import Derived.OpenShut
import Derived.Lib.SmallJoins
import Derived.Deep.Slices
namespace Go.Proofs.Ytpdckmhhmgkaaaa
set_option linter.unusedVariables false
open Go.RowKit Go.ChangeShapes Go.WideShapes Go.ChangeAt

theorem rods_open {H : Type} {enc : TypeId × Value → H} {W : World} {sp : Nat → Bool} {held : Bool} {fuel : Nat} {v : Value} {x : DataW H × List MemPlace}
    (h : DataW.trod enc Try.prog W 0 sp held fuel 22 [v] = some x) : ∃ rs, RodsR W v rs := by
  rcases Go.Deep.open_slice Try.underlying22 h with ⟨hcs, _⟩ | ⟨a, len, cap, m, n, D, Pl, hcs, _, hl, hm, hmm, _, hel⟩
  · simp at hcs
    subst hcs
    exact ⟨[], none, 0, rfl, ⟨Nat.zero_le _, Nat.le_refl _⟩, fun h => absurd rfl h⟩
  · simp at hcs
    subst hcs
    have hlm : len ≤ m := by rw [hmm]; split <;> omega
    by_cases h0 : len = 0
    · subst h0
      exact ⟨[], some a, cap, rfl, ⟨Nat.zero_le _, Nat.zero_le _⟩, fun h => absurd rfl h⟩
    have each : ∀ i, i < len → ∃ r : Int × Int, W.cell? ((a.add (i * 2)).add 0) = some (.int .i64 r.1) ∧ W.cell? ((a.add (i * 2)).add 1) = some (.int .i64 r.2) := by
      intro i hi
      obtain ⟨cs', h1, h2⟩ := hel i (by omega)
      rw [show Try.prog.cellsOf 74 = 2 by kernel_rfl] at h1
      obtain ⟨_, hlen, hc⟩ := World.cells?_some h1
      obtain ⟨xs, k, rfl, _, _, hxl, hx⟩ := DataW.trod_array Try.underlying74 h2
      rw [show Try.prog.cellsOf 3 = 1 by kernel_rfl] at hx
      have e0 := hx 0 (by decide)
      have e1 := hx 1 (by decide)
      rw [List.getElem?_eq_getElem (by omega)] at e0 e1
      obtain ⟨x, ex, _, _⟩ := DataW.trod_int Try.underlying3 e0
      obtain ⟨y, ey, _, _⟩ := DataW.trod_int Try.underlying3 e1
      obtain ⟨p, q, rfl⟩ : ∃ p q, cs' = [p, q] := by
        match cs', hlen with
        | [p, q], _ => exact ⟨p, q, rfl⟩
      simp at ex ey
      subst ex; subst ey
      exact ⟨(x, y), by rw [hc 0 (by decide)]; rfl, by rw [hc 1 (by decide)]; rfl⟩
    obtain ⟨b, off, spot⟩ := a
    obtain ⟨r0, hr0, _⟩ := each 0 (by omega)
    have hspot : spot = none := by simpa [Addr.add] using World.cell?_spot hr0
    subst hspot
    have hadd : ∀ i j, ((⟨b, off, none⟩ : Addr).add i).add j = ⟨b, off + i + j, none⟩ := fun i j => by cases i <;> cases j <;> simp [Addr.add]
    have hlt := cell_lt hr0
    rw [hadd] at hlt
    obtain ⟨f, hf⟩ := Classical.axiomOfChoice (r := fun (i : Nat) (r : Int × Int) => i < len → W.cell? (((⟨b, off, none⟩ : Addr).add (i * 2)).add 0) = some (.int .i64 r.1) ∧ W.cell? (((⟨b, off, none⟩ : Addr).add (i * 2)).add 1) = some (.int .i64 r.2)) (fun i => by
      by_cases hi : i < len
      · obtain ⟨r, hr⟩ := each i hi; exact ⟨r, fun _ => hr⟩
      · exact ⟨(0, 0), fun h => absurd h hi⟩)
    refine ⟨(List.range len).map f, some ⟨b, off, none⟩, cap, by simp, by simp; exact ⟨Nat.le_trans hl hm, hl⟩, fun _ => ⟨b, off, rfl, hlt, fun i hi => ?_⟩⟩
    have hi' : i < len := by simpa using hi
    have hq := hf i hi'
    rw [hadd, hadd, Nat.add_zero] at hq
    simpa using hq

/-- A frame by value. -/
theorem frame_open {H : Type} {enc : TypeId × Value → H} {W : World} {b0 : Nat} {rc : Reach} {v : Value} {d : DataW H} {p : List MemPlace}
    (hv : Value.okWide Try.prog W rc b0 24 v) (h : DataW.Trod enc Try.prog W 0 (fun _ => true) true 24 v d p) :
    ∃ up lo sv rs, v = .agg #[.int .i64 up, .int .i64 lo, sv] ∧ RodsR W sv rs ∧ (Lit.int .i64 up).wf = true ∧ (Lit.int .i64 lo).wf = true := by
  obtain ⟨v0, v1, v2, y0, y1, y2, n, rfl, rfl, rfl, h0, h1, h2⟩ := Go.Joins.open_agg3 Try.underlying24 (by kernel_rfl) (by kernel_rfl) hv h
  obtain ⟨up, e0, _, w0⟩ := DataW.trod_int Try.underlying3 h0
  obtain ⟨lo, e1, _, w1⟩ := DataW.trod_int Try.underlying3 h1
  obtain ⟨rs, hr⟩ := rods_open h2
  simp at e0 e1
  subst e0; subst e1
  exact ⟨up, lo, v2, rs, rfl, hr, w0, w1⟩
end Go.Proofs.Ytpdckmhhmgkaaaa
