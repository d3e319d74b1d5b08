/- Parts laid as one: Frl, Frm, Rat, Mk, Frmo. -/
import Derived.Test.YthmbehknacjodaaKa
import Derived.Deep.QuietTactic
import Derived.BigQuiet
import Derived.StillTailTactics
import Derived.ProofKit
import Derived.OpenShut
import Derived.Lib.SmallJoins
import Derived.Deep.Slices
/-! Frl -/
namespace Go.Proofs.Ythmbehknacjodaa
set_option linter.unusedVariables false
open Go.RowKit

/-- A rod as a value. -/
def rodV (r : Int × Int) : Value := .agg #[.int .i64 r.1, .int .i64 r.2]

/-- The slice value v reads as these rods. -/
def RodsR (w : World) (v : Value) (rs : List (Int × Int)) : Prop :=
  ∃ a cap, v = .slice a rs.length cap ∧ (rs.length ≤ maxLen ∧ rs.length ≤ cap) ∧ (rs ≠ [] → ∃ b off, a = some ⟨b, off, none⟩ ∧ b < w.heap.size ∧ ∀ (i : Nat) (h : i < rs.length), w.cell? ⟨b, off + i * 2, none⟩ = some (.int .i64 rs[i].1) ∧ w.cell? ⟨b, off + i * 2 + 1, none⟩ = some (.int .i64 rs[i].2))
theorem RodsR.below {w w' : World} {v : Value} {rs : List (Int × Int)} (h : RodsR w v rs) {B : Nat} (hb : Below B w w') (hB : w.heap.size ≤ B) : RodsR w' v rs := by
  obtain ⟨a, cap, h1, h2, h3⟩ := h
  refine ⟨a, cap, h1, h2, fun hx => ?_⟩
  obtain ⟨b, off, g1, g2, g3⟩ := h3 hx
  exact ⟨b, off, g1, Nat.lt_of_lt_of_le g2 hb.size, fun i hi => ⟨(hb.cell (p := ⟨b, off + i * 2, none⟩) (Nat.lt_of_lt_of_le g2 hB)).trans (g3 i hi).1, (hb.cell (p := ⟨b, off + i * 2 + 1, none⟩) (Nat.lt_of_lt_of_le g2 hB)).trans (g3 i hi).2⟩⟩

/-- The cells of rods, one behind the other. -/
def flat : List (Int × Int) → List Value
  | [] => []
  | r :: t => .int .i64 r.1 :: .int .i64 r.2 :: flat t
theorem flat_len : ∀ rs : List (Int × Int), (flat rs).length = rs.length * 2
  | [] => rfl
  | _ :: t => by simp [flat, flat_len t]; omega
theorem flat_at : ∀ (rs : List (Int × Int)) (i : Nat) (h : i < rs.length), (flat rs)[i * 2]? = some (.int .i64 rs[i].1) ∧ (flat rs)[i * 2 + 1]? = some (.int .i64 rs[i].2)
  | r :: t, 0, _ => ⟨rfl, rfl⟩
  | r :: t, i + 1, h => by
    have := flat_at t i (by simpa using h)
    rw [show (i + 1) * 2 = i * 2 + 2 by omega]
    simpa [flat] using this
theorem RodsR.of_own {w : World} {B : Nat} {e : TypeId} {v : Value} {rs : List (Int × Int)} (h : w.ownsRow B e 2 v rs.length (flat rs)) : RodsR w v rs := by
  have h' := h
  rcases h.2 with ⟨rfl, h0⟩ | ⟨g, cap, cur, rfl, hb, hg, hn, hc, hsz, ht⟩
  · exact ⟨none, 0, by rw [h0], by rw [h0]; exact ⟨Nat.zero_le _, Nat.le_refl _⟩, fun hx => absurd (List.length_eq_zero_iff.1 h0) hx⟩
  · refine ⟨_, cap, rfl, ⟨Nat.le_trans hn hc, hn⟩, fun _ => ⟨g, 0, rfl, (h'.lt g rfl).2, fun i hi => ?_⟩⟩
    obtain ⟨f1, f2⟩ := flat_at rs i hi
    have q1 := h'.cells (g := g) rfl _ _ f1
    have q2 := h'.cells (g := g) rfl _ _ f2
    rw [add_off] at q1 q2
    exact ⟨q1, by rw [Nat.add_assoc]; exact q2⟩

theorem Try.infoRod : (Try.prog.info? 77).map (fun i => (i.zero, i.size, i.bytes)) = some (some (.agg #[.int .i64 0, .int .i64 0]), 2, 16) := by kernel_rfl

end Go.Proofs.Ythmbehknacjodaa

/-! Frm -/
namespace Go.Proofs.Ythmbehknacjodaa
set_option linter.unusedVariables false
open Go.RowKit

/-- A frame as a value: its rods are a slice. -/
def frV (up lo : Int) (sv : Value) : Value := .agg #[.int .i64 up, .int .i64 lo, sv]

end Go.Proofs.Ythmbehknacjodaa

/-! Rat -/
namespace Go.Proofs.Ythmbehknacjodaa
set_option linter.unusedVariables false
open Go.RowKit

theorem cell2 {w : World} {b : Nat} {x y : Value} {T : TypeId} (h : w.heap[b]? = some (.cells #[x, y] T (0, 0))) :
    w.cell? ⟨b, 0, none⟩ = some x ∧ w.cell? ⟨b, 1, none⟩ = some y ∧ w.frozen? ⟨b, 0, none⟩ = false ∧ w.frozen? ⟨b, 1, none⟩ = false := by
  simp [World.cell?, World.frozen?, h]

theorem cell1 {w : World} {b : Nat} {x : Value} {T : TypeId} (h : w.heap[b]? = some (.cells #[x] T (0, 0))) : w.cell? ⟨b, 0, none⟩ = some x ∧ w.frozen? ⟨b, 0, none⟩ = false := by
  simp [World.cell?, World.frozen?, h]
theorem rods_at {w : World} {a : Option Addr} {c : Nat} {rs : List (Int × Int)} (h : RodsR w (.slice a rs.length c) rs) : ∀ w' : World, Below w.heap.size w w' → ∀ k, (hk : k < rs.length) → ∃ b o, a = some ⟨b, o, none⟩ ∧ w'.cell? ⟨b, o + k * 2, none⟩ = some (.int .i64 rs[k].1) ∧ w'.cell? ⟨b, o + k * 2 + 1, none⟩ = some (.int .i64 rs[k].2) := by
  intro w' hb k hk
  obtain ⟨a', c', e, _, h3⟩ := h
  obtain ⟨b, off, ha, hlt, hc⟩ := h3 (by intro e; subst e; simp at hk)
  have : a = a' := by injection e
  subst this
  exact ⟨b, off, ha, (hb.cell (p := ⟨b, off + k * 2, none⟩) hlt).trans (hc k hk).1, (hb.cell (p := ⟨b, off + k * 2 + 1, none⟩) hlt).trans (hc k hk).2⟩
/-- The first place of a list where P is false, or its length. -/
theorem first_bad (n : Nat) (P : (i : Nat) → i < n → Prop) : ∃ p, p ≤ n ∧ (∀ i (h : i < n), i < p → P i h) ∧ ∀ h : p < n, ¬ P p h := by
  by_cases hex : ∃ k, k < n ∧ ∃ hk : k < n, ¬ P k hk
  · obtain ⟨p, hp, ⟨hk, hb⟩, hpre⟩ := first_idx n (fun k => ∃ hk : k < n, ¬ P k hk) hex
    exact ⟨p, Nat.le_of_lt hp, fun i h hi => Classical.byContradiction fun hc => hpre i hi ⟨h, hc⟩, fun _ => hb⟩
  · exact ⟨n, Nat.le_refl _, fun i h _ => Classical.byContradiction fun hc => hex ⟨i, h, h, hc⟩, fun h => absurd h (Nat.lt_irrefl _)⟩

theorem flat_of (xs : List Value) (rs : List (Int × Int)) (hl : xs.length = rs.length * 2) (h : ∀ j (h : j < rs.length), xs[j * 2]? = some (.int .i64 rs[j].1) ∧ xs[j * 2 + 1]? = some (.int .i64 rs[j].2)) : xs = flat rs := by
  apply List.ext_getElem?
  intro j
  by_cases hj : j < rs.length * 2
  · have hp := h (j / 2) (by omega)
    have hf := flat_at rs (j / 2) (by omega)
    by_cases hod : j % 2 = 0
    · have e : j / 2 * 2 = j := by omega
      rw [e] at hp hf
      rw [hp.1, hf.1]
    · have e : j / 2 * 2 + 1 = j := by omega
      rw [e] at hp hf
      rw [hp.2, hf.2]
  · rw [List.getElem?_eq_none (by omega), List.getElem?_eq_none (by rw [flat_len]; omega)]

end Go.Proofs.Ythmbehknacjodaa

/-! Mk -/
namespace Go.Proofs.Ythmbehknacjodaa
set_option linter.unusedVariables false
open Go.RowKit

end Go.Proofs.Ythmbehknacjodaa

/-! Frmo -/
namespace Go.Proofs.Ythmbehknacjodaa
set_option linter.unusedVariables false
open Go.RowKit Go.ChangeShapes Go.WideShapes Go.ChangeAt

set_option maxRecDepth 100000 in
theorem rods_open {H : Type} {enc : TypeId × Value → H} {W : World} {sp : Nat → Bool} {held : Bool} {fuel : Nat} {v : Value} {x : DataW H × List MemPlace}
    (h : DataW.trod enc Try.prog W 0 sp held fuel 34 [v] = some x) : ∃ rs, RodsR W v rs := by
  rcases Go.Deep.open_slice Try.underlying34 h with ⟨hcs, _⟩ | ⟨a, len, cap, m, n, D, Pl, hcs, _, hl, hm, hmm, _, hel⟩
  · simp at hcs
    subst hcs
    exact ⟨[], none, 0, rfl, ⟨Nat.zero_le _, Nat.le_refl _⟩, fun h => absurd rfl h⟩
  · simp at hcs
    subst hcs
    have hlm : len ≤ m := by rw [hmm]; split <;> omega
    by_cases h0 : len = 0
    · subst h0
      exact ⟨[], some a, cap, rfl, ⟨Nat.zero_le _, Nat.zero_le _⟩, fun h => absurd rfl h⟩
    have each : ∀ i, i < len → ∃ r : Int × Int, W.cell? ((a.add (i * 2)).add 0) = some (.int .i64 r.1) ∧ W.cell? ((a.add (i * 2)).add 1) = some (.int .i64 r.2) := by
      intro i hi
      obtain ⟨cs', h1, h2⟩ := hel i (by omega)
      rw [show Try.prog.cellsOf 77 = 2 by kernel_rfl] at h1
      obtain ⟨_, hlen, hc⟩ := World.cells?_some h1
      obtain ⟨xs, k, rfl, _, _, hxl, hx⟩ := DataW.trod_array Try.underlying77 h2
      rw [show Try.prog.cellsOf 3 = 1 by kernel_rfl] at hx
      have e0 := hx 0 (by decide)
      have e1 := hx 1 (by decide)
      rw [List.getElem?_eq_getElem (by omega)] at e0 e1
      obtain ⟨x, ex, _, _⟩ := DataW.trod_int Try.underlying3 e0
      obtain ⟨y, ey, _, _⟩ := DataW.trod_int Try.underlying3 e1
      obtain ⟨p, q, rfl⟩ : ∃ p q, cs' = [p, q] := by
        match cs', hlen with
        | [p, q], _ => exact ⟨p, q, rfl⟩
      simp at ex ey
      subst ex; subst ey
      exact ⟨(x, y), by rw [hc 0 (by decide)]; rfl, by rw [hc 1 (by decide)]; rfl⟩
    obtain ⟨b, off, spot⟩ := a
    obtain ⟨r0, hr0, _⟩ := each 0 (by omega)
    have hspot : spot = none := by simpa [Addr.add] using World.cell?_spot hr0
    subst hspot
    have hadd : ∀ i j, ((⟨b, off, none⟩ : Addr).add i).add j = ⟨b, off + i + j, none⟩ := fun i j => by cases i <;> cases j <;> simp [Addr.add]
    have hlt := cell_lt hr0
    rw [hadd] at hlt
    obtain ⟨f, hf⟩ := Classical.axiomOfChoice (r := fun (i : Nat) (r : Int × Int) => i < len → W.cell? (((⟨b, off, none⟩ : Addr).add (i * 2)).add 0) = some (.int .i64 r.1) ∧ W.cell? (((⟨b, off, none⟩ : Addr).add (i * 2)).add 1) = some (.int .i64 r.2)) (fun i => by
      by_cases hi : i < len
      · obtain ⟨r, hr⟩ := each i hi; exact ⟨r, fun _ => hr⟩
      · exact ⟨(0, 0), fun h => absurd h hi⟩)
    refine ⟨(List.range len).map f, some ⟨b, off, none⟩, cap, by simp, by simp; exact ⟨Nat.le_trans hl hm, hl⟩, fun _ => ⟨b, off, rfl, hlt, fun i hi => ?_⟩⟩
    have hi' : i < len := by simpa using hi
    have hq := hf i hi'
    rw [hadd, hadd, Nat.add_zero] at hq
    simpa using hq

end Go.Proofs.Ythmbehknacjodaa
