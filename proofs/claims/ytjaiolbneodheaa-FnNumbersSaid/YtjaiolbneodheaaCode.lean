/- A code that came in; the first question of each law with draws. -/
import Derived.Test.YtjaiolbneodheaaDspl
namespace Go.Proofs.Ytjaiolbneodheaa
set_option linter.unusedVariables false
open Go.RowKit

/-- Bytes that came in, read as a code. -/
theorem code_read {w : World} {a : Option Addr} {len cap : Nat} {zs : List Int} (h : (a = none ∧ len = 0 ∧ cap = 0 ∧ zs = []) ∨ ∃ x, a = some x ∧ len ≤ cap ∧ cap ≤ maxLen ∧ zs.length = cap ∧ (∀ i, i < zs.length → w.cell? (x.add i) = some (.int .u8 (zs.getD i 0))) ∧ ∀ n ∈ zs, (Lit.int .u8 n).wf = true) :
    ∃ L : List UInt8, L.length = len ∧ SlR w (.slice a len cap) (L.map fun c => .int .u8 (c.toNat : Int)) := by
  rcases h with ⟨rfl, rfl, rfl, rfl⟩ | ⟨x, rfl, h1, h2, h3, h4, h5⟩
  · exact ⟨[], rfl, none, 0, rfl, ⟨Nat.zero_le _, Nat.le_refl _⟩, fun e => absurd rfl e⟩
  · refine ⟨(zs.take len).map fun z => UInt8.ofNat z.toNat, by rw [List.length_map, List.length_take]; omega, slr_cells (by rw [List.length_map, List.length_map, List.length_take]; omega) (Nat.le_trans h1 h2) h1 (fun i hi => ?_)⟩
    rw [List.length_map, List.length_map, List.length_take] at hi
    have hz : i < zs.length := by omega
    rw [h4 i hz, List.getElem_map, List.getElem_map, List.getElem_take, List.getD_eq_getElem?_getD, List.getElem?_eq_getElem hz]
    have hw := h5 zs[i] (List.getElem_mem _)
    have hb : 0 ≤ zs[i] ∧ zs[i] ≤ 255 := by simpa [Lit.wf, IntKind.min, IntKind.max, IntKind.bits, IntKind.signed] using hw
    generalize zs[i] = z at hb
    obtain ⟨m, rfl⟩ : ∃ m : Nat, z = m := ⟨z.toNat, by omega⟩
    have hm : m < 256 := by omega
    simp [Nat.mod_eq_of_lt hm]
set_option maxRecDepth 100000 in
set_option maxHeartbeats 400000 in
theorem vBig_any (ad : Option Addr) (n cp : Nat) (w : World) (r : Bool) (hr : decide ((65536 : Int) < (n : Int)) = r) :
    Calls Try.prog 8 #[.slice ad n cp] w fun e w' => e = .returned (.bool r) ∧ w' = w := by
  subst hr
  go_enter Try.func8, Try.ntmps8
  go_wp2
  go_ret
  exact ⟨by simp, rfl⟩
end Go.Proofs.Ytjaiolbneodheaa
